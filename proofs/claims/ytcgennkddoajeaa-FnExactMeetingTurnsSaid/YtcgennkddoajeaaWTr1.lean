/-
  The walks of laws.FnExactValidPair, FnExactMeetingTurns, FnExactValidTrain.
-/
import Derived.Test.YtcgennkddoajeaaTrA
namespace Go.Proofs.Ytcgennkddoajeaa
open Go.RowKit

set_option maxHeartbeats 1000000 in
theorem FnExactValidPair_walk (x y : Int) (w : World) (_h1 : -9223372036854775808 ≤ x ∧ x ≤ 9223372036854775807) (_h2 : -9223372036854775808 ≤ y ∧ y ≤ 9223372036854775807) :
    Calls Try.prog 6 #[.agg #[.int .i64 x, .int .i64 y]] w fun e w' => e = .returned (.bool true) ∧ Below w.heap.size w w' := by
  clear _h1 _h2
  generalize hr : okP (x, y) = r
  have HR := Lib.hid hr
  clear hr
  go_enter Try.func6, Try.ntmps6
  go_wp2_with fail
  refine (toPair_any _ _ _).mono ?_
  rintro e w1 ⟨rfl, hb1⟩
  have B1 := Lib.hid ((Box2.new w x y 49).keep hb1)
  have L1 := Lib.hid (bT (bA (bR w) _) hb1)
  clear hb1
  go_wp2_with fail
  refine (ValidPairS_any _ _ _).mono ?_
  rw [HR.out]
  rintro e w2 ⟨rfl, hb2⟩
  have B2 := Lib.hid (B1.out.keep hb2)
  have L2 := Lib.hid (bT L1.out hb2)
  clear hb2 B1 L1
  obtain ⟨c0, c1, c2, c3, c4⟩ := B2.out
  go_wp2_with fail
  refine (toPair_any _ _ _).mono ?_
  rintro e w3 ⟨rfl, hb3⟩
  have L3 := Lib.hid (bT L2.out hb3)
  clear hb3 L2
  go_wp2_with fail
  refine (ValidPairI_any _ _ _).mono ?_
  rw [HR.out]
  rintro e w4 ⟨rfl, hb4⟩
  have L4 := Lib.hid (bT L3.out hb4)
  clear hb4 L3 B2 c0 c1 c2 c3 c4
  cases r
  · go_wp2_with fail
    go_ret
    exact ⟨rfl, L4.out⟩
  · go_wp2_with fail
    go_ret
    exact ⟨rfl, L4.out⟩
set_option maxHeartbeats 1000000 in
theorem FnExactMeetingTurns_walk (x y : Int) (w : World) (_h1 : -9223372036854775808 ≤ x ∧ x ≤ 9223372036854775807) (_h2 : -9223372036854775808 ≤ y ∧ y ≤ 9223372036854775807) :
    Calls Try.prog 12 #[.agg #[.int .i64 x, .int .i64 y]] w fun e w' => e = .returned (.bool true) ∧ Below w.heap.size w w' := by
  clear _h1 _h2
  generalize hr : mtN x y = r
  have HR := Lib.hid hr
  generalize hs : mtC x y = s
  have HS := Lib.hid hs
  clear hr hs
  have n1 : (r != r) = false := by simp
  have n2 : (s != s) = false := by simp
  go_enter Try.func12, Try.ntmps12
  go_wp2_with fail
  refine (toPair_any _ _ _).mono ?_
  rintro e w1 ⟨rfl, hb1⟩
  have B1 := Lib.hid ((Box2.new w x y 49).keep hb1)
  have L1 := Lib.hid (bT (bA (bR w) _) hb1)
  clear hb1
  go_wp2_with fail
  refine (MeetingTurnsS_any _ _ _).mono ?_
  rw [HR.out, HS.out]
  rintro e w2 ⟨rfl, hb2⟩
  have B2 := Lib.hid (B1.out.keep hb2)
  have L2 := Lib.hid (bT L1.out hb2)
  clear hb2 B1 L1
  obtain ⟨c0, c1, c2, c3, c4⟩ := B2.out
  go_wp2_with fail
  refine (toPair_any _ _ _).mono ?_
  rintro e w3 ⟨rfl, hb3⟩
  have L3 := Lib.hid (bT L2.out hb3)
  clear hb3 L2
  go_wp2_with fail
  refine (MeetingTurnsI_any _ _ _).mono ?_
  rw [HR.out, HS.out]
  rintro e w4 ⟨rfl, hb4⟩
  have L4 := Lib.hid (bT L3.out hb4)
  clear hb4 L3 B2 c0 c1 c2 c3 c4
  go_wp2_with fail
  go_ret
  exact ⟨rfl, L4.out⟩
set_option maxHeartbeats 2000000 in
theorem FnExactValidTrain_walk (a : Option Addr) (len cap : Nat) (ps : List (Int × Int)) (w : World) (h : IsPR w a len cap ps) :
    Calls Try.prog 7 #[.slice a len cap] w fun e w' => e = .returned (.bool true) ∧ Below w.heap.size w w' := by
  obtain ⟨⟨l1, l2⟩, l3, _, _⟩ := id h
  unfold maxLen at l2
  have HA := Lib.hid h
  have HL3 := Lib.hid l3
  clear h l3
  by_cases hl : 1048576 < len
  · go_enter Try.func7, Try.ntmps7
    go_wp2_with fail
    refine (szPairS_no _ _ _ _ _ (by omega) (by omega) (by omega) (by omega)).mono ?_
    rintro e w1 ⟨rfl, rfl⟩
    go_wp2_with fail
    go_ret
    exact ⟨rfl, bR _⟩
  · have hlen : len ≤ 1048576 := by omega
    have hmax : ps.length ≤ 1000000000000 := by rw [HL3.out]; omega
    generalize hr : okT ps = r
    have HR := Lib.hid hr
    clear hl hr
    have HT := Lib.hid (fun W (hW : IsPR W a len cap ps) => toPairS_any a len cap ps W hW hlen)
    go_enter Try.func7, Try.ntmps7
    go_wp2_with fail
    refine (szPairS_yes _ _ _ _ _ (by omega) (by omega) (by omega)).mono ?_
    rintro e w1 ⟨rfl, rfl⟩
    go_wp2_with fail
    refine (HT.out _ HA.out).mono ?_
    rintro e w1 ⟨rfl, hr1, hb1⟩
    have V1 := Lib.hid (slP_of hr1)
    have B1 := Lib.hid hb1
    clear hr1 hb1
    go_wp2_with fail
    refine (ValidTrainS_any ps _ _ V1.out hmax).mono ?_
    rw [HR.out]
    rintro e w2 ⟨rfl, hb2⟩
    have B2 := Lib.hid (bT B1.out hb2)
    clear hb2 B1 V1
    go_wp2_with fail
    refine (HT.out _ (HA.out.keep B2.out)).mono ?_
    rintro e w3 ⟨rfl, hr3, hb3⟩
    have V3 := Lib.hid (slP_of hr3)
    have B3 := Lib.hid (bT B2.out hb3)
    clear hr3 hb3 B2
    go_wp2_with fail
    refine (ValidTrainI_any ps _ _ V3.out hmax).mono ?_
    rw [HR.out]
    rintro e w4 ⟨rfl, hb4⟩
    have V4 := Lib.hid (V3.out.keep hb4)
    have B4 := Lib.hid (bT B3.out hb4)
    clear hb4 B3 V3
    have hne : (r != r) = false := by simp
    go_wp2_with fail
    refine (HT.out _ (HA.out.keep B4.out)).mono ?_
    rintro e w5 ⟨rfl, hr5, hb5⟩
    have V5 := Lib.hid (slP_of hr5)
    have V45 := Lib.hid (V4.out.keep hb5)
    have B5 := Lib.hid (bT B4.out hb5)
    clear hr5 hb5 B4 V4
    go_wp2_with fail
    refine (eqPairS_same ps _ _ _ V45.out V5.out hmax).mono ?_
    rintro e w6 ⟨rfl, hb6⟩
    go_wp2_with fail
    go_ret
    exact ⟨rfl, bT B5.out hb6⟩
end Go.Proofs.Ytcgennkddoajeaa

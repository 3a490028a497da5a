/-
  The contracts of spec.l07Ok, spec.ValidEpi, laws.toEpi; the walks of laws.FnExactEpiFaults and laws.FnExactValidEpi.
-/
import Derived.Test.YtcklcledchboiaaDoorEpS
namespace Go.Proofs.YtcklcledchboiaaDoor
open Go.RowKit

theorem l07Ok_any (s r p c : Int) (w : World) :
    Calls Tryd.prog 55 #[.agg #[.int .i64 s, .int .i64 r, .int .i64 p, .int .i64 c]] w (BoolBel (okE s r p c) w) := by
  have L1 := Lib.hid (bA (bR w) (.cells #[.int .i64 s, .int .i64 r, .int .i64 p, .int .i64 c] 25))
  have HE := Lib.hid (epF_ok s r p c)
  go_enter Tryd.func55, Tryd.ntmps55
  go_wp2_with fail
  refine (EpiFaultsS_any s r p c _).mono ?_
  rintro e w1 ⟨v, rfl, hr⟩
  obtain ⟨ao, cap, rfl⟩ := hr.slS
  have LB := Lib.hid (bT L1.out hr.2)
  clear hr
  go_wp2_with fail
  go_ret
  exact ⟨ret_bool (by rw [← HE.out]; first | rfl | (rw [Bool.eq_iff_iff]; simp)), LB.out⟩
theorem ValidEpiS_any (s r p c : Int) (w : World) :
    Calls Tryd.prog 28 #[.agg #[.int .i64 s, .int .i64 r, .int .i64 p, .int .i64 c]] w (BoolBel (okE s r p c) w) := by
  have L1 := Lib.hid (bA (bR w) (.cells #[.int .i64 s, .int .i64 r, .int .i64 p, .int .i64 c] 25))
  go_enter Tryd.func28, Tryd.ntmps28
  go_wp2_with fail
  refine (l07Ok_any s r p c _).mono ?_
  rintro e w1 ⟨rfl, hb⟩
  go_wp2_with fail
  go_ret
  exact ⟨rfl, bT L1.out hb⟩
set_option maxHeartbeats 1000000 in
theorem toEpi_any (s r p c : Int) (w : World) :
    Calls Tryd.prog 23 #[.agg #[.int .i64 s, .int .i64 r, .int .i64 p, .int .i64 c]] w fun e w' => e = .returned (.agg #[.int .i64 s, .int .i64 r, .int .i64 p, .int .i64 c]) ∧ Below w.heap.size w w' := by
  go_enter Tryd.func23, Tryd.ntmps23
  go_wp2
  exact bodyPost_ret (v := .agg #[.int .i64 s, .int .i64 r, .int .i64 p, .int .i64 c]) (by simp [results, Tryd.results23, go_sem]) rfl ⟨rfl, by first | exact bA (bA (bA (bR _) _) _) _ | exact bA (bA (bR _) _) _⟩
set_option maxHeartbeats 1000000 in
theorem FnExactValidEpi_walk (s r p c : Int) (w : World) (hS : Sines w) :
    Calls Tryd.prog 5 #[.agg #[.int .i64 s, .int .i64 r, .int .i64 p, .int .i64 c]] w fun e w' => e = .returned (.bool true) ∧ Below w.heap.size w w' := by
  have B0 := Lib.hid (Box4.new w s r p c 37)
  have L0 := Lib.hid (bA (bR w) (.cells #[.int .i64 s, .int .i64 r, .int .i64 p, .int .i64 c] 37))
  have HS := Lib.hid hS
  clear hS
  go_enter Tryd.func5, Tryd.ntmps5
  go_wp2_with fail
  refine (toEpi_any _ _ _ _ _).mono ?_
  rintro e w1 ⟨rfl, hb⟩
  have L1 := Lib.hid (bT L0.out hb)
  have B1 := Lib.hid (B0.out.keep hb)
  clear hb
  go_wp2_with fail
  refine (ValidEpiS_any _ _ _ _ _).mono ?_
  rintro e w2 ⟨rfl, hb⟩
  have L2 := Lib.hid (bT L1.out hb)
  obtain ⟨c0, c1, c2, c3, c4⟩ := B1.out.keep hb
  clear hb
  go_wp2_with fail
  refine (toEpi_any _ _ _ _ _).mono ?_
  rintro e w3 ⟨rfl, hb⟩
  have L3 := Lib.hid (bT L2.out hb)
  clear hb c0 c1 c2 c3 c4
  go_wp2_with fail
  refine (ValidEpiI_any _ _ _ _ _ (HS.out.keep L3.out)).mono ?_
  rintro e w4 ⟨rfl, hb⟩
  have L4 := Lib.hid (bT L3.out hb)
  clear hb
  cases okE s r p c
  all_goals
    go_wp2_with fail
    go_ret
    exact ⟨rfl, L4.out⟩
set_option maxRecDepth 100000 in
set_option maxHeartbeats 4000000 in
theorem FnExactEpiFaults_walk (s r p c : Int) (w : World) (hS : Sines w) :
    Calls Tryd.prog 4 #[.agg #[.int .i64 s, .int .i64 r, .int .i64 p, .int .i64 c]] w fun e w' => e = .returned (.bool true) ∧ Below w.heap.size w w' := by
  have B0 := Lib.hid (Box4.new w s r p c 37)
  have L0 := Lib.hid (bA (bR w) (.cells #[.int .i64 s, .int .i64 r, .int .i64 p, .int .i64 c] 37))
  have HS := Lib.hid hS
  clear hS
  have hmax := epF_len s r p c
  generalize hts : epF s r p c = ts at hmax
  have HT := Lib.hid hts
  clear hts
  go_enter Tryd.func4, Tryd.ntmps4
  go_wp2_with fail
  refine (toEpi_any _ _ _ _ _).mono ?_
  rintro e w1 ⟨rfl, hb⟩
  have L1 := Lib.hid (bT L0.out hb)
  have B1 := Lib.hid (B0.out.keep hb)
  clear hb
  go_wp2_with fail
  refine (EpiFaultsS_any _ _ _ _ _).mono ?_
  rw [HT.out]
  rintro e w2 ⟨v0, rfl, hr⟩
  have L2 := Lib.hid (bT L1.out hr.2)
  have V0 := Lib.hid (slS_of hr.1)
  have B2 := Lib.hid (B1.out.keep hr.2)
  clear hr B1 B0
  obtain ⟨c0, c1, c2, c3, c4⟩ := B2.out
  go_wp2_with fail
  refine (toEpi_any _ _ _ _ _).mono ?_
  rintro e w3 ⟨rfl, hb⟩
  have L3 := Lib.hid (bT L2.out hb)
  have V03 := Lib.hid (V0.out.keep hb)
  have B3 := Lib.hid (B2.out.keep hb)
  clear hb c0 c1 c2 c3 c4
  go_wp2_with fail
  refine (EpiFaultsI_any _ _ _ _ _ (HS.out.keep L3.out)).mono ?_
  rw [HT.out]
  rintro e w4 ⟨v1, rfl, hr⟩
  have L4 := Lib.hid (bT L3.out hr.2)
  have V04 := Lib.hid (V03.out.keep hr.2)
  have B4 := Lib.hid (B3.out.keep hr.2)
  have V1 := Lib.hid hr.1
  have h34 := hr.2.size
  have HM := Lib.hid (fun (r : Nat) (e : v1.ownBlock = some r) => (own_blk hr.1 r e).1)
  have HB4 := Lib.hid hr.2
  clear hr
  go_wp2_with fail
  refine (eqStringS_same ts v1 v0 w4 (slS_of V1.out) V04.out (by omega)).mono ?_
  rintro e w5 ⟨rfl, m5, rfl⟩
  go_wp2_with fail
  refine (markStringS_any 1 ts w3.heap.size v1 (w4.drewN m5) V1.out (by omega) (by omega) (by omega)).mono ?_
  rintro e w6 ⟨rfl, hv6, hg6⟩
  have H26 : Below w3.heap.size w3 w6 := bT2 (bD HB4.out m5) (grown_bel hg6 HM.out h34)
  have L6 := Lib.hid (bT L3.out H26)
  have V06 := Lib.hid (V03.out.keep H26)
  have B6 := Lib.hid (B3.out.keep H26)
  have V6 := Lib.hid (slS_of hv6)
  have hne2 : (((1 + ts.length : Nat) : Int) != ((1 + ts.length : Nat) : Int)) = false := by simp
  clear H26 hv6 hg6 HM HB4 V0 L4 V04 V1 h34 V03 B3 B4
  go_wp2_with fail
  refine (heldStringS_same 1 ts.length v1 w6 V6.out (by omega) (by omega) (by omega)).mono ?_
  rintro e w7 ⟨rfl, hb7⟩
  have L7 := Lib.hid (bT L6.out hb7)
  have V07 := Lib.hid (V06.out.keep hb7)
  have V7 := Lib.hid (V6.out.keep hb7)
  have B7 := Lib.hid (B6.out.keep hb7)
  clear hb7 L6 V06 V6 B6
  obtain ⟨c0, c1, c2, c3, c4⟩ := B7.out
  go_wp2_with fail
  refine (toEpi_any _ _ _ _ _).mono ?_
  rintro e w7' ⟨rfl, hb⟩
  have L7' := Lib.hid (bT L7.out hb)
  have V07' := Lib.hid (V07.out.keep hb)
  have V7' := Lib.hid (V7.out.keep hb)
  clear hb L7 V07 V7 c0 c1 c2 c3 c4
  go_wp2_with fail
  refine (EpiFaultsI_any _ _ _ _ _ (HS.out.keep L7'.out)).mono ?_
  rw [HT.out]
  rintro e w8 ⟨v2, rfl, hr⟩
  have L8 := Lib.hid (bT L7'.out hr.2)
  have V08 := Lib.hid (V07'.out.keep hr.2)
  have V8 := Lib.hid (V7'.out.keep hr.2)
  have V2 := Lib.hid (slS_of hr.1)
  clear hr L7' V07' V7'
  go_wp2_with fail
  refine (eqStringS_same ts v2 v0 w8 V2.out V08.out (by omega)).mono ?_
  rintro e w9 ⟨rfl, m9, rfl⟩
  go_wp2_with fail
  refine (heldStringS_same 1 ts.length v1 (w8.drewN m9) V8.out (by omega) (by omega) (by omega)).mono ?_
  rintro e w9' ⟨rfl, hb9⟩
  have L9 := Lib.hid (bT (bD L8.out m9) hb9)
  clear hb9
  go_wp2_with fail
  go_ret
  exact ⟨rfl, L9.out⟩
end Go.Proofs.YtcklcledchboiaaDoor

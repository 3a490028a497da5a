/-
  The walks of laws.FnExactBalancePoint, FnExactMeanTemp.
-/
import Derived.Test.YtpmelgdhcjnagaaDoorRaW
import Derived.Test.YtpmelgdhcjnagaaDoorRaZ
import Derived.Test.YtpmelgdhcjnagaaDoorCarry
namespace Go.Proofs.YtpmelgdhcjnagaaDoor
open Go.RowKit

set_option maxRecDepth 100000 in
set_option maxHeartbeats 4000000 in
theorem FnExactBalancePoint_walk (b l c m : Int) (w : World) (a0 a1 : Addr) (hS : Sent w a0 a1) :
    Calls Tryd.prog 4 #[.agg #[.int .i64 b, .int .i64 l, .int .i64 c, .int .i64 m]] w fun e w' => e = .returned (.bool true) ∧ Below w.heap.size w w' := by
  have HS := Lib.hid hS
  clear hS
  have H0 := Lib.hid (RtH.new w b l c m 34)
  have CS := Lib.hid (fun W => BalancePointS_any b l c m W)
  have CI := Lib.hid (fun W h => BalancePointI_any b l c m W a0 a1 h)
  unfold RcB at CS CI
  generalize bpE b l c m = r at *
  obtain ⟨x, y, k⟩ := r
  simp only at CS CI
  have n1 : (k != k) = false := by simp
  go_enter Tryd.func4, Tryd.ntmps4
  go_wp2_with fail
  refine (toRate_any _ _ _ _ _).mono ?_
  rintro en w1 ⟨rfl, hb⟩
  have H1 := Lib.hid (H0.out.keep hb)
  clear hb H0
  go_wp2_with fail
  refine (CS.out _).mono ?_
  rintro en w2 ⟨rfl, hb⟩
  have H2 := Lib.hid ((H1.out.keep hb).keep (bA (bR w2) (.cells #[.int .i64 x, .int .i64 y] 25)))
  have X2 := Lib.hid (BoxL.new w2 [.int .i64 x, .int .i64 y] 25)
  clear hb H1
  obtain ⟨c0, c1, c2, c3, c4⟩ := H2.out.1.c4
  go_wp2_with fail
  generalize w2.alloc (.cells #[.int .i64 x, .int .i64 y] 25) = w3 at *
  generalize w2.heap.size = b2 at *
  refine (toRate_any _ _ _ _ _).mono ?_
  rintro en w4 ⟨rfl, hb⟩
  have H4 := Lib.hid (H2.out.keep hb)
  have X4 := Lib.hid (X2.out.keep hb)
  clear hb H2 X2 c0 c1 c2 c3 c4
  go_wp2_with fail
  refine (CI.out _ (HS.out.keep H4.out.2)).mono ?_
  rintro en w5 ⟨rfl, hb⟩
  have H5 := Lib.hid ((H4.out.keep hb).keep (bA (bR w5) (.cells #[.int .i64 x, .int .i64 y] 25)))
  have X5 := Lib.hid ((X4.out.keep hb).keep (bA (bR w5) (.cells #[.int .i64 x, .int .i64 y] 25)))
  have Y5 := Lib.hid (BoxL.new w5 [.int .i64 x, .int .i64 y] 25)
  clear hb H4 X4
  obtain ⟨x0, x1, x2⟩ := X5.out.c2
  obtain ⟨y0, y1, y2⟩ := Y5.out.c2
  go_wp2_with fail
  refine (eqRatio_same _ _ _).mono ?_
  rintro en w6 ⟨rfl, hb⟩
  have L := Lib.hid (bT H5.out.2 hb)
  clear hb H5 X5 Y5 x0 x1 x2 y0 y1 y2
  go_wp2_with fail
  go_ret
  exact ⟨rfl, L.out⟩
set_option maxRecDepth 100000 in
set_option maxHeartbeats 4000000 in
theorem FnExactMeanTemp_walk (a : Option Addr) (len cap : Nat) (ps : List (Int × Int)) (w : World) (a0 a1 : Addr) (hS : Sent w a0 a1) (h : IsPR w a len cap ps) :
    Calls Tryd.prog 3 #[.slice a len cap] w fun e w' => e = .returned (.bool true) ∧ Below w.heap.size w w' := by
  have HS := Lib.hid hS
  clear hS
  obtain ⟨⟨l1, l2⟩, l3, _, _⟩ := id h
  unfold maxLen at l2
  have HA := Lib.hid h
  have HL3 := Lib.hid l3
  clear h l3
  by_cases hl : 1048576 < len
  · go_enter Tryd.func3, Tryd.ntmps3
    go_wp2_with fail
    refine (szSegmentS_no _ _ _ _ _ (by omega) (by omega) (by omega) (by omega)).mono ?_
    rintro e w1 ⟨rfl, rfl⟩
    go_wp2_with fail
    go_ret
    exact ⟨rfl, bR _⟩
  have hlen : len ≤ 1048576 := by omega
  have hmax : ps.length ≤ 1000000000000 := by rw [HL3.out]; omega
  clear hl
  have CS := Lib.hid (fun v W (h : SlP W v ps) => MeanTempS_any ps v W h hmax)
  have CI := Lib.hid (fun v W (h : SlP W v ps) h2 => MeanTempI_any ps v W h hmax a0 a1 h2)
  unfold RcB at CS CI
  generalize meE ps = r at *
  obtain ⟨x, y, k⟩ := r
  simp only at CS CI
  have n1 : (k != k) = false := by simp
  go_enter Tryd.func3, Tryd.ntmps3
  go_wp2_with fail
  refine (szSegmentS_yes _ _ _ _ _ (by omega) (by omega) (by omega)).mono ?_
  rintro e w1 ⟨rfl, rfl⟩
  go_wp2_with fail
  refine (toSg_ex a len cap ps _ HA.out hlen).mono ?_
  rintro en w1 ⟨v1, rfl, hs, hb⟩
  have V1 := Lib.hid hs
  have L1 := Lib.hid hb
  clear hs hb
  go_wp2_with fail
  refine (CS.out _ _ V1.out).mono ?_
  rintro en w2 ⟨rfl, hb⟩
  have L2 := Lib.hid (bA (bT L1.out hb) (.cells #[.int .i64 x, .int .i64 y] 25))
  have X2 := Lib.hid (BoxL.new w2 [.int .i64 x, .int .i64 y] 25)
  clear hb V1 L1
  go_wp2_with fail
  generalize w2.alloc (.cells #[.int .i64 x, .int .i64 y] 25) = w3 at *
  generalize w2.heap.size = b2 at *
  refine (toSg_ex a len cap ps _ (HA.out.keep L2.out) hlen).mono ?_
  rintro en w4 ⟨v4, rfl, hs, hb⟩
  have V4 := Lib.hid hs
  have L4 := Lib.hid (bT L2.out hb)
  have X4 := Lib.hid (X2.out.keep hb)
  clear hs hb L2 X2
  go_wp2_with fail
  refine (CI.out _ _ V4.out (HS.out.keep L4.out)).mono ?_
  rintro en w5 ⟨rfl, hb⟩
  have L5 := Lib.hid (bA (bT L4.out hb) (.cells #[.int .i64 x, .int .i64 y] 25))
  have X5 := Lib.hid ((X4.out.keep hb).keep (bA (bR w5) (.cells #[.int .i64 x, .int .i64 y] 25)))
  have V5 := Lib.hid ((V4.out.keep hb).keep (bA (bR w5) (.cells #[.int .i64 x, .int .i64 y] 25)))
  have Y5 := Lib.hid (BoxL.new w5 [.int .i64 x, .int .i64 y] 25)
  clear hb L4 X4 V4
  obtain ⟨x0, x1, x2⟩ := X5.out.c2
  obtain ⟨y0, y1, y2⟩ := Y5.out.c2
  go_wp2_with fail
  generalize w5.alloc (.cells #[.int .i64 x, .int .i64 y] 25) = w5' at *
  refine (eqRatio_same _ _ _).mono ?_
  rintro en w6 ⟨rfl, hb⟩
  have L6 := Lib.hid (bT L5.out hb)
  have V6 := Lib.hid (V5.out.keep hb)
  clear hb L5 X5 Y5 V5 x0 x1 x2 y0 y1 y2
  go_wp2_with fail
  refine (toSg_ex a len cap ps _ (HA.out.keep L6.out) hlen).mono ?_
  rintro en w7 ⟨v7, rfl, hs, hb⟩
  have V7 := Lib.hid hs
  have V67 := Lib.hid (V6.out.keep hb)
  have L7 := Lib.hid (bT L6.out hb)
  clear hs hb V6 L6
  go_wp2_with fail
  refine (eqSegmentS_same ps _ _ _ V67.out V7.out hmax).mono ?_
  rintro en w8 ⟨rfl, hb⟩
  have L := Lib.hid (bT L7.out hb)
  clear hb
  go_wp2_with fail
  go_ret
  exact ⟨rfl, L.out⟩
end Go.Proofs.YtpmelgdhcjnagaaDoor

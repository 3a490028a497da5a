/-
  Contracts of comparing: spec.CompareRatio, spec.l02Compare; the walk of laws.FnExactCompareRatio.
-/
import Derived.Test.YtldjplopglpgfaaCmp
namespace Go.Proofs.Ytldjplopglpgfaa
open Go.RowKit

set_option maxHeartbeats 400000 in
theorem l02Compare_any (n d p q : Int) (w : World) (h1 : okR n d = true) (h2 : okR p q = true) :
    Calls Try.prog 26 #[.agg #[.int .i64 n, .int .i64 d], .agg #[.int .i64 p, .int .i64 q]] w fun e w' => e = .returned (.int .i64 (cmpV n d p q)) ∧ Below w.heap.size w w' := by
  obtain ⟨a1, a2, a3, a4⟩ := okR_bd h1
  obtain ⟨b1, b2, b3, b4⟩ := okR_bd h2
  obtain ⟨m1, m2⟩ := mul_bd a3 a4 (show -1000000000 ≤ q by omega) b2
  obtain ⟨m3, m4⟩ := mul_bd b3 b4 (show -1000000000 ≤ d by omega) a2
  clear h1 h2
  by_cases c1 : n * q < p * d
  · have H := Lib.hid (cmpV_lt c1)
    go_enter Try.func26, Try.ntmps26
    go_wp2
    go_ret
    exact ⟨ret_int H.out, bA (bA (bR _) _) _⟩
  · by_cases c2 : p * d < n * q
    · have H := Lib.hid (cmpV_gt c2)
      go_enter Try.func26, Try.ntmps26
      go_wp2
      go_ret
      exact ⟨ret_int H.out, bA (bA (bR _) _) _⟩
    · have H := Lib.hid (cmpV_eq c1 c2)
      go_enter Try.func26, Try.ntmps26
      go_wp2
      go_ret
      exact ⟨ret_int H.out, bA (bA (bR _) _) _⟩

set_option maxHeartbeats 400000 in
theorem CompareRatioS_any (n d p q : Int) (w : World) :
    Calls Try.prog 10 #[.agg #[.int .i64 n, .int .i64 d], .agg #[.int .i64 p, .int .i64 q]] w fun e w' => e = .returned (.int .i64 (cmpR n d p q)) ∧ Below w.heap.size w w' := by
  cases h1 : okR n d
  · have H := Lib.hid (cmpR_no1 (p := p) (q := q) h1)
    go_enter Try.func10, Try.ntmps10
    go_wp2_with fail
    refine (l02Ok_any _ _ _).mono ?_
    rintro e w1 ⟨rfl, hb1⟩
    go_wp2_with fail
    go_ret
    exact ⟨ret_int H.out, bT (bA (bA (bR _) _) _) hb1⟩
  · cases h2 : okR p q
    · have H := Lib.hid (cmpR_no2 (n := n) (d := d) h2)
      go_enter Try.func10, Try.ntmps10
      go_wp2_with fail
      refine (l02Ok_any _ _ _).mono ?_
      rintro e w1 ⟨rfl, hb1⟩
      obtain ⟨hc1, hf1⟩ := bcell hb1
      go_wp2_with fail
      refine (l02Ok_any _ _ _).mono ?_
      rintro e w2 ⟨rfl, hb2⟩
      go_wp2_with fail
      go_ret
      exact ⟨ret_int H.out, bT (bT (bA (bA (bR _) _) _) hb1) hb2⟩
    · have H := Lib.hid (cmpR_yes h1 h2)
      go_enter Try.func10, Try.ntmps10
      go_wp2_with fail
      refine (l02Ok_any _ _ _).mono ?_
      rintro e w1 ⟨rfl, hb1⟩
      obtain ⟨hc1, hf1⟩ := bcell hb1
      have hs1 : w.heap.size + 1 < w1.heap.size := bsize hb1 (by simp)
      have hs1' : w.heap.size < w1.heap.size := by omega
      go_wp2_with fail
      refine (l02Ok_any _ _ _).mono ?_
      rintro e w2 ⟨rfl, hb2⟩
      obtain ⟨hc2, hf2⟩ := bcell hb2
      go_wp2_with fail
      refine (l02Compare_any _ _ _ _ _ h1 h2).mono ?_
      rintro e w3 ⟨rfl, hb3⟩
      go_wp2_with fail
      go_ret
      exact ⟨ret_int H.out, bT (bT (bT (bA (bA (bR _) _) _) hb1) hb2) hb3⟩

end Go.Proofs.Ytldjplopglpgfaa

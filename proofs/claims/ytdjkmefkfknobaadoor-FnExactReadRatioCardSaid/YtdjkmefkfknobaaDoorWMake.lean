/-
  The contract of laws.eqRatio at equal ratios; the walk of laws.FnExactMakeRatio.
-/
import Derived.Test.YtdjkmefkfknobaaDoorMakeR
namespace Go.Proofs.YtdjkmefkfknobaaDoor
open Go.RowKit

theorem eqRatio_same (n d : Int) (w : World) :
    Calls Tryd.prog 31 #[.agg #[.int .i64 n, .int .i64 d], .agg #[.int .i64 n, .int .i64 d]] w fun e w' => e = .returned (.bool true) ∧ Below w.heap.size w w' := by
  have h1 : (n != n) = false := by simp
  have h2 : (d != d) = false := by simp
  go_enter Tryd.func31, Tryd.ntmps31
  go_wp2_with fail
  go_ret
  exact ⟨rfl, bA (bA (bR _) _) _⟩

set_option maxHeartbeats 400000 in
theorem FnExactMakeRatio_walk (n d : Int) (w : World) (a0 a1 : Addr) (hS : Sent w a0 a1) (h1 : -9223372036854775808 ≤ n ∧ n ≤ 9223372036854775807) (h2 : -9223372036854775808 ≤ d ∧ d ≤ 9223372036854775807) :
    Calls Tryd.prog 7 #[.int .i64 n, .int .i64 d] w fun e w' => e = .returned (.bool true) ∧ Below w.heap.size w w' := by
  obtain ⟨i1, i2⟩ := h1
  obtain ⟨i3, i4⟩ := h2
  have hne : (rC n d != rC n d) = false := by simp
  have HS := Lib.hid hS
  clear hS
  go_enter Tryd.func7, Tryd.ntmps7
  go_wp2_with fail
  refine (MakeRatioS_any _ _ _ i1 i2 i3 i4).mono ?_
  rintro e w1 ⟨rfl, hb1⟩
  have HS1 := Lib.hid (HS.out.keep hb1)
  go_wp2_with fail
  refine (MakeRatioI_any _ _ _ a0 a1 (HS1.out.keep (bA (bR _) _)) i1 i2 i3 i4).mono ?_
  rintro e w2 ⟨rfl, hb2⟩
  obtain ⟨hc2, hf2⟩ := bcell hb2
  have hs2 : w1.heap.size < w2.heap.size := bsize hb2 (by simp)
  go_wp2_with fail
  refine (eqRatio_same _ _ _).mono ?_
  rintro e w3 ⟨rfl, hb3⟩
  clear hc2 hf2
  go_wp2_with fail
  go_ret
  exact ⟨rfl, bT (bA (bT (bA hb1 _) hb2) _) hb3⟩
end Go.Proofs.YtdjkmefkfknobaaDoor

/-
  The walk of laws.FnExactValidRatio.
-/
import Derived.Test.YtdjkmefkfknobaaRat
namespace Go.Proofs.Ytdjkmefkfknobaa
open Go.RowKit
set_option maxHeartbeats 400000 in
theorem FnExactValidRatio_walk (n d : Int) (w : World) (_h1 : -9223372036854775808 ≤ n ∧ n ≤ 9223372036854775807) (_h2 : -9223372036854775808 ≤ d ∧ d ≤ 9223372036854775807) :
    Calls Try.prog 6 #[.agg #[.int .i64 n, .int .i64 d]] w fun e w' => e = .returned (.bool true) ∧ Below w.heap.size w w' := by
  go_enter Try.func6, Try.ntmps6
  go_wp2_with fail
  refine (toRatio_any _ _ _).mono ?_
  rintro e w1 ⟨rfl, hb1⟩
  obtain ⟨hc1, hf1⟩ := bcell hb1
  have hs1 : w.heap.size < w1.heap.size := bsize hb1 (by simp)
  go_wp2_with fail
  refine (ValidRatioS_any _ _ _).mono ?_
  rintro e w2 ⟨rfl, hb2⟩
  obtain ⟨hc2, hf2⟩ := bcell hb2
  have hs2 : w.heap.size < w2.heap.size := bsize hb2 hs1
  go_wp2_with fail
  refine (toRatio_any _ _ _).mono ?_
  rintro e w3 ⟨rfl, hb3⟩
  go_wp2_with fail
  refine (ValidRatioI_any _ _ _).mono ?_
  rintro e w4 ⟨rfl, hb4⟩
  clear hc1 hf1 hc2 hf2
  have hne : (okR n d != okR n d) = false := by simp
  go_wp2_with fail
  go_ret
  exact ⟨rfl, bT (bT (bT (bT (bA (bR _) _) hb1) hb2) hb3) hb4⟩
end Go.Proofs.Ytdjkmefkfknobaa

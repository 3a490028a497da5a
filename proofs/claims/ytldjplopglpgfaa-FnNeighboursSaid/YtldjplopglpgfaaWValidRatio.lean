/-
  The walk of laws.FnExactValidRatio.
-/
import Derived.Test.YtldjplopglpgfaaRat
namespace Go.Proofs.Ytldjplopglpgfaa
open Go.RowKit
theorem ValidRatioS_any (n d : Int) (w : World) :
    Calls Try.prog 14 #[.agg #[.int .i64 n, .int .i64 d]] w fun e w' => e = .returned (.bool (okR n d)) ∧ Below w.heap.size w w' := by
  go_enter Try.func14, Try.ntmps14
  go_wp2_with (go_at_call 25; refine (l02Ok_any _ _ _).mono ?_; rintro e w' ⟨rfl, hb⟩)
  go_ret
  exact ⟨rfl, bT (bA (bR _) _) hb⟩

end Go.Proofs.Ytldjplopglpgfaa

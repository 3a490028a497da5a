/-
  The walk of laws.FnExactValidRatio.
-/
import Derived.Test.YthnfkkfonabhkaaRat
namespace Go.Proofs.Ythnfkkfonabhkaa
open Go.RowKit
theorem ValidRatioS_any (n d : Int) (w : World) :
    Calls Try.prog 37 #[.agg #[.int .i64 n, .int .i64 d]] w fun e w' => e = .returned (.bool (okR n d)) ∧ Below w.heap.size w w' := by
  go_enter Try.func37, Try.ntmps37
  go_wp2_with (go_at_call 39; refine (l02Ok_any _ _ _).mono ?_; rintro e w' ⟨rfl, hb⟩)
  go_ret
  exact ⟨rfl, bT (bA (bR _) _) hb⟩

end Go.Proofs.Ythnfkkfonabhkaa

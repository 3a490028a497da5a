/-
  The walk of laws.FnExactValidRatio.
-/
import Derived.Test.YtclefibjmnabbaaRat
namespace Go.Proofs.Ytclefibjmnabbaa
open Go.RowKit
theorem ValidRatioI_any (n d : Int) (w : World) :
    Calls Try.prog 71 #[.agg #[.int .i64 n, .int .i64 d]] w fun e w' => e = .returned (.bool (okR n d)) ∧ Below w.heap.size w w' := by
  go_enter Try.func71, Try.ntmps71
  go_wp2_with (go_at_call 84; refine (valid_any _ _ _).mono ?_; rintro e w' ⟨rfl, hb⟩)
  go_ret
  exact ⟨rfl, bT (bA (bR _) _) hb⟩
end Go.Proofs.Ytclefibjmnabbaa

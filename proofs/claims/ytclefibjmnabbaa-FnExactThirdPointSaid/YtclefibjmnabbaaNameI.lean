/-
  The contract of impl.IsName, and the walk of laws.FnExactIsName.
-/
import Derived.Test.YtclefibjmnabbaaName
namespace Go.Proofs.Ytclefibjmnabbaa
open Go.RowKit

theorem bIter (w : World) (s : ByteArray) (k : Nat) : Below w.heap.size w (w.iter s k) := bA (bR _) _
theorem high_no {c : Int} (h : 128 ≤ c) : smB c = false ∧ dhB c = false := by simp [smB, dhB]; omega

end Go.Proofs.Ytclefibjmnabbaa

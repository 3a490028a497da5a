/-
  Least numbers: what leastUpTo returns.
-/
import Derived.Test.YtkagciekoeaijaaEsI
import Derived.Test.YtkagciekoeaijaaEsL
namespace Go.Proofs.Ytkagciekoeaijaa
open Go.RowKit

/-- The least number up to n, and the code. -/
def luE (p : Nat → Bool) (n : Nat) : Int × Int := if lstU p (n + 1) = n + 1 then (0, 3) else ((lstU p (n + 1) : Int), 0)
theorem luE_3 {p : Nat → Bool} {n : Nat} (h : lstU p (n + 1) = n + 1) : luE p n = (0, 3) := by simp [luE, h]
theorem luE_0 {p : Nat → Bool} {n : Nat} (h : ¬ lstU p (n + 1) = n + 1) : luE p n = ((lstU p (n + 1) : Int), 0) := by simp [luE, h]
end Go.Proofs.Ytkagciekoeaijaa

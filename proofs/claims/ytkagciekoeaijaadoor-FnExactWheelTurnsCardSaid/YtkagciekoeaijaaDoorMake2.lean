/-
  The contract of spec.MakeRatio.
-/
import Derived.Test.YtkagciekoeaijaaDoorMkC
namespace Go.Proofs.YtkagciekoeaijaaDoor
open Go.RowKit

end Go.Proofs.YtkagciekoeaijaaDoor

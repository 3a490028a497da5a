/-
  The contract of spec.MakeRatio.
-/
import Derived.Test.YtcklcledchboiaaDoorMkC
namespace Go.Proofs.YtcklcledchboiaaDoor
open Go.RowKit

end Go.Proofs.YtcklcledchboiaaDoor

/-
  The contract of spec.MakeRatio.
-/
import Derived.Test.YtjacjjenlokogaaDoorMkC
namespace Go.Proofs.YtjacjjenlokogaaDoor
open Go.RowKit

end Go.Proofs.YtjacjjenlokogaaDoor

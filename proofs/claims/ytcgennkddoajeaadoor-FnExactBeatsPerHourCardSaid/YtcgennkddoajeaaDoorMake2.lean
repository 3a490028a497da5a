/-
  The contract of spec.MakeRatio.
-/
import Derived.Test.YtcgennkddoajeaaDoorMkC
namespace Go.Proofs.YtcgennkddoajeaaDoor
open Go.RowKit

end Go.Proofs.YtcgennkddoajeaaDoor

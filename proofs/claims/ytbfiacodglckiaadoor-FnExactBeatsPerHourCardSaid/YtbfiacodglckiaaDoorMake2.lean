/-
  The contract of spec.MakeRatio.
-/
import Derived.Test.YtbfiacodglckiaaDoorMkC
namespace Go.Proofs.YtbfiacodglckiaaDoor
open Go.RowKit

end Go.Proofs.YtbfiacodglckiaaDoor

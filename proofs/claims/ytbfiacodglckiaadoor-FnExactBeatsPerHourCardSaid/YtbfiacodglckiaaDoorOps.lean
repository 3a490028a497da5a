/-
  Contracts of impl and spec AddRatio, MulRatio.
-/
import Derived.Test.YtbfiacodglckiaaDoorArith
import Derived.Test.YtbfiacodglckiaaDoorOpsS
namespace Go.Proofs.YtbfiacodglckiaaDoor
open Go.RowKit

end Go.Proofs.YtbfiacodglckiaaDoor

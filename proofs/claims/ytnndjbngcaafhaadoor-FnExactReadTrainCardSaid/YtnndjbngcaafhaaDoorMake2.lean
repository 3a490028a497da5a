/-
  The contract of spec.MakeRatio.
-/
import Derived.Test.YtnndjbngcaafhaaDoorMkC
namespace Go.Proofs.YtnndjbngcaafhaaDoor
open Go.RowKit

end Go.Proofs.YtnndjbngcaafhaaDoor

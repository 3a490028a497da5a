/-
  The contract of spec.l02Div.
-/
import Derived.Test.YtjacjjenlokogaaDoorAr1
namespace Go.Proofs.YtjacjjenlokogaaDoor
open Go.RowKit

end Go.Proofs.YtjacjjenlokogaaDoor

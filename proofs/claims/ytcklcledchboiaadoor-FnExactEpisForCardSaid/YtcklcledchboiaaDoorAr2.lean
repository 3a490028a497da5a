/-
  The contract of spec.l02Div.
-/
import Derived.Test.YtcklcledchboiaaDoorAr1
namespace Go.Proofs.YtcklcledchboiaaDoor
open Go.RowKit

end Go.Proofs.YtcklcledchboiaaDoor

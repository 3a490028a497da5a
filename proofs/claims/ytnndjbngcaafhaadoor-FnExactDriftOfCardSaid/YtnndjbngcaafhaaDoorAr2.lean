/-
  The contract of spec.l02Div.
-/
import Derived.Test.YtnndjbngcaafhaaDoorAr1
namespace Go.Proofs.YtnndjbngcaafhaaDoor
open Go.RowKit

end Go.Proofs.YtnndjbngcaafhaaDoor

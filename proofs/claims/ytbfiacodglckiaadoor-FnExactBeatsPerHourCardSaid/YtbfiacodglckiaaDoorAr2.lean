/-
  The contract of spec.l02Div.
-/
import Derived.Test.YtbfiacodglckiaaDoorAr1
namespace Go.Proofs.YtbfiacodglckiaaDoor
open Go.RowKit

end Go.Proofs.YtbfiacodglckiaaDoor

/-
  The contract of spec.l02Div.
-/
import Derived.Test.YtgmedfpklgjgoaaAr1
namespace Go.Proofs.Ytgmedfpklgjgoaa
open Go.RowKit

end Go.Proofs.Ytgmedfpklgjgoaa

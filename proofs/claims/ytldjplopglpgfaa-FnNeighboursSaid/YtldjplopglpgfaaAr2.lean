/-
  The contract of spec.l02Div.
-/
import Derived.Test.YtldjplopglpgfaaAr1
namespace Go.Proofs.Ytldjplopglpgfaa
open Go.RowKit

end Go.Proofs.Ytldjplopglpgfaa

/-
  The contract of spec.l02Div.
-/
import Derived.Test.YthnfkkfonabhkaaAr1
namespace Go.Proofs.Ythnfkkfonabhkaa
open Go.RowKit

end Go.Proofs.Ythnfkkfonabhkaa

/-
  The contract of spec.l02Div.
-/
import Derived.Test.YtcakjkcahjfpkaaAr1
namespace Go.Proofs.Ytcakjkcahjfpkaa
open Go.RowKit

end Go.Proofs.Ytcakjkcahjfpkaa

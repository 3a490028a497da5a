/-
  The contract of spec.MakeRatio.
-/
import Derived.Test.YtcakjkcahjfpkaaDoorMkC
namespace Go.Proofs.YtcakjkcahjfpkaaDoor
open Go.RowKit

end Go.Proofs.YtcakjkcahjfpkaaDoor

/-
  The contract of spec.MakeRatio.
-/
import Derived.Test.YtpmelgdhcjnagaaDoorMkC
namespace Go.Proofs.YtpmelgdhcjnagaaDoor
open Go.RowKit

end Go.Proofs.YtpmelgdhcjnagaaDoor

/-
  The table of powers of ten, out of the row's list of FnExactTrainText.
-/
import Derived.Test.YtcgennkddoajeaaDoorRows
import Derived.Test.YtcgennkddoajeaaDoorWDec
import Derived.Stop.LaidErr
import Derived.Lib.LaidTab
import Derived.ProofKit
namespace Go.Proofs.YtcgennkddoajeaaDoor
open Go.ChangeShapes Go.WideShapes Go.ChangeAt Go.RowKit

theorem pow_ofT {x y : String × DataW Unit} {r : List (String × DataW Unit)} {W : World}
    (h : laidMet Tryd.prog (x :: y :: (Rows.fnExactTrainTextRow.laid.getD 2 x) :: r) W) : Pow10 W := by
  have h3 := h.tail.tail
  have h4 : laidMet Tryd.prog (("internal/strconv.uint64pow10", Lib.tabData .u64 Lib.pow10Tab) :: r) W := h3
  exact Lib.tabIs_of_head gPow (by kernel_rfl) Tryd.underlying168 Tryd.underlying82 (by kernel_rfl) (by kernel_rfl) h4
end Go.Proofs.YtcgennkddoajeaaDoor

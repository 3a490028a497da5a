/-
  The table of powers of ten, out of the row's list of FnExactFoundText.
-/
import Derived.Test.YtnndjbngcaafhaaDoorRows
import Derived.Test.YtnndjbngcaafhaaDoorWDec
import Derived.Stop.LaidErr
import Derived.Lib.LaidTab
import Derived.ProofKit
namespace Go.Proofs.YtnndjbngcaafhaaDoor
open Go.ChangeShapes Go.WideShapes Go.ChangeAt Go.RowKit

theorem pow_ofF {x y : String × DataW Unit} {r : List (String × DataW Unit)} {W : World}
    (h : laidMet Tryd.prog (x :: y :: (Rows.fnExactFoundTextRow.laid.getD 2 x) :: r) W) : Pow10 W := by
  have h3 := h.tail.tail
  have h4 : laidMet Tryd.prog (("internal/strconv.uint64pow10", Lib.tabData .u64 Lib.pow10Tab) :: r) W := h3
  exact Lib.tabIs_of_head gPow (by kernel_rfl) Tryd.underlying172 Tryd.underlying86 (by kernel_rfl) (by kernel_rfl) h4
end Go.Proofs.YtnndjbngcaafhaaDoor

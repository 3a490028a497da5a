/-
  The table of powers of ten, out of the row's list of FnExactPowersText.
-/
import Derived.Test.YtcgennkddoajeabDoorRows
import Derived.Test.YtcgennkddoajeabDoorWDec
import Derived.Stop.LaidErr
import Derived.Lib.LaidTab
import Derived.ProofKit
namespace Go.Proofs.YtcgennkddoajeabDoor
open Go.ChangeShapes Go.WideShapes Go.ChangeAt Go.RowKit

theorem pow_ofW {x y : String × DataW Unit} {r : List (String × DataW Unit)} {W : World}
    (h : laidMet Tryd.prog (x :: y :: (Rows.fnExactPowersTextRow.laid.getD 2 x) :: r) W) : Pow10 W := by
  have h3 := h.tail.tail
  have h4 : laidMet Tryd.prog (("internal/strconv.uint64pow10", Lib.tabData .u64 Lib.pow10Tab) :: r) W := h3
  exact Lib.tabIs_of_head gPow (by kernel_rfl) Tryd.underlying58 Tryd.underlying48 (by kernel_rfl) (by kernel_rfl) h4
end Go.Proofs.YtcgennkddoajeabDoor

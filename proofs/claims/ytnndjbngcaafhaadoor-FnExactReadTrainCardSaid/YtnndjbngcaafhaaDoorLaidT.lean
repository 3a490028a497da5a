/-
  What FnExactReadTrain's row lists: the table of powers of ten, and the two variables of strconv's errors; a number that the world's shape gives.
-/
import Derived.Test.YtnndjbngcaafhaaDoorRows
import Derived.Test.YtnndjbngcaafhaaDoorWDec
import Derived.Test.YtnndjbngcaafhaaDoorLaid
import Derived.Test.YtnndjbngcaafhaaDoorRpI
import Derived.Test.YtnndjbngcaafhaaDoorShelf
import Derived.Stop.LaidErr
import Derived.Lib.LaidTab
import Derived.ProofKit
namespace Go.Proofs.YtnndjbngcaafhaaDoor
open Go.ChangeShapes Go.WideShapes Go.ChangeAt Go.RowKit

theorem vars_ofT {x y a : String × DataW Unit} {r : List (String × DataW Unit)} {W : World}
    (h : laidMet Tryd.prog (x :: y :: (Rows.fnExactReadTrainRow.laid.getD 2 x) :: a :: (Rows.fnExactReadTrainRow.laid.getD 4 x) :: (Rows.fnExactReadTrainRow.laid.getD 5 x) :: r) W) (hs : W.ShapedOpen Tryd.prog) : RdVars W := by
  have h3 := h.tail.tail
  have h4 : laidMet Tryd.prog (("internal/strconv.uint64pow10", Lib.tabData .u64 Lib.pow10Tab) :: a :: (Rows.fnExactReadTrainRow.laid.getD 4 x) :: (Rows.fnExactReadTrainRow.laid.getD 5 x) :: r) W := h3
  have h5 := h3.tail.tail
  have h6 := h5.tail
  obtain ⟨u, _, hu, _⟩ := laid_sentinel (n := "strconv.ErrRange") h5 (g := 8) (by kernel_rfl) (by kernel_rfl) Tryd.underlying102 rowES Tryd.underlying176 Tryd.underlying178 rfl rfl Tryd.underlying9 cellsES cellsStr
  obtain ⟨v, _, hv, _⟩ := laid_sentinel (n := "strconv.ErrSyntax") h6 (g := 7) (by kernel_rfl) (by kernel_rfl) Tryd.underlying102 rowES Tryd.underlying176 Tryd.underlying178 rfl rfl Tryd.underlying9 cellsES cellsStr
  exact ⟨Lib.tabIs_of_head gPow (by kernel_rfl) Tryd.underlying172 Tryd.underlying86 (by kernel_rfl) (by kernel_rfl) h4, ⟨⟨_, _, hv⟩, ⟨_, _, hu⟩⟩, Tryd.laysM146.s1_3 W hs⟩
end Go.Proofs.YtnndjbngcaafhaaDoor

/-
  The two variables of strconv's errors, out of a row's list.
-/
import Derived.Test.YtdjkmefkfknobaaDoorLaidP
import Derived.Test.YtdjkmefkfknobaaDoorLaid
import Derived.Test.YtdjkmefkfknobaaDoorWRead
namespace Go.Proofs.YtdjkmefkfknobaaDoor
open Go.ChangeShapes Go.WideShapes Go.ChangeAt Go.RowKit

theorem err_of {x y z : String × DataW Unit} {r : List (String × DataW Unit)} {W : World}
    (h : laidMet Tryd.prog (x :: y :: z :: (Rows.fnExactReadDecimalRow.laid.getD 3 x) :: (Rows.fnExactReadDecimalRow.laid.getD 4 x) :: r) W) : ErrVars W := by
  have h3 := h.tail.tail.tail
  have h4 := h3.tail
  obtain ⟨a, _, ha, _⟩ := laid_sentinel (n := "strconv.ErrRange") h3 (g := 6) (by kernel_rfl) (by kernel_rfl) Tryd.underlying57 rowES Tryd.underlying132 Tryd.underlying134 rfl rfl Tryd.underlying9 cellsES cellsStr
  obtain ⟨b, _, hb, _⟩ := laid_sentinel (n := "strconv.ErrSyntax") h4 (g := 5) (by kernel_rfl) (by kernel_rfl) Tryd.underlying57 rowES Tryd.underlying132 Tryd.underlying134 rfl rfl Tryd.underlying9 cellsES cellsStr
  exact ⟨⟨_, _, hb⟩, ⟨_, _, ha⟩⟩
end Go.Proofs.YtdjkmefkfknobaaDoor

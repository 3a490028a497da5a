/-
  The table of powers of ten, the two variables of strconv's errors and the table of the sines, out of a row's list.
-/
import Derived.Test.YtcklcledchboiaaDoorLaidV
import Derived.Test.YtcklcledchboiaaDoorWRead
import Derived.Test.YtcklcledchboiaaDoorLaid
import Derived.Stop.LaidErr
import Derived.Lib.LaidTab
import Derived.ProofKit
namespace Go.Proofs.YtcklcledchboiaaDoor
open Go.ChangeShapes Go.WideShapes Go.ChangeAt Go.RowKit

theorem pow_ofW {x y : String × DataW Unit} {r : List (String × DataW Unit)} {W : World}
    (h : laidMet Tryd.prog (x :: y :: ("internal/strconv.uint64pow10", Rows.laid_internal_strconv_uint64pow10) :: r) W) : Pow10 W := by
  have h3 := h.tail.tail
  have h4 : laidMet Tryd.prog (("internal/strconv.uint64pow10", Lib.tabData .u64 Lib.pow10Tab) :: r) W := h3
  exact Lib.tabIs_of_head gPow (by kernel_rfl) Tryd.underlying152 Tryd.underlying96 (by kernel_rfl) (by kernel_rfl) h4
theorem sines_of4 {x y z : String × DataW Unit} {r : List (String × DataW Unit)} {W : World} (h : laidMet Tryd.prog (x :: y :: z :: ("loop.example/g00921/impl.planetSines", Rows.laid_loop_example_g00921_impl_planetSines) :: r) W) : Sines W := sines_of h.tail.tail.tail
theorem sines_of6 {x y z u v : String × DataW Unit} {r : List (String × DataW Unit)} {W : World} (h : laidMet Tryd.prog (x :: y :: z :: u :: v :: ("loop.example/g00921/impl.planetSines", Rows.laid_loop_example_g00921_impl_planetSines) :: r) W) : Sines W := sines_of h.tail.tail.tail.tail.tail
theorem errs_of6 {x y z : String × DataW Unit} {r : List (String × DataW Unit)} {W : World}
    (h : laidMet Tryd.prog (x :: y :: z :: ("strconv.ErrRange", Rows.laid_strconv_ErrRange) :: ("strconv.ErrSyntax", Rows.laid_strconv_ErrSyntax) :: r) W) : ErrVars W := by
  have h5 := h.tail.tail.tail
  have h6 := h5.tail
  obtain ⟨u, _, hu, _⟩ := laid_sentinel (n := "strconv.ErrRange") h5 (g := 5) (by kernel_rfl) (by kernel_rfl) Tryd.underlying122 rowES Tryd.underlying175 Tryd.underlying177 rfl rfl Tryd.underlying9 cellsES cellsStr
  obtain ⟨v, _, hv, _⟩ := laid_sentinel (n := "strconv.ErrSyntax") h6 (g := 4) (by kernel_rfl) (by kernel_rfl) Tryd.underlying122 rowES Tryd.underlying175 Tryd.underlying177 rfl rfl Tryd.underlying9 cellsES cellsStr
  exact ⟨⟨_, _, hv⟩, ⟨_, _, hu⟩⟩
end Go.Proofs.YtcklcledchboiaaDoor

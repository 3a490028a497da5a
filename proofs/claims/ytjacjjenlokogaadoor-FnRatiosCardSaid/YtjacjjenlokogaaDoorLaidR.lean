/-
  The package-level variables of laws.FnRatios, out of its row's list.
-/
import Derived.Test.YtjacjjenlokogaaDoorRows
import Derived.Test.YtjacjjenlokogaaDoorLaid
import Derived.Test.YtjacjjenlokogaaDoorWRead
import Derived.Test.YtjacjjenlokogaaDoorWRrI
import Derived.Stop.LaidErr
import Derived.Lib.LaidTab
import Derived.ProofKit
namespace Go.Proofs.YtjacjjenlokogaaDoor
open Go.ChangeShapes Go.WideShapes Go.ChangeAt Go.RowKit

theorem sentR {x y z u v : String × DataW Unit} {n0 n1 : String} {text0 text1 : List UInt8} {r : List (String × DataW Unit)} {W : World}
    (h : laidMet Tryd.prog (x :: y :: z :: u :: v :: (n0, .iface "*errors.errorString" (.ptr (.agg [.lit (.string text0)]))) :: (n1, .iface "*errors.errorString" (.ptr (.agg [.lit (.string text1)]))) :: r) W)
    (hg0 : Tryd.prog.globalNamed n0 = some 0) (hg1 : Tryd.prog.globalNamed n1 = some 1) : ∃ a0 a1, Sent W a0 a1 :=
  sent_of h.tail.tail.tail.tail.tail hg0 hg1
theorem powR {x y : String × DataW Unit} {r : List (String × DataW Unit)} {W : World}
    (h : laidMet Tryd.prog (x :: y :: (Rows.fnRatiosRow.laid.getD 2 x) :: r) W) : Pow10 W := by
  have h3 := h.tail.tail
  have h4 : laidMet Tryd.prog (("internal/strconv.uint64pow10", Lib.tabData .u64 Lib.pow10Tab) :: r) W := h3
  exact Lib.tabIs_of_head gPow (by kernel_rfl) Tryd.underlying139 Tryd.underlying69 (by kernel_rfl) (by kernel_rfl) h4
theorem errR {x y z : String × DataW Unit} {r : List (String × DataW Unit)} {W : World}
    (h : laidMet Tryd.prog (x :: y :: z :: (Rows.fnRatiosRow.laid.getD 3 x) :: (Rows.fnRatiosRow.laid.getD 4 x) :: r) W) : ErrVars W := by
  have h3 := h.tail.tail.tail
  have h4 := h3.tail
  obtain ⟨a, _, ha, _⟩ := laid_sentinel (n := "strconv.ErrRange") h3 (g := 4) (by kernel_rfl) (by kernel_rfl) Tryd.underlying55 rowES Tryd.underlying148 Tryd.underlying150 rfl rfl Tryd.underlying9 cellsES cellsStr
  obtain ⟨b, _, hb, _⟩ := laid_sentinel (n := "strconv.ErrSyntax") h4 (g := 3) (by kernel_rfl) (by kernel_rfl) Tryd.underlying55 rowES Tryd.underlying148 Tryd.underlying150 rfl rfl Tryd.underlying9 cellsES cellsStr
  exact ⟨⟨_, _, hb⟩, ⟨_, _, ha⟩⟩
end Go.Proofs.YtjacjjenlokogaaDoor

/-
  An argument that is a slice of pairs, opened.
-/
import Derived.Test.YtpbepibklipfpaaDoorEqP
import Derived.Test.YtpbepibklipfpaaDoorChecked
import Derived.Deep.SlicePairs
import Derived.OpenShut
namespace Go.Proofs.YtpbepibklipfpaaDoor
open Go.RowKit Go.Deep Go.ChangeShapes

theorem i64_lim {n : Int} (h : (Lit.int .i64 n).wf = true) : -9223372036854775808 ≤ n ∧ n ≤ 9223372036854775807 := by simpa [Lit.wf, IntKind.min, IntKind.max, IntKind.signed, IntKind.bits] using h
def numOf : Value → Int
  | .int _ n => n
  | _ => 0
theorem ltP_of_cell {w : World} {b o : Nat} {v : Value} (h : w.cell? ⟨b, o, none⟩ = some v) : b < w.heap.size := by
  by_cases hb : b < w.heap.size
  · exact hb
  · exfalso
    have : w.heap[b]? = none := by simp; omega
    simp [World.cell?, this] at h
end Go.Proofs.YtpbepibklipfpaaDoor

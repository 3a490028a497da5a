/-
  What the rows' lists of package-level variables give the walks: the two sentinels of package impl.
-/
import Derived.Test.YtpbepibklipfpaaDoorRows
import Derived.Test.YtpbepibklipfpaaDoorMakeI
import Derived.Stop.LaidTwo
import Derived.Stop.ErrReads
import Derived.ProofKit
namespace Go.Proofs.YtpbepibklipfpaaDoor
open Go.ChangeShapes Go.WideShapes Go.ChangeAt Go.RowKit

theorem starName : "*" ++ "errors.errorString" = "*errors.errorString" := by decide
theorem rowES (u : TypeId) (h : Tryd.prog.typeName? 3 u = some "*errors.errorString") : u = 224 :=
  typeName_ptr_named (nm := "errors.errorString") (by rw [starName]; kernel_rfl) (by kernel_rfl) (by decide) u (by rw [starName]; exact h)
theorem cellsES : Tryd.prog.cellsOf 226 = 1 := by kernel_rfl
theorem cellsStr : Tryd.prog.cellsOf 9 = 1 := by kernel_rfl

theorem lt_of_cell {w : World} {b o : Nat} {v : Value} (h : w.cell? ⟨b, o, none⟩ = some v) : b < w.heap.size := by
  by_cases hb : b < w.heap.size
  · exact hb
  · exfalso
    have : w.heap[b]? = none := by simp; omega
    simp [World.cell?, this] at h

/-- The two sentinels, out of a row's list. -/
theorem sent_of {n0 n1 : String} {text0 text1 : List UInt8} {r : List (String × DataW Unit)} {W : World}
    (h : laidMet Tryd.prog ((n0, .iface "*errors.errorString" (.ptr (.agg [.lit (.string text0)]))) :: (n1, .iface "*errors.errorString" (.ptr (.agg [.lit (.string text1)]))) :: r) W)
    (hg0 : Tryd.prog.globalNamed n0 = some 0) (hg1 : Tryd.prog.globalNamed n1 = some 1) : ∃ a0 a1, Sent W a0 a1 := by
  obtain ⟨a0, a1, s0, s1, c0, c1, t0, t1, hv0, hv1, hc0, hs0, hz0, hc1, hs1, hz1, hne, hb0, hb1⟩ := laid_sentinels2 h hg0 (by kernel_rfl) hg1 (by kernel_rfl) Tryd.underlying104 rowES Tryd.underlying224 Tryd.underlying226 rfl rfl Tryd.underlying9 cellsES cellsStr
  have v0 : W.cell? ⟨0, 0, none⟩ = some (.iface 224 (.pointer (some a0))) := by simpa using World.var?_cell hg0 hv0 0
  have v1 : W.cell? ⟨1, 0, none⟩ = some (.iface 224 (.pointer (some a1))) := by simpa using World.var?_cell hg1 hv1 0
  exact ⟨a0, a1, v0, v1, hne, ⟨c0, t0, hb0⟩, ⟨c1, t1, hb1⟩, lt_of_cell v0, lt_of_cell v1⟩
end Go.Proofs.YtpbepibklipfpaaDoor

/-
  The table of the sines, out of a row's list; the lists of a row's variables.
-/
import Derived.Test.YtcklcledchboiaaDoorRows
import Derived.Test.YtcklcledchboiaaDoorEpI
import Derived.Test.YtcklcledchboiaaDoorLaid
import Derived.Stop.LaidErr
import Derived.Lib.LaidTab
import Derived.ProofKit
import Derived.OpenShut
namespace Go.Proofs.YtcklcledchboiaaDoor
open Go.ChangeShapes Go.WideShapes Go.ChangeAt Go.RowKit

theorem gSin : Tryd.prog.globalNamed "loop.example/g00921/impl.planetSines" = some 0 := by kernel_rfl
theorem sines_tab {r : List (String × DataW Unit)} {W : World} (h : laidMet Tryd.prog (("loop.example/g00921/impl.planetSines", Lib.tabData .i64 sinL) :: r) W) : Sines W := by
  have ht := Lib.tabIs_of_head gSin (by kernel_rfl) Tryd.underlying110 Tryd.underlying2 (by kernel_rfl) (by kernel_rfl) h
  have hc : ∀ i, i < 7 → W.cell? ⟨0, i, none⟩ = some (.int .i64 (sinL.getD i 0)) := fun i hi => by
    have := ht.cell gSin i (by simpa [sinL] using hi)
    rw [this]
  exact ⟨hc, lt_of_cell (hc 0 (by omega))⟩
theorem sines_of {r : List (String × DataW Unit)} {W : World} (h : laidMet Tryd.prog (("loop.example/g00921/impl.planetSines", Rows.laid_loop_example_g00921_impl_planetSines) :: r) W) : Sines W := sines_tab (r := r) h
theorem sines_of3 {x y : String × DataW Unit} {r : List (String × DataW Unit)} {W : World} (h : laidMet Tryd.prog (x :: y :: ("loop.example/g00921/impl.planetSines", Rows.laid_loop_example_g00921_impl_planetSines) :: r) W) : Sines W := sines_of h.tail.tail
theorem gs_one {H : Type} {enc : TypeId × Value → H} {P : Program} {w : World} {spare : Nat → Bool} {n : String} {gs : List (DataW H)} {ps : List MemPlace} (h : DataW.TrodVars enc P w spare [n] gs ps) : ∃ a, gs = [a] := by
  obtain ⟨_, _, _, _, d, _, e, _⟩ := trodVars_one h
  exact ⟨d, e⟩
theorem gs_three {H : Type} {enc : TypeId × Value → H} {P : Program} {w : World} {spare : Nat → Bool} {n0 n1 n2 : String} {gs : List (DataW H)} {ps : List MemPlace} (h : DataW.TrodVars enc P w spare [n0, n1, n2] gs ps) : ∃ a b c, gs = [a, b, c] := by
  cases gs with
  | nil => simp [DataW.TrodVars] at h
  | cons d ds =>
    obtain ⟨g0, t0, cs0, f0, p0, q0, h1, h2, h3, h4, hs, e⟩ := h
    obtain ⟨_, _, _, _, d1, _, _, _, _, _, d2, _, e2, _⟩ := trodVars_two hs
    exact ⟨d, d1, d2, by rw [e2]⟩
end Go.Proofs.YtcklcledchboiaaDoor

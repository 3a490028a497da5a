/-
  A drawn region that makes its result's box at any time: what stands in it.
-/
import Derived.Test.YtnndjbngcaafhaaDoorDf
import Derived.Deep.DeepCutAuto
namespace Go.Proofs.YtnndjbngcaafhaaDoor
open Go.RowKit

theorem drew_size (W : World) : W.drew.heap.size = W.heap.size := rfl
/-- What stands while an argument is copied: the box of a ratio. -/
def StR (w : World) (b : Nat) (n d : Int) (W : World) : Prop := Below w.heap.size w W ∧ Box2 W b n d
theorem StR.keep {w W W' : World} {b : Nat} {n d : Int} (hb : Below W.heap.size W W') (h : StR w b n d W) : StR w b n d W' := ⟨bT h.1 hb, h.2.keep hb⟩
theorem StR.drew {w W : World} {b : Nat} {n d : Int} (h : StR w b n d W) : StR w b n d W.drew := ⟨h.1.drew, h.2.drew⟩
theorem StR.bel {w W : World} {b : Nat} {n d : Int} (h : StR w b n d W) : Below w.heap.size w W := h.1
theorem StR.box {w W : World} {b : Nat} {n d : Int} (h : StR w b n d W) : Box2 W b n d := h.2
/-- What the first statement leaves: the box of the model's ratio, and its code. -/
def CutEr (w : World) (b : Nat) (n d x y : Int) (z s6 s7 : Value) (wx : World) : Prop :=
  ∃ g : Nat, s6 = .pointer (some ⟨g, 0, none⟩) ∧ s7 = z ∧ Box2 wx g x y ∧ StR w b n d wx
theorem StR.alloc {w W : World} {b : Nat} {n d : Int} (h : StR w b n d W) (o : Obj) : StR w b n d (W.alloc o) := h.keep (bA (bR _) _)
/-- The box of the result, if it has been made already. -/
def BxR (w : World) (b g : Nat) (W : World) : Prop := w.heap.size ≤ g ∧ b ≠ g ∧ Box2 W g 0 0
theorem BxR.mk {w W : World} {b : Nat} {n d : Int} (h : StR w b n d W) : BxR w b W.heap.size (W.alloc (.cells #[.int .i64 0, .int .i64 0] 32)) :=
  ⟨h.1.size, by have := h.2.lt; omega, Box2.new W 0 0 32⟩
theorem BxR.keep {w W W' : World} {b g : Nat} (hb : Below W.heap.size W W') (h : BxR w b g W) : BxR w b g W' := ⟨h.1, h.2.1, h.2.2.keep hb⟩
theorem BxR.drew {w W : World} {b g : Nat} (h : BxR w b g W) : BxR w b g W.drew := ⟨h.1, h.2.1, h.2.2.drew⟩
theorem cutEr1 {w W w' : World} {b g : Nat} {n d x y : Int} {z : Value} (hB : BxR w b g W) (h : StR w b n d W) (hb : Below W.heap.size W w') :
    CutEr w b n d x y z (.pointer (some ⟨g, 0, none⟩)) z ((w'.setCell ⟨g, 0, none⟩ (.int .i64 x)).setCell ⟨g, 1, none⟩ (.int .i64 y)) :=
  ⟨g, rfl, rfl, (hB.2.2.keep hb).set x y, bset (bset (bT h.1 hb) hB.1) hB.1, ((h.2.keep hb).other hB.2.1).other hB.2.1⟩
theorem cutEr2 {w W w' : World} {b : Nat} {n d x y : Int} {z : Value} {t : TypeId} (h : StR w b n d W) (hb : Below W.heap.size W w') :
    CutEr w b n d x y z (.pointer (some ⟨w'.heap.size, 0, none⟩)) z (w'.alloc (.cells #[.int .i64 x, .int .i64 y] t)) :=
  ⟨w'.heap.size, rfl, rfl, Box2.new w' x y t, bA (bT h.1 hb) _, (h.2.keep hb).alloc _⟩
theorem cutEr3 {w W w' : World} {b : Nat} {n d x y : Int} {z : Value} {t : TypeId} (h : StR w b n d W) (hb : Below W.heap.size W w') :
    CutEr w b n d x y z (.pointer (some ⟨w'.heap.size, 0, none⟩)) z (((w'.alloc (.cells #[.int .i64 0, .int .i64 0] t)).setCell ⟨w'.heap.size, 0, none⟩ (.int .i64 x)).setCell ⟨w'.heap.size, 1, none⟩ (.int .i64 y)) := by
  have h' := h.keep hb
  have e2 := h'.2.lt
  have e4 := h'.1.size
  exact ⟨w'.heap.size, rfl, rfl, (Box2.new w' 0 0 t).set x y, bset (bset (bA h'.1 _) (by omega)) (by omega), ((h'.2.alloc _).other (by omega)).other (by omega)⟩
end Go.Proofs.YtnndjbngcaafhaaDoor

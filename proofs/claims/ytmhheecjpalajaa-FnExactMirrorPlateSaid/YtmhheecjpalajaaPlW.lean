/-
  Clashes: the program's side.
-/
import Derived.Test.YtmhheecjpalajaaPlU
import Derived.Maps.AppendAt
namespace Go.Proofs.Ytmhheecjpalajaa
open Go.RowKit

theorem BoxL.grownQ {w w' : World} {b : Nat} {vs : List Value} {row : Option Nat} (h : BoxL w b vs) (g : w.grownBy w' row) (hn : some b ≠ row) : BoxL w' b vs := by
  have e := g.block b h.lt hn
  refine ⟨fun i x hi => ?_, fun i x hi => ?_, Nat.lt_of_lt_of_le h.lt g.size⟩
  · have := h.c i x hi
    unfold World.cell? at this ⊢
    simpa [e] using this
  · have := h.f i x hi
    unfold World.frozen? at this ⊢
    simpa [e] using this
/-- What stands in a round over two sites. -/
def ClP (W0 : World) (bx b1 b2 : Nat) (G : Int) (n1 : ByteArray) (x1 y1 wh1 st1 : Int) (n2 : ByteArray) (x2 y2 wh2 st2 : Int) (w' : World) : Prop :=
  w'.cell? ⟨bx, 3, none⟩ = some (.int .i64 G) ∧ w'.cell? ⟨b1, 0, none⟩ = some (.string n1) ∧ w'.cell? ⟨b1, 1, none⟩ = some (.int .i64 x1) ∧ w'.cell? ⟨b1, 2, none⟩ = some (.int .i64 y1) ∧ w'.cell? ⟨b1, 3, none⟩ = some (.int .i64 wh1) ∧ w'.cell? ⟨b1, 4, none⟩ = some (.int .i64 st1) ∧
  w'.cell? ⟨b2, 0, none⟩ = some (.string n2) ∧ w'.cell? ⟨b2, 1, none⟩ = some (.int .i64 x2) ∧ w'.cell? ⟨b2, 2, none⟩ = some (.int .i64 y2) ∧ w'.cell? ⟨b2, 3, none⟩ = some (.int .i64 wh2) ∧ w'.cell? ⟨b2, 4, none⟩ = some (.int .i64 st2) ∧ bx < w'.heap.size ∧ b1 < w'.heap.size ∧ b2 < w'.heap.size ∧ Below W0.heap.size W0 w'
theorem ClP.keep {W0 : World} {bx b1 b2 : Nat} {G : Int} {n1 : ByteArray} {x1 y1 wh1 st1 : Int} {n2 : ByteArray} {x2 y2 wh2 st2 : Int} {w' w2 : World} (hb : Below w'.heap.size w' w2) (h : ClP W0 bx b1 b2 G n1 x1 y1 wh1 st1 n2 x2 y2 wh2 st2 w') : ClP W0 bx b1 b2 G n1 x1 y1 wh1 st1 n2 x2 y2 wh2 st2 w2 := by
  obtain ⟨g0, a0, a1, a2, a3, a4, c0, c1, c2, c3, c4, e0, e1, e2, e3⟩ := h
  exact ⟨(hb.cell (p := ⟨bx, 3, none⟩) e0).trans g0, (hb.cell (p := ⟨b1, 0, none⟩) e1).trans a0, (hb.cell (p := ⟨b1, 1, none⟩) e1).trans a1, (hb.cell (p := ⟨b1, 2, none⟩) e1).trans a2, (hb.cell (p := ⟨b1, 3, none⟩) e1).trans a3, (hb.cell (p := ⟨b1, 4, none⟩) e1).trans a4,
    (hb.cell (p := ⟨b2, 0, none⟩) e2).trans c0, (hb.cell (p := ⟨b2, 1, none⟩) e2).trans c1, (hb.cell (p := ⟨b2, 2, none⟩) e2).trans c2, (hb.cell (p := ⟨b2, 3, none⟩) e2).trans c3, (hb.cell (p := ⟨b2, 4, none⟩) e2).trans c4, Nat.lt_of_lt_of_le e0 hb.size, Nat.lt_of_lt_of_le e1 hb.size, Nat.lt_of_lt_of_le e2 hb.size, bT e3 hb⟩
theorem ClP.drew {W0 : World} {bx b1 b2 : Nat} {G : Int} {n1 : ByteArray} {x1 y1 wh1 st1 : Int} {n2 : ByteArray} {x2 y2 wh2 st2 : Int} {w' : World} (h : ClP W0 bx b1 b2 G n1 x1 y1 wh1 st1 n2 x2 y2 wh2 st2 w') : ClP W0 bx b1 b2 G n1 x1 y1 wh1 st1 n2 x2 y2 wh2 st2 w'.drew := h.keep (bR _).drew
end Go.Proofs.Ytmhheecjpalajaa

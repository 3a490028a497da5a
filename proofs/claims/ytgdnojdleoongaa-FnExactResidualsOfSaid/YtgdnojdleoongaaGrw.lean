/-
  What a call leaves alone that writes one row: boxes, rows, and all below.
-/
import Derived.Test.YtgdnojdleoongaaBl
import Derived.Test.YtgdnojdleoongaaPr
import Derived.Test.YtgdnojdleoongaaEq64
import Derived.Laws.OwnMore
namespace Go.Proofs.Ytgdnojdleoongaa
open Go.RowKit

theorem BoxL.grownR {w w' : World} {b : Nat} {vs : List Value} {row : Option Nat} (h : BoxL w b vs) (g : w.grownBy w' row) (hn : some b ≠ row) : BoxL w' b vs := by
  have e := g.block b h.lt hn
  refine ⟨fun i x hi => ?_, fun i x hi => ?_, Nat.lt_of_lt_of_le h.lt g.size⟩
  · have := h.c i x hi
    unfold World.cell? at this ⊢
    simpa [e] using this
  · have := h.f i x hi
    unfold World.frozen? at this ⊢
    simpa [e] using this
theorem Sl64.grownR {W W' : World} {v : Value} {ts : List Int} {row : Option Nat} (h : Sl64 W v ts) (g : W.grownBy W' row) (hn : ∀ k, v.ownBlock = some k → some k ≠ row) : Sl64 W' v ts := by
  obtain ⟨ao, cap, e, h1⟩ := h
  refine ⟨ao, cap, e, fun hl => ?_⟩
  obtain ⟨b, eg, hg, hc⟩ := h1 hl
  have e2 := g.block b hg (hn b (by rw [e, eg]; rfl))
  refine ⟨b, eg, Nat.lt_of_lt_of_le hg g.size, fun i hi => ?_⟩
  have := hc i hi
  unfold World.cell? at this ⊢
  simpa [e2] using this
theorem ownR {W W' : World} {B : Nat} {t : TypeId} {sz n : Nat} {v : Value} {xs : List Value} {row : Option Nat} (h : W.ownsRow B t sz v n xs) (g : W.grownBy W' row) (hne : ∀ k, v.ownBlock = some k → some k ≠ row) : W'.ownsRow B t sz v n xs := by
  refine ⟨h.1, ?_⟩
  rcases h.2 with h0 | ⟨g', cap, cur, h0, hB, hh, r⟩
  · exact .inl h0
  · exact .inr ⟨g', cap, cur, h0, hB, (g.block g' (Array.getElem?_eq_some_iff.1 hh).1 (fun e => hne g' (by rw [h0]; rfl) e)).trans hh, r⟩
theorem belR {a b c : World} {row : Option Nat} (h : Below a.heap.size a b) (g : b.grownBy c row) (hr : ∀ r, row = some r → a.heap.size ≤ r) : Below a.heap.size a c :=
  ⟨g.os.trans h.os, g.tape.trans h.tape, g.output.trans h.output, Nat.le_trans h.size g.size, fun k hk => (g.block k (Nat.lt_of_lt_of_le hk h.size) (fun e => by have := hr k e.symm; omega)).trans (h.block k hk)⟩
theorem SlP.grownR {W W' : World} {v : Value} {ps : List (Int × Int)} {row : Option Nat} (h : SlP W v ps) (g : W.grownBy W' row) (hn : ∀ k, v.ownBlock = some k → some k ≠ row) : SlP W' v ps := by
  obtain ⟨ao, cap, e, h1⟩ := h
  refine ⟨ao, cap, e, fun hl => ?_⟩
  obtain ⟨b, eg, hg, hc⟩ := h1 hl
  have hb := g.block b hg (hn b (by rw [e, eg]; rfl))
  exact ⟨b, eg, Nat.lt_of_lt_of_le hg g.size, fun i hi => ⟨(World.cell?_of_block hb).trans (hc i hi).1, (World.cell?_of_block hb).trans (hc i hi).2⟩⟩
end Go.Proofs.Ytgdnojdleoongaa

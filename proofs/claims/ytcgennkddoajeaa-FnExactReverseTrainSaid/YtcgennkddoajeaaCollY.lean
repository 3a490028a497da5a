/-
  Collecting what an iterator hands out, as in the text before; the row of the call's own lies from block B on, and the iterator reads blocks between the variable's box and B.
-/
import Derived.Test.YtcgennkddoajeaaCollX
namespace Go.Proofs.Ytcgennkddoajeaa
open Go.RowKit

/-- What the loop carries: the variable's box b, what it has collected, the iterator's blocks. -/
def CollY {α : Type} (B : Nat) (t : TypeId) (sz : Nat) (f : List α → List Value) (b : Nat) (w : World) (pre : List α) (T : Nat → Prop) (W : World) : Prop :=
  ∃ v, W.cell? ⟨b, 0, none⟩ = some v ∧ W.frozen? ⟨b, 0, none⟩ = false ∧ OwnX W B t sz v pre.length (f pre) T ∧ b < W.heap.size ∧ (∀ k, T k → b < k) ∧ Below w.heap.size w W
theorem colly_ab {α : Type} {B : Nat} {t : TypeId} {sz : Nat} {f : List α → List Value} {b : Nat} {w : World} (hw : w.heap.size ≤ b) : AbP (CollY B t sz f b w) := by
  intro s T T' W W' ⟨v, h1, h2, h3, h4, h5, h6⟩ hm ht
  have hb : W'.heap[b]? = W.heap[b]? := hm.block _ h4 (fun h => by have := h5 _ h; omega)
  refine ⟨v, (World.cell?_of_block hb).trans h1, (World.frozen?_of_block hb).trans h2, h3.mov hm ht, Nat.lt_of_lt_of_le h4 hm.size, fun k hk => ?_, ?_⟩
  · rcases (ht k hk).1 with h | h
    · exact h5 k h
    · omega
  · exact ⟨hm.os.trans h6.os, hm.tape.trans h6.tape, hm.output.trans h6.output, Nat.le_trans h6.size hm.size, fun k hk => (hm.block k (Nat.lt_of_lt_of_le hk h6.size) (fun h => by have := h5 _ h; omega)).trans (h6.block k hk)⟩
theorem colly_turn {α : Type} {B : Nat} {t : TypeId} {sz : Nat} {f : List α → List Value} {b L : Nat} {w : World} (hw : w.heap.size ≤ b) (hL : b < L) (T : Nat → Prop) : TurnsP L (fun s => CollY B t sz f b w s T) := by
  intro s W o o' ⟨v, h1, h2, h3, h4, h5, h6⟩ ho hc
  have hb : (W.putObj (L + 1) o').heap[b]? = W.heap[b]? := World.putObj_heap_other (by omega)
  refine ⟨v, (World.cell?_of_block hb).trans h1, (World.frozen?_of_block hb).trans h2, ⟨ownsRow_putObj h3.1 o' ho hc, fun g hg => ⟨(h3.2 g hg).1, by simpa using (h3.2 g hg).2⟩⟩, by simpa using h4, h5, ?_⟩
  exact h6.grown (grownBy_putObj' W (L + 1) o') h6.size (fun k e => by cases e; omega)
theorem boxy_kept {b B : Nat} (hbB : b < B) {W W1 : World} {o : Obj} {v v0 : Value} {e : TypeId} {sz n : Nat} {xs : List Value} (h4 : b < W.heap.size) (hv : W.ownsRow B e sz v n xs) (hg : (W.alloc o).grownBy W1 v.ownBlock) (c1 : W.cell? ⟨b, 0, none⟩ = some v0) (c2 : W.frozen? ⟨b, 0, none⟩ = false) :
    W1.cell? ⟨b, 0, none⟩ = some v0 ∧ W1.frozen? ⟨b, 0, none⟩ = false ∧ b < W1.heap.size := by
  have hb : W1.heap[b]? = W.heap[b]? := by
    rw [hg.block b (by simp; omega) (fun e => ?_), Below.heap_alloc _ _ _ h4]
    have := (ownx_cells hv e.symm (Array.getElem?_eq_getElem h4)).2
    omega
  exact ⟨(World.cell?_of_block hb).trans c1, (World.frozen?_of_block hb).trans c2, by have := hg.size; simp at this; omega⟩
/-- A round: one element is appended, and the slice is stored into its box. -/
theorem colly_push {α : Type} {b B : Nat} (hbB : b < B) {t : TypeId} {sz : Nat} {f : List α → List Value} {w W W1 : World} {pre : List α} {x : α} {T Fx : Nat → Prop} {v v' : Value} {o : Obj} (hw : w.heap.size ≤ b) (hFx : ∀ k, Fx k → k < W.heap.size ∧ k ≠ b ∧ k < B) (c1 : W.cell? ⟨b, 0, none⟩ = some v) (c2 : W.frozen? ⟨b, 0, none⟩ = false) (c3 : OwnX W B t sz v pre.length (f pre) T) (c4 : b < W.heap.size) (c5 : ∀ k, T k → b < k) (c6 : Below w.heap.size w W) (ht : ∀ k, T k → k < W.heap.size)
    (hown : W1.ownsRow B t sz v' (pre.length + 1) (f (pre ++ [x]))) (hg : (W.alloc o).grownBy W1 v.ownBlock) (hat : v'.ownBlock = v.ownBlock ∨ v'.ownBlock = some (W.alloc o).heap.size) :
    KeepsOthers W (W1.setCell ⟨b, 0, none⟩ v') ∧ Kept T Fx W (W1.setCell ⟨b, 0, none⟩ v') ∧ CollY B t sz f b w (pre ++ [x]) T (W1.setCell ⟨b, 0, none⟩ v') := by
  have hal := c3.1.alloc o
  obtain ⟨b1, b2, b3⟩ := boxy_kept hbB c4 c3.1 hg c1 c2
  have hgs := hg.size
  have hsz : (W1.setCell ⟨b, 0, none⟩ v').heap.size = W1.heap.size := by simp [World.setCell]
  have blk : ∀ k, k < W.heap.size → v.ownBlock ≠ some k → k ≠ b → (W1.setCell ⟨b, 0, none⟩ v').heap[k]? = W.heap[k]? := by
    intro k hk h1 h2
    rw [Below.heap_setCell _ _ _ _ h2, hg.block k (by simp; omega) (Ne.symm h1), Below.heap_alloc _ _ _ hk]
  have row : ∀ k, k < W.heap.size → v.ownBlock = some k → B ≤ k := fun k hk e => (ownx_cells c3.1 e (Array.getElem?_eq_getElem hk)).2
  have bel : Below b W (W1.setCell ⟨b, 0, none⟩ v') :=
    ⟨hg.os, hg.tape, hg.output, by rw [hsz]; simp at hgs; omega, fun k hk => blk k (by omega) (fun e => by have := row k (by omega) e; omega) (by omega)⟩
  refine ⟨?_, ⟨bel.os, bel.tape, bel.output, by rw [hsz]; simp at hgs; omega, fun k hk => blk k (ht k hk) (fun e => (c3.2 k e).1 hk) (by have := c5 k hk; omega), fun k hk => blk k (hFx k hk).1 (fun e => by have := row k (hFx k hk).1 e; have := (hFx k hk).2.2; omega) (hFx k hk).2.1⟩, ?_⟩
  · exact (KeepsOthers.alloc W o).trans ((KeepsOthers.of_grownBy hg (fun j o' hj ho => (ownx_cells hal hj ho).1)).trans (KeepsOthers.setCell _ _ _))
  · have hp : OwnX W1 B t sz v' (pre.length + 1) (f (pre ++ [x])) T := ownX_push (W := W.alloc o) (fun k hk => by have := ht k hk; simp; omega) ⟨hal, fun g hg' => ⟨(c3.2 g hg').1, by have := (c3.2 g hg').2; simp; omega⟩⟩ rfl hown (fun g hg' => by
      rcases hat with h | h
      · exact .inl (h.symm.trans hg')
      · rw [h] at hg'; cases hg'; exact .inr (Nat.le_refl _))
    have hne : v'.ownBlock ≠ some (⟨b, 0, none⟩ : Addr).block := fun e => by
      have hl := (hp.2 _ e).2
      have := (ownx_cells hp.1 e (Array.getElem?_eq_getElem hl)).2
      simp at this
      omega
    refine ⟨v', ?_, ?_, ⟨?_, fun g hg' => ⟨(hp.2 g hg').1, by rw [hsz]; exact (hp.2 g hg').2⟩⟩, by rw [hsz]; exact b3, c5, ?_⟩
    · simp [go_sem, b1]
    · simp [go_sem, b2]
    · rw [List.length_append]; exact ownsRow_setCell_other hp.1 hne _
    · exact ⟨bel.os.trans c6.os, bel.tape.trans c6.tape, bel.output.trans c6.output, Nat.le_trans c6.size bel.size, fun k hk => (bel.block k (by omega)).trans (c6.block k hk)⟩
end Go.Proofs.Ytcgennkddoajeaa

/-
  Collecting what an iterator hands out in a slice of the call's own, whose variable lies in a box: the elements have any type.
-/
import Derived.Test.YtldjplopglpgfaaRf
import Derived.Test.YtldjplopglpgfaaPr
import Derived.Maps.OwnIn
import Derived.Maps.AppendAt
import Derived.RangeFuncBox
namespace Go.Proofs.Ytldjplopglpgfaa
open Go.RowKit

/-- A slice holds cells in a row of its own, in a block of which p holds not; or it is nil and has none. -/
def OwnX (W : World) (B : Nat) (t : TypeId) (sz : Nat) (v : Value) (n : Nat) (xs : List Value) (p : Nat → Prop) : Prop := W.ownsRow B t sz v n xs ∧ ∀ g, v.ownBlock = some g → ¬ p g ∧ g < W.heap.size
theorem OwnX.mov {W W' : World} {B : Nat} {t : TypeId} {sz : Nat} {v : Value} {n : Nat} {xs : List Value} {T T' : Nat → Prop} (h : OwnX W B t sz v n xs T) (hm : Mov T W W') (ht : ∀ k, T' k → (T k ∨ W.heap.size ≤ k) ∧ k < W'.heap.size) : OwnX W' B t sz v n xs T' := by
  obtain ⟨⟨h1, h2⟩, h3⟩ := h
  refine ⟨⟨h1, ?_⟩, fun g hg => ⟨fun hT => ?_, Nat.lt_of_lt_of_le (h3 g hg).2 hm.size⟩⟩
  · rcases h2 with h2 | ⟨g, cap, cur, rfl, hB, hh, r⟩
    · exact .inl h2
    · exact .inr ⟨g, cap, cur, rfl, hB, (hm.block g (h3 g rfl).2 (h3 g rfl).1).trans hh, r⟩
  · have := h3 g hg
    rcases (ht g hT).1 with h | h
    · exact this.1 h
    · omega
/-- What the loop carries: the variable's box b, what it has collected, the iterator's blocks. -/
def CollX {α : Type} (t : TypeId) (sz : Nat) (f : List α → List Value) (b : Nat) (w : World) (pre : List α) (T : Nat → Prop) (W : World) : Prop :=
  ∃ v, W.cell? ⟨b, 0, none⟩ = some v ∧ W.frozen? ⟨b, 0, none⟩ = false ∧ OwnX W (b + 1) t sz v pre.length (f pre) T ∧ b < W.heap.size ∧ (∀ k, T k → b < k) ∧ Below w.heap.size w W
theorem collx_ab {α : Type} {t : TypeId} {sz : Nat} {f : List α → List Value} {b : Nat} {w : World} (hw : w.heap.size ≤ b) : AbP (CollX t sz f b w) := by
  intro s T T' W W' ⟨v, h1, h2, h3, h4, h5, h6⟩ hm ht
  have hb : W'.heap[b]? = W.heap[b]? := hm.block _ h4 (fun h => by have := h5 _ h; omega)
  refine ⟨v, (World.cell?_of_block hb).trans h1, (World.frozen?_of_block hb).trans h2, h3.mov hm ht, Nat.lt_of_lt_of_le h4 hm.size, fun k hk => ?_, ?_⟩
  · rcases (ht k hk).1 with h | h
    · exact h5 k h
    · omega
  · exact ⟨hm.os.trans h6.os, hm.tape.trans h6.tape, hm.output.trans h6.output, Nat.le_trans h6.size hm.size, fun k hk => (hm.block k (Nat.lt_of_lt_of_le hk h6.size) (fun h => by have := h5 _ h; omega)).trans (h6.block k hk)⟩
theorem collx_turn {α : Type} {t : TypeId} {sz : Nat} {f : List α → List Value} {b L : Nat} {w : World} (hw : w.heap.size ≤ b) (hL : b < L) (T : Nat → Prop) : TurnsP L (fun s => CollX t sz f b w s T) := by
  intro s W o o' ⟨v, h1, h2, h3, h4, h5, h6⟩ ho hc
  have hb : (W.putObj (L + 1) o').heap[b]? = W.heap[b]? := World.putObj_heap_other (by omega)
  refine ⟨v, (World.cell?_of_block hb).trans h1, (World.frozen?_of_block hb).trans h2, ⟨ownsRow_putObj h3.1 o' ho hc, fun g hg => ⟨(h3.2 g hg).1, by simpa using (h3.2 g hg).2⟩⟩, by simpa using h4, h5, ?_⟩
  exact h6.grown (grownBy_putObj' W (L + 1) o') h6.size (fun k e => by cases e; omega)
theorem ownX_push {W W' : World} {B : Nat} {t : TypeId} {sz n : Nat} {v v' : Value} {xs ys : List Value} {T : Nat → Prop} {row : Option Nat} (hT : ∀ k, T k → k < W.heap.size) (hv : OwnX W B t sz v n xs T) (hrow : v.ownBlock = row) (hown : W'.ownsRow B t sz v' (n + 1) ys) (hnew : ∀ g, v'.ownBlock = some g → row = some g ∨ W.heap.size ≤ g) : OwnX W' B t sz v' (n + 1) ys T := by
  refine ⟨hown, fun g hg' => ?_⟩
  have hlt : g < W'.heap.size := (own_blk hown g hg').2
  refine ⟨fun h => ?_, hlt⟩
  rcases hnew g hg' with e | e
  · exact (hv.2 g (hrow.trans e)).1 h
  · have := hT g h; omega
theorem ownx_cells {W : World} {B : Nat} {e : TypeId} {sz : Nat} {v : Value} {n : Nat} {xs : List Value} (h : W.ownsRow B e sz v n xs) {j : Nat} {o : Obj} (hj : v.ownBlock = some j) (ho : W.heap[j]? = some o) : o.isCells = true ∧ B ≤ j := by
  rcases h.2 with ⟨rfl, _⟩ | ⟨g, cap, cur, rfl, hB, hh, _⟩
  · cases hj
  · cases hj; rw [hh] at ho; cases ho; exact ⟨rfl, hB⟩
theorem boxx_kept {b : Nat} {W W1 : World} {o : Obj} {v v0 : Value} {e : TypeId} {sz n : Nat} {xs : List Value} (h4 : b < W.heap.size) (hv : W.ownsRow (b + 1) e sz v n xs) (hg : (W.alloc o).grownBy W1 v.ownBlock) (c1 : W.cell? ⟨b, 0, none⟩ = some v0) (c2 : W.frozen? ⟨b, 0, none⟩ = false) :
    W1.cell? ⟨b, 0, none⟩ = some v0 ∧ W1.frozen? ⟨b, 0, none⟩ = false ∧ b < W1.heap.size := by
  have hb : W1.heap[b]? = W.heap[b]? := by
    rw [hg.block b (by simp; omega) (fun e => ?_), Below.heap_alloc _ _ _ h4]
    have := (ownx_cells hv e.symm (Array.getElem?_eq_getElem h4)).2
    omega
  exact ⟨(World.cell?_of_block hb).trans c1, (World.frozen?_of_block hb).trans c2, by have := hg.size; simp at this; omega⟩
/-- A round: one element is appended, and the slice is stored into its box. -/
theorem collx_push {α : Type} {t : TypeId} {sz : Nat} {f : List α → List Value} {b : Nat} {w W W1 : World} {pre : List α} {x : α} {T Fx : Nat → Prop} {v v' : Value} {o : Obj} (hw : w.heap.size ≤ b) (hFx : ∀ k, Fx k → k < b) (c1 : W.cell? ⟨b, 0, none⟩ = some v) (c2 : W.frozen? ⟨b, 0, none⟩ = false) (c3 : OwnX W (b + 1) t sz v pre.length (f pre) T) (c4 : b < W.heap.size) (c5 : ∀ k, T k → b < k) (c6 : Below w.heap.size w W) (ht : ∀ k, T k → k < W.heap.size)
    (hown : W1.ownsRow (b + 1) t sz v' (pre.length + 1) (f (pre ++ [x]))) (hg : (W.alloc o).grownBy W1 v.ownBlock) (hat : v'.ownBlock = v.ownBlock ∨ v'.ownBlock = some (W.alloc o).heap.size) :
    KeepsOthers W (W1.setCell ⟨b, 0, none⟩ v') ∧ Kept T Fx W (W1.setCell ⟨b, 0, none⟩ v') ∧ CollX t sz f b w (pre ++ [x]) T (W1.setCell ⟨b, 0, none⟩ v') := by
  have hal := c3.1.alloc o
  obtain ⟨b1, b2, b3⟩ := boxx_kept c4 c3.1 hg c1 c2
  have hgs := hg.size
  have hsz : (W1.setCell ⟨b, 0, none⟩ v').heap.size = W1.heap.size := by simp [World.setCell]
  have blk : ∀ k, k < W.heap.size → v.ownBlock ≠ some k → k ≠ b → (W1.setCell ⟨b, 0, none⟩ v').heap[k]? = W.heap[k]? := by
    intro k hk h1 h2
    rw [Below.heap_setCell _ _ _ _ h2, hg.block k (by simp; omega) (Ne.symm h1), Below.heap_alloc _ _ _ hk]
  have row : ∀ k, k < W.heap.size → v.ownBlock = some k → b + 1 ≤ k := fun k hk e => (ownx_cells c3.1 e (Array.getElem?_eq_getElem hk)).2
  have bel : Below b W (W1.setCell ⟨b, 0, none⟩ v') :=
    ⟨hg.os, hg.tape, hg.output, by rw [hsz]; simp at hgs; omega, fun k hk => blk k (by omega) (fun e => by have := row k (by omega) e; omega) (by omega)⟩
  refine ⟨?_, ⟨bel.os, bel.tape, bel.output, by rw [hsz]; simp at hgs; omega, fun k hk => blk k (ht k hk) (fun e => (c3.2 k e).1 hk) (by have := c5 k hk; omega), fun k hk => bel.block k (hFx k hk)⟩, ?_⟩
  · exact (KeepsOthers.alloc W o).trans ((KeepsOthers.of_grownBy hg (fun j o' hj ho => (ownx_cells hal hj ho).1)).trans (KeepsOthers.setCell _ _ _))
  · have hp : OwnX W1 (b + 1) t sz v' (pre.length + 1) (f (pre ++ [x])) T := ownX_push (W := W.alloc o) (fun k hk => by have := ht k hk; simp; omega) ⟨hal, fun g hg' => ⟨(c3.2 g hg').1, by have := (c3.2 g hg').2; simp; omega⟩⟩ rfl hown (fun g hg' => by
      rcases hat with h | h
      · exact .inl (h.symm.trans hg')
      · rw [h] at hg'; cases hg'; exact .inr (Nat.le_refl _))
    have hne : v'.ownBlock ≠ some (⟨b, 0, none⟩ : Addr).block := fun e => by
      have hl := (hp.2 _ e).2
      have := (ownx_cells hp.1 e (Array.getElem?_eq_getElem hl)).2
      simp at this
      omega
    refine ⟨v', ?_, ?_, ⟨?_, fun g hg' => ⟨(hp.2 g hg').1, by rw [hsz]; exact (hp.2 g hg').2⟩⟩, by rw [hsz]; exact b3, c5, ?_⟩
    · simp [go_sem, b1]
    · simp [go_sem, b2]
    · rw [List.length_append]; exact ownsRow_setCell_other hp.1 hne _
    · exact ⟨bel.os.trans c6.os, bel.tape.trans c6.tape, bel.output.trans c6.output, Nat.le_trans c6.size bel.size, fun k hk => (bel.block k (by omega)).trans (c6.block k hk)⟩
/-- A box whose cells can be read is no book of a loop. -/
theorem cell_book {W : World} {c l o : Nat} {v : Value} {ob : Obj} (h : W.cell? ⟨c, o, none⟩ = some v) (hl : W.heap[l]? = some ob) (hc : ob.isCells = false) : c ≠ l := by
  rintro rfl
  unfold World.cell? at h
  rw [hl] at h
  cases ob <;> simp_all [Obj.isCells]
end Go.Proofs.Ytldjplopglpgfaa

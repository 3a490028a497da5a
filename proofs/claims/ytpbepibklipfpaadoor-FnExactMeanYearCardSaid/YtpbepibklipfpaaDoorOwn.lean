/-
  A slice of numbers that a call has made for itself.
-/
import Derived.Test.YtpbepibklipfpaaDoorCfS
import Derived.OwnWalk
import Derived.OneCell
namespace Go.Proofs.YtpbepibklipfpaaDoor
open Go.RowKit

/-- The cells of a list of numbers. -/
def intC (ts : List Int) : List Value := ts.map (.int .i64)
theorem infoI64 : (Tryd.prog.info? 2).map (fun i => (i.zero, i.size, i.bytes)) = some (some (.int .i64 0), 1, 8) := by kernel_rfl
theorem row_src (wr : World) (T : TypeId) (x : Value) : ∀ (j : Nat) (u : Value), [x][j]? = some u → (wr.alloc (.cells #[x] T)).cell? ((⟨wr.heap.size, 0, none⟩ : Addr).add j) = some u := by
  intro j u hj
  match j with
  | 0 => simp at hj; subst hj; simp [go_sem, Addr.add]
  | j + 1 => simp at hj
/-- The list ts lies in block g, which is not below B, and belongs to the slice alone. -/
def Row (w : World) (B g cap : Nat) (ts : List Int) : Prop := w.ownsRow B 2 1 (.slice (some ⟨g, 0, none⟩) ts.length cap) ts.length (intC ts)
theorem Row.parts {w : World} {B g cap : Nat} {ts : List Int} (h : Row w B g cap ts) : B ≤ g ∧ g < w.heap.size ∧ ts.length ≤ cap ∧ cap ≤ maxLen ∧ IntsAt w g ts ∧ ∃ cur, w.heap[g]? = some (.cells cur 2 (0, 0)) ∧ cur.size = cap := by
  have h' := h
  rcases h.2 with ⟨h0, _⟩ | ⟨g', cap', cur, h0, hg, hh, hn, hc, hs, ht⟩
  · cases h0
  · cases h0
    refine ⟨hg, (Array.getElem?_eq_some_iff.1 hh).1, hn, hc, ?_, cur, hh, by simpa using hs⟩
    intro i hi
    have := h'.cells (g := g) rfl i (.int .i64 (at0 ts i)) (by unfold intC at0; rw [List.getElem?_map, List.getElem?_eq_getElem hi]; rfl)
    cases i with
    | zero => simpa [Addr.add] using this
    | succ i => simpa [Addr.add] using this
theorem Row.new (w : World) : Row (w.alloc (.cells #[] 2)) w.heap.size w.heap.size 0 [] :=
  ⟨rfl, .inr ⟨w.heap.size, 0, #[], rfl, Nat.le_refl _, (MapKept.heap_alloc w _).1, Nat.le_refl _, Nat.zero_le _, rfl, rfl⟩⟩
theorem Row.keep {w w' : World} {B g cap : Nat} {ts : List Int} (h : Row w B g cap ts) (hb : Below w.heap.size w w') : Row w' B g cap ts :=
  World.ownsRow.kept h (row := none) ⟨hb.os, hb.tape, hb.output, hb.size, fun k hk _ => hb.block k hk⟩ (.inr (by simp [Value.ownBlock]))
theorem Row.alloc {w : World} {B g cap : Nat} {ts : List Int} (h : Row w B g cap ts) (o : Obj) : Row (w.alloc o) B g cap ts := h.keep (bA (bR _) _)
theorem Row.other {w : World} {B g cap : Nat} {ts : List Int} (h : Row w B g cap ts) {a : Addr} (ha : a.block ≠ g) (u : Value) : Row (w.setCell a u) B g cap ts :=
  ownsRow_setCell_other h (by simp [Value.ownBlock]; exact Ne.symm ha) u
theorem Row.low {w : World} {B B' g cap : Nat} {ts : List Int} (h : Row w B g cap ts) (hB : B' ≤ B) : Row w B' g cap ts := by
  refine ⟨h.1, ?_⟩
  rcases h.2 with h0 | ⟨g', cap', cur, h0, hg, r⟩
  · exact .inl h0
  · exact .inr ⟨g', cap', cur, h0, Nat.le_trans hB hg, r⟩
/-- What an append leaves. -/
theorem Row.grown {w' : World} {B : Nat} {ts : List Int} {t : Int} {v' : Value} (hown : w'.ownsRow B 2 1 v' (ts.length + 1) (intC ts ++ [.int .i64 t])) : ∃ g' cap', v' = .slice (some ⟨g', 0, none⟩) (ts.length + 1) cap' ∧ Row w' B g' cap' (ts ++ [t]) := by
  rcases hown.2 with ⟨h0, h1⟩ | ⟨g', cap', cur, h0, r⟩
  · omega
  · subst h0
    refine ⟨g', cap', rfl, ?_⟩
    have e : intC (ts ++ [t]) = intC ts ++ [.int .i64 t] := by simp [intC]
    unfold Row
    rw [e, List.length_append]; exact hown
theorem bGrown {w wr w' : World} {o : Obj} {g : Nat} (hb : Below w.heap.size w wr) (hg : (wr.alloc o).grownBy w' (some g)) (hge : w.heap.size ≤ g) : Below w.heap.size w w' :=
  (hb.alloc hb.size o).grown hg (by have := hb.size; simp; omega) (fun x e => by have := Option.some.inj e; omega)
end Go.Proofs.YtpbepibklipfpaaDoor

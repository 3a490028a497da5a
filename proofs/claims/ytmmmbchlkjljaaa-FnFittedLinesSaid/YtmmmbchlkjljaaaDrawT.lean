/-
  A train that is drawn: the contracts of spec.l05Draw and spec.A2Train.
-/
import Derived.Test.YtmmmbchlkjljaaaTrI
import Derived.Test.YtmmmbchlkjljaaaDraw2
namespace Go.Proofs.Ytmmmbchlkjljaaa
open Go.RowKit

theorem own_grown {W W' : World} {B : Nat} {t : TypeId} {sz n p : Nat} {v : Value} {xs : List Value} (h : W.ownsRow B t sz v n xs) (g : W.grownBy W' (some p)) (hp : p < B) : W'.ownsRow B t sz v n xs := by
  refine ⟨h.1, ?_⟩
  rcases h.2 with h0 | ⟨g', cap, cur, h0, hB, hh, r⟩
  · exact .inl h0
  · exact .inr ⟨g', cap, cur, h0, hB, (g.block g' (Array.getElem?_eq_some_iff.1 hh).1 (fun e => by cases e; omega)).trans hh, r⟩
theorem SrcAt.grown {W W' : World} {p : Nat} {a : Option Addr} {len cap c : Nat} {row : Option Nat} (h : SrcAt W p a len cap c) (g : W.grownBy W' row) (hp : row ≠ some p) (hx : 0 < len → ∀ xb xo, a = some ⟨xb, xo, none⟩ → row ≠ some xb) : SrcAt W' p a len cap c := by
  have hb : W'.heap[p]? = W.heap[p]? := g.block p h.lt (Ne.symm hp)
  obtain ⟨n, hn, e1⟩ := h.c1
  obtain ⟨s, e2⟩ := h.c2
  refine ⟨(World.cell?_of_block hb).trans h.c0, ⟨n, hn, (World.cell?_of_block hb).trans e1⟩, ⟨s, (World.cell?_of_block hb).trans e2⟩, (World.frozen?_of_block hb).trans h.f1, (World.frozen?_of_block hb).trans h.f2, Nat.lt_of_lt_of_le h.lt g.size, ?_, h.len0⟩
  intro i hi
  obtain ⟨xb, xo, z, hx', hxp, hcz, z0, z1⟩ := h.row i hi
  have hlt : xb < W.heap.size := by
    by_cases hb' : xb < W.heap.size
    · exact hb'
    · exfalso
      have : W.heap[xb]? = none := by simp; omega
      simp [World.cell?, this] at hcz
  exact ⟨xb, xo, z, hx', hxp, (World.cell?_of_block (g.block xb hlt (Ne.symm (hx (by omega) xb xo hx')))).trans hcz, z0, z1⟩
theorem gGrown {w W W' : World} {p : Nat} {row : Option Nat} (h : w.grownBy W (some p)) (g : W.grownBy W' row) (hr : ∀ r, row = some r → w.heap.size ≤ r) : w.grownBy W' (some p) :=
  ⟨g.os.trans h.os, g.tape.trans h.tape, g.output.trans h.output, Nat.le_trans h.size g.size, fun k hk hn => (g.block k (Nat.lt_of_lt_of_le hk h.size) (fun e => by have := hr k e.symm; omega)).trans (h.block k hk hn)⟩
theorem rowPair_new (w : World) (t : TypeId) : (w.alloc (.cells #[] t)).ownsRow w.heap.size t 2 (.slice (some ⟨w.heap.size, 0, none⟩) 0 0) 0 [] :=
  ⟨rfl, .inr ⟨w.heap.size, 0, #[], rfl, Nat.le_refl _, (MapKept.heap_alloc w _).1, Nat.le_refl _, Nat.zero_le _, rfl, rfl⟩⟩
theorem src2 {W : World} {b : Nat} {x y : Value} (c0 : W.cell? ⟨b, 0, none⟩ = some x) (c1 : W.cell? ⟨b, 1, none⟩ = some y) : ∀ (j : Nat) (u : Value), [x, y][j]? = some u → W.cell? ((⟨b, 0, none⟩ : Addr).add j) = some u := by
  intro j u hj
  match j, hj with
  | 0, hj => simp at hj; subst hj; simpa [Addr.add] using c0
  | 1, hj => simp at hj; subst hj; simpa [Addr.add] using c1
  | (j + 2), hj => simp at hj
theorem two_new (W : World) (n : Nat) (x y : Value) (t : TypeId) (h : W.heap.size = n) : ∀ (j : Nat) (u : Value), [x, y][j]? = some u → (W.alloc (.cells #[x, y] t)).cell? ((⟨n, 0, none⟩ : Addr).add j) = some u := by
  subst h
  exact src2 (by simp [go_sem]) (by simp [go_sem])
/-- What A2Train hands out. -/
def TrainPost (w : World) (e : Ending) (w' : World) : Prop :=
  ∃ (ps : List (Int × Int)) (v : Value), e = .returned v ∧ ps.length ≤ 4 ∧ okT ps = true ∧ SlP w' v ps ∧ Below w.heap.size w w'
theorem gNew {w w1 w2 : World} {p : Nat} (hb : Below w.heap.size w w1) (g : w1.grownBy w2 (some p)) (hp : w.heap.size ≤ p) : Below w.heap.size w w2 :=
  ⟨g.os.trans hb.os, g.tape.trans hb.tape, g.output.trans hb.output, Nat.le_trans hb.size g.size, fun k hk => (g.block k (Nat.lt_of_lt_of_le hk hb.size) (fun e => by cases e; omega)).trans (hb.block k hk)⟩
end Go.Proofs.Ytmmmbchlkjljaaa

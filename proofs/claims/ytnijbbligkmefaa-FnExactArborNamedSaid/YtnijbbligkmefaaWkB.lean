/-
  Works of arbors and meshes: how they lie and how they are read.
-/
import Derived.Test.YtnijbbligkmefaaWkM
import Derived.Test.YtnijbbligkmefaaTo64

namespace Go.Proofs.Ytnijbbligkmefaa
open Go.RowKit

/-- A box of two values. -/
structure BoxU (w : World) (b : Nat) (u v : Value) : Prop where
  c0 : w.cell? ⟨b, 0, none⟩ = some u
  c1 : w.cell? ⟨b, 1, none⟩ = some v
  f0 : w.frozen? ⟨b, 0, none⟩ = false
  f1 : w.frozen? ⟨b, 1, none⟩ = false
  lt : b < w.heap.size
theorem BoxU.new (w : World) (u v : Value) (T : TypeId) : BoxU (w.alloc (.cells #[u, v] T)) w.heap.size u v :=
  ⟨by simp [go_sem], by simp [go_sem], by simp [go_sem], by simp [go_sem], by simp⟩
theorem BoxU.keep {w w' : World} {b : Nat} {u v : Value} (h : BoxU w b u v) (hb : Below w.heap.size w w') : BoxU w' b u v :=
  ⟨(hb.cell (p := ⟨b, 0, none⟩) h.lt).trans h.c0, (hb.cell (p := ⟨b, 1, none⟩) h.lt).trans h.c1, (hb.frozen (p := ⟨b, 0, none⟩) h.lt).trans h.f0, (hb.frozen (p := ⟨b, 1, none⟩) h.lt).trans h.f1, Nat.lt_of_lt_of_le h.lt hb.size⟩
theorem BoxU.alloc {w : World} {b : Nat} {u v : Value} (h : BoxU w b u v) (o : Obj) : BoxU (w.alloc o) b u v := h.keep (bA (bR _) _)
theorem BoxU.at_ {w : World} {b : Nat} {u v : Value} {T : TypeId} (h : b = w.heap.size) : BoxU (w.alloc (.cells #[u, v] T)) b u v := by subst h; exact BoxU.new _ _ _ _
theorem BoxU.other {w : World} {b b' o : Nat} {u v x : Value} (h : BoxU w b u v) (hn : b ≠ b') : BoxU (w.setCell ⟨b', o, none⟩ x) b u v :=
  ⟨(World.cell?_of_block (Below.heap_setCell _ _ _ _ hn)).trans h.c0, (World.cell?_of_block (Below.heap_setCell _ _ _ _ hn)).trans h.c1, (World.frozen?_of_block (Below.heap_setCell _ _ _ _ hn)).trans h.f0, (World.frozen?_of_block (Below.heap_setCell _ _ _ _ hn)).trans h.f1, by simpa [World.setCell] using h.lt⟩
theorem BoxU.set0 {w : World} {b : Nat} {u v : Value} (h : BoxU w b u v) (x : Value) : BoxU (w.setCell ⟨b, 0, none⟩ x) b x v := by
  have a0 := h.c0
  have a1 := h.c1
  have e0 := h.f0
  have e1 := h.f1
  exact ⟨by simp [go_sem, a0], by simp [go_sem, a1], by simp [go_sem, e0], by simp [go_sem, e1], by simpa [World.setCell] using h.lt⟩
theorem BoxU.set1 {w : World} {b : Nat} {u v : Value} (h : BoxU w b u v) (x : Value) : BoxU (w.setCell ⟨b, 1, none⟩ x) b u x := by
  have a0 := h.c0
  have a1 := h.c1
  have e0 := h.f0
  have e1 := h.f1
  exact ⟨by simp [go_sem, a0], by simp [go_sem, a1], by simp [go_sem, e0], by simp [go_sem, e1], by simpa [World.setCell] using h.lt⟩
/-- The arbors lie in block g; the meshes lie in block g. -/
def ArbsAt (W : World) (g : Nat) (rs : List Arb) : Prop := ∀ i, i < rs.length → W.cell? ⟨g, i * 2, none⟩ = some (.string (arAt rs i).1) ∧ (arAt rs i).1.size ≤ maxLen ∧ (arAt rs i).2.length ≤ 1048576 ∧ ∃ u, W.cell? ⟨g, i * 2 + 1, none⟩ = some u ∧ Sl64 W u (arAt rs i).2
def MshsAt (W : World) (g : Nat) (ms : List Msh) : Prop := ∀ i, i < ms.length → W.cell? ⟨g, i * 4, none⟩ = some (.int .i64 (msAt ms i).1) ∧ W.cell? ⟨g, i * 4 + 1, none⟩ = some (.int .i64 (msAt ms i).2.1) ∧ W.cell? ⟨g, i * 4 + 2, none⟩ = some (.int .i64 (msAt ms i).2.2.1) ∧ W.cell? ⟨g, i * 4 + 3, none⟩ = some (.int .i64 (msAt ms i).2.2.2)
theorem ArbsAt.keep {W W' : World} {g : Nat} {rs : List Arb} (h : ArbsAt W g rs) (hg : g < W.heap.size) (hb : Below W.heap.size W W') : ArbsAt W' g rs := fun i hi => by
  obtain ⟨h1, h2, h3, u, h4, h5⟩ := h i hi
  exact ⟨(hb.cell (p := ⟨g, i * 2, none⟩) hg).trans h1, h2, h3, u, (hb.cell (p := ⟨g, i * 2 + 1, none⟩) hg).trans h4, h5.keep hb⟩
theorem MshsAt.keep {W W' : World} {g : Nat} {ms : List Msh} (h : MshsAt W g ms) (hg : g < W.heap.size) (hb : Below W.heap.size W W') : MshsAt W' g ms := fun i hi => by
  obtain ⟨h1, h2, h3, h4⟩ := h i hi
  exact ⟨(hb.cell (p := ⟨g, i * 4, none⟩) hg).trans h1, (hb.cell (p := ⟨g, i * 4 + 1, none⟩) hg).trans h2, (hb.cell (p := ⟨g, i * 4 + 2, none⟩) hg).trans h3, (hb.cell (p := ⟨g, i * 4 + 3, none⟩) hg).trans h4⟩
/-- A slice reads as a list of arbors; of meshes. -/
def SlA (W : World) (v : Value) (rs : List Arb) : Prop := rs.length ≤ 1048576 ∧ ∃ ao cap, v = .slice ao rs.length cap ∧ (rs.length ≤ cap ∧ cap ≤ maxLen) ∧ (1 ≤ rs.length → ∃ g, ao = some ⟨g, 0, none⟩ ∧ g < W.heap.size ∧ ArbsAt W g rs)
def SlM (W : World) (v : Value) (ms : List Msh) : Prop := ms.length ≤ 1048576 ∧ ∃ ao cap, v = .slice ao ms.length cap ∧ (ms.length ≤ cap ∧ cap ≤ maxLen) ∧ (1 ≤ ms.length → ∃ g, ao = some ⟨g, 0, none⟩ ∧ g < W.heap.size ∧ MshsAt W g ms)
theorem SlA.keep {W W' : World} {v : Value} {rs : List Arb} (h : SlA W v rs) (hb : Below W.heap.size W W') : SlA W' v rs := by
  obtain ⟨h0, ao, cap, e, hc, h1⟩ := h
  refine ⟨h0, ao, cap, e, hc, fun hl => ?_⟩
  obtain ⟨g, eg, hg, hc⟩ := h1 hl
  exact ⟨g, eg, Nat.lt_of_lt_of_le hg hb.size, hc.keep hg hb⟩
theorem SlM.keep {W W' : World} {v : Value} {ms : List Msh} (h : SlM W v ms) (hb : Below W.heap.size W W') : SlM W' v ms := by
  obtain ⟨h0, ao, cap, e, hc, h1⟩ := h
  refine ⟨h0, ao, cap, e, hc, fun hl => ?_⟩
  obtain ⟨g, eg, hg, hc⟩ := h1 hl
  exact ⟨g, eg, Nat.lt_of_lt_of_le hg hb.size, hc.keep hg hb⟩
/-- The first k of them. -/
theorem SlA.take {W : World} {ao : Option Addr} {n cap : Nat} {rs : List Arb} (h : SlA W (.slice ao n cap) rs) {k : Nat} (hk : k ≤ rs.length) : SlA W (.slice ao k cap) (rs.take k) := by
  obtain ⟨h0, ao', cap', e, ⟨hc1, hc2⟩, h1⟩ := h
  injection e with e1 e2 e3
  subst e1 e3
  have hl : (rs.take k).length = k := by simp; omega
  refine ⟨by omega, ao, cap, by rw [hl], by omega, fun h2 => ?_⟩
  obtain ⟨g, eg, hg, hc⟩ := h1 (by omega)
  refine ⟨g, eg, hg, fun i hi => ?_⟩
  rw [arAt_take (by omega)]
  exact hc i (by omega)
theorem SlM.take {W : World} {ao : Option Addr} {n cap : Nat} {ms : List Msh} (h : SlM W (.slice ao n cap) ms) {k : Nat} (hk : k ≤ ms.length) : SlM W (.slice ao k cap) (ms.take k) := by
  obtain ⟨h0, ao', cap', e, ⟨hc1, hc2⟩, h1⟩ := h
  injection e with e1 e2 e3
  subst e1 e3
  have hl : (ms.take k).length = k := by simp; omega
  refine ⟨by omega, ao, cap, by rw [hl], by omega, fun h2 => ?_⟩
  obtain ⟨g, eg, hg, hc⟩ := h1 (by omega)
  refine ⟨g, eg, hg, fun i hi => ?_⟩
  rw [msAt_take (by omega)]
  exact hc i (by omega)
/-- A slice of numbers, of arbors, of meshes in blocks from B on. -/
def SlF (B : Nat) (W : World) (v : Value) (ts : List Int) : Prop := ∃ ao cap, v = .slice ao ts.length cap ∧ (1 ≤ ts.length → ∃ b, ao = some ⟨b, 0, none⟩ ∧ B ≤ b ∧ b < W.heap.size ∧ IntsAt W b ts)
theorem SlF.sl {B : Nat} {W : World} {v : Value} {ts : List Int} (h : SlF B W v ts) : Sl64 W v ts := by
  obtain ⟨ao, cap, e, h⟩ := h
  refine ⟨ao, cap, e, fun h1 => ?_⟩
  obtain ⟨b, e1, _, e3, e4⟩ := h h1
  exact ⟨b, e1, e3, e4⟩
theorem SlF.keep {B : Nat} {W W' : World} {v : Value} {ts : List Int} (h : SlF B W v ts) (hb : Below W.heap.size W W') : SlF B W' v ts := by
  obtain ⟨ao, cap, e, h⟩ := h
  refine ⟨ao, cap, e, fun h1 => ?_⟩
  obtain ⟨b, e1, e2, e3, e4⟩ := h h1
  exact ⟨b, e1, e2, Nat.lt_of_lt_of_le e3 hb.size, e4.keep e3 hb⟩
theorem SlF.other {B b o : Nat} {W : World} {v x : Value} {ts : List Int} (h : SlF B W v ts) (hb : b < B) : SlF B (W.setCell ⟨b, o, none⟩ x) v ts := by
  obtain ⟨ao, cap, e, h⟩ := h
  refine ⟨ao, cap, e, fun h1 => ?_⟩
  obtain ⟨k, e1, e2, e3, e4⟩ := h h1
  exact ⟨k, e1, e2, by simpa [World.setCell] using e3, fun i hi => (World.cell?_of_block (Below.heap_setCell _ _ _ _ (show k ≠ b by omega))).trans (e4 i hi)⟩
theorem SlF.low {B B' : Nat} {W : World} {v : Value} {ts : List Int} (h : SlF B W v ts) (hB : B' ≤ B) : SlF B' W v ts := by
  obtain ⟨ao, cap, e, h⟩ := h
  refine ⟨ao, cap, e, fun h1 => ?_⟩
  obtain ⟨k, e1, e2, e3, e4⟩ := h h1
  exact ⟨k, e1, by omega, e3, e4⟩
theorem slF_row {B g cap : Nat} {W : World} {ts : List Int} (h : Row W g g cap ts) (hB : B ≤ g) : SlF B W (.slice (some ⟨g, 0, none⟩) ts.length cap) ts := by
  obtain ⟨_, p2, _, _, p5, _⟩ := h.parts
  exact ⟨_, cap, rfl, fun _ => ⟨g, rfl, hB, p2, p5⟩⟩
def SlAB (B : Nat) (W : World) (v : Value) (rs : List Arb) : Prop := rs.length ≤ 1048576 ∧ ∃ ao cap, v = .slice ao rs.length cap ∧ (rs.length ≤ cap ∧ cap ≤ maxLen) ∧ (1 ≤ rs.length → ∃ g, ao = some ⟨g, 0, none⟩ ∧ B ≤ g ∧ g < W.heap.size ∧
  ∀ i, i < rs.length → W.cell? ⟨g, i * 2, none⟩ = some (.string (arAt rs i).1) ∧ (arAt rs i).1.size ≤ maxLen ∧ (arAt rs i).2.length ≤ 1048576 ∧ ∃ u, W.cell? ⟨g, i * 2 + 1, none⟩ = some u ∧ SlF B W u (arAt rs i).2)
def SlMB (B : Nat) (W : World) (v : Value) (ms : List Msh) : Prop := ms.length ≤ 1048576 ∧ ∃ ao cap, v = .slice ao ms.length cap ∧ (ms.length ≤ cap ∧ cap ≤ maxLen) ∧ (1 ≤ ms.length → ∃ g, ao = some ⟨g, 0, none⟩ ∧ B ≤ g ∧ g < W.heap.size ∧ MshsAt W g ms)
theorem SlAB.sl {B : Nat} {W : World} {v : Value} {rs : List Arb} (h : SlAB B W v rs) : SlA W v rs := by
  obtain ⟨h0, ao, cap, e, hc, h1⟩ := h
  refine ⟨h0, ao, cap, e, hc, fun hl => ?_⟩
  obtain ⟨g, eg, _, hg, hc⟩ := h1 hl
  refine ⟨g, eg, hg, fun i hi => ?_⟩
  obtain ⟨a1, a2, a3, u, a4, a5⟩ := hc i hi
  exact ⟨a1, a2, a3, u, a4, a5.sl⟩
theorem SlMB.sl {B : Nat} {W : World} {v : Value} {ms : List Msh} (h : SlMB B W v ms) : SlM W v ms := by
  obtain ⟨h0, ao, cap, e, hc, h1⟩ := h
  refine ⟨h0, ao, cap, e, hc, fun hl => ?_⟩
  obtain ⟨g, eg, _, hg, hc⟩ := h1 hl
  exact ⟨g, eg, hg, hc⟩
theorem SlAB.keep {B : Nat} {W W' : World} {v : Value} {rs : List Arb} (h : SlAB B W v rs) (hb : Below W.heap.size W W') : SlAB B W' v rs := by
  obtain ⟨h0, ao, cap, e, hc, h1⟩ := h
  refine ⟨h0, ao, cap, e, hc, fun hl => ?_⟩
  obtain ⟨g, eg, hB, hg, hc⟩ := h1 hl
  refine ⟨g, eg, hB, Nat.lt_of_lt_of_le hg hb.size, fun i hi => ?_⟩
  obtain ⟨a1, a2, a3, u, a4, a5⟩ := hc i hi
  exact ⟨(hb.cell (p := ⟨g, i * 2, none⟩) hg).trans a1, a2, a3, u, (hb.cell (p := ⟨g, i * 2 + 1, none⟩) hg).trans a4, a5.keep hb⟩
theorem SlMB.keep {B : Nat} {W W' : World} {v : Value} {ms : List Msh} (h : SlMB B W v ms) (hb : Below W.heap.size W W') : SlMB B W' v ms := by
  obtain ⟨h0, ao, cap, e, hc, h1⟩ := h
  refine ⟨h0, ao, cap, e, hc, fun hl => ?_⟩
  obtain ⟨g, eg, hB, hg, hc⟩ := h1 hl
  exact ⟨g, eg, hB, Nat.lt_of_lt_of_le hg hb.size, hc.keep hg hb⟩
theorem SlAB.other {B b o : Nat} {W : World} {v x : Value} {rs : List Arb} (h : SlAB B W v rs) (hb : b < B) : SlAB B (W.setCell ⟨b, o, none⟩ x) v rs := by
  obtain ⟨h0, ao, cap, e, hc, h1⟩ := h
  refine ⟨h0, ao, cap, e, hc, fun hl => ?_⟩
  obtain ⟨g, eg, hB, hg, hc⟩ := h1 hl
  refine ⟨g, eg, hB, by simpa [World.setCell] using hg, fun i hi => ?_⟩
  obtain ⟨a1, a2, a3, u, a4, a5⟩ := hc i hi
  exact ⟨(World.cell?_of_block (Below.heap_setCell _ _ _ _ (show g ≠ b by omega))).trans a1, a2, a3, u, (World.cell?_of_block (Below.heap_setCell _ _ _ _ (show g ≠ b by omega))).trans a4, a5.other hb⟩
theorem SlMB.other {B b o : Nat} {W : World} {v x : Value} {ms : List Msh} (h : SlMB B W v ms) (hb : b < B) : SlMB B (W.setCell ⟨b, o, none⟩ x) v ms := by
  obtain ⟨h0, ao, cap, e, hc, h1⟩ := h
  refine ⟨h0, ao, cap, e, hc, fun hl => ?_⟩
  obtain ⟨g, eg, hB, hg, hc⟩ := h1 hl
  have E : ∀ o', (W.setCell ⟨b, o, none⟩ x).cell? ⟨g, o', none⟩ = W.cell? ⟨g, o', none⟩ := fun o' => World.cell?_of_block (Below.heap_setCell _ _ _ _ (show g ≠ b by omega))
  refine ⟨g, eg, hB, by simpa [World.setCell] using hg, fun i hi => ?_⟩
  obtain ⟨a1, a2, a3, a4⟩ := hc i hi
  exact ⟨(E _).trans a1, (E _).trans a2, (E _).trans a3, (E _).trans a4⟩
theorem SlAB.low {B B' : Nat} {W : World} {v : Value} {rs : List Arb} (h : SlAB B W v rs) (hB : B' ≤ B) : SlAB B' W v rs := by
  obtain ⟨h0, ao, cap, e, hc, h1⟩ := h
  refine ⟨h0, ao, cap, e, hc, fun hl => ?_⟩
  obtain ⟨g, eg, hg0, hg, hc⟩ := h1 hl
  refine ⟨g, eg, by omega, hg, fun i hi => ?_⟩
  obtain ⟨a1, a2, a3, u, a4, a5⟩ := hc i hi
  exact ⟨a1, a2, a3, u, a4, a5.low hB⟩
theorem SlMB.low {B B' : Nat} {W : World} {v : Value} {ms : List Msh} (h : SlMB B W v ms) (hB : B' ≤ B) : SlMB B' W v ms := by
  obtain ⟨h0, ao, cap, e, hc, h1⟩ := h
  refine ⟨h0, ao, cap, e, hc, fun hl => ?_⟩
  obtain ⟨g, eg, hg0, hg, hc⟩ := h1 hl
  exact ⟨g, eg, by omega, hg, hc⟩
/-- Arguments: a slice of numbers, of arbors, of meshes that came in. -/
def ArgI (W : World) (v : Value) (ts : List Int) : Prop := ∃ a len cap zs, v = .slice a len cap ∧ IsRow .i64 W a len cap zs ∧ ts = zs.take len
theorem ArgI.keep {W W' : World} {v : Value} {ts : List Int} (h : ArgI W v ts) (hb : Below W.heap.size W W') : ArgI W' v ts := by
  obtain ⟨a, len, cap, zs, e, h1, h2⟩ := h
  exact ⟨a, len, cap, zs, e, h1.keep hb, h2⟩
theorem ArgI.len {W : World} {a : Option Addr} {len cap : Nat} {ts : List Int} (h : ArgI W (.slice a len cap) ts) : ts.length = len ∧ len ≤ cap ∧ cap ≤ maxLen := by
  obtain ⟨a', len', cap', zs, e, h1, h2⟩ := h
  injection e with e1 e2 e3
  subst e1 e2 e3 h2
  obtain ⟨⟨k1, k2⟩, k3, _⟩ := row64_of h1
  exact ⟨k3, k1, k2⟩
def IsAr (W : World) (a : Option Addr) (len cap : Nat) (rs : List Arb) : Prop := (len ≤ cap ∧ cap ≤ maxLen) ∧ rs.length = len ∧
  ∀ i, i < len → ∃ xb xo u, a = some ⟨xb, xo, none⟩ ∧ xb < W.heap.size ∧ W.cell? ⟨xb, xo + i * 2, none⟩ = some (.string (arAt rs i).1) ∧ W.cell? ⟨xb, xo + i * 2 + 1, none⟩ = some u ∧ (arAt rs i).1.size ≤ maxLen ∧ ArgI W u (arAt rs i).2
def IsMr (W : World) (a : Option Addr) (len cap : Nat) (ms : List Msh) : Prop := (len ≤ cap ∧ cap ≤ maxLen) ∧ ms.length = len ∧
  ∀ i, i < len → ∃ xb xo, a = some ⟨xb, xo, none⟩ ∧ xb < W.heap.size ∧ W.cell? ⟨xb, xo + i * 4, none⟩ = some (.int .i64 (msAt ms i).1) ∧ W.cell? ⟨xb, xo + i * 4 + 1, none⟩ = some (.int .i64 (msAt ms i).2.1) ∧ W.cell? ⟨xb, xo + i * 4 + 2, none⟩ = some (.int .i64 (msAt ms i).2.2.1) ∧ W.cell? ⟨xb, xo + i * 4 + 3, none⟩ = some (.int .i64 (msAt ms i).2.2.2)
theorem IsAr.keep {W W' : World} {a : Option Addr} {len cap : Nat} {rs : List Arb} (h : IsAr W a len cap rs) (hb : Below W.heap.size W W') : IsAr W' a len cap rs := by
  obtain ⟨h1, h2, h3⟩ := h
  refine ⟨h1, h2, fun i hi => ?_⟩
  obtain ⟨xb, xo, u, e, hx, c1, c2, c3, c4⟩ := h3 i hi
  exact ⟨xb, xo, u, e, Nat.lt_of_lt_of_le hx hb.size, (hb.cell (p := ⟨xb, xo + i * 2, none⟩) hx).trans c1, (hb.cell (p := ⟨xb, xo + i * 2 + 1, none⟩) hx).trans c2, c3, c4.keep hb⟩
theorem IsMr.keep {W W' : World} {a : Option Addr} {len cap : Nat} {ms : List Msh} (h : IsMr W a len cap ms) (hb : Below W.heap.size W W') : IsMr W' a len cap ms := by
  obtain ⟨h1, h2, h3⟩ := h
  refine ⟨h1, h2, fun i hi => ?_⟩
  obtain ⟨xb, xo, e, hx, c1, c2, c3, c4⟩ := h3 i hi
  exact ⟨xb, xo, e, Nat.lt_of_lt_of_le hx hb.size, (hb.cell (p := ⟨xb, xo + i * 4, none⟩) hx).trans c1, (hb.cell (p := ⟨xb, xo + i * 4 + 1, none⟩) hx).trans c2, (hb.cell (p := ⟨xb, xo + i * 4 + 2, none⟩) hx).trans c3, (hb.cell (p := ⟨xb, xo + i * 4 + 3, none⟩) hx).trans c4⟩
end Go.Proofs.Ytnijbbligkmefaa

/-
  Lists whose elements have three cells; months, rules and calendars as they lie.
-/
import Derived.Test.YtpbepibklipfpaaDoorCaM
namespace Go.Proofs.YtpbepibklipfpaaDoor
open Go.RowKit

abbrev Tri := Value × Value × Value
def trAt (xs : List Tri) (i : Nat) : Tri := xs[i]?.getD (.bool false, .bool false, .bool false)
def trC (xs : List Tri) : List Value := xs.flatMap fun s => [s.1, s.2.1, s.2.2]
theorem trC_cons (s : Tri) (xs : List Tri) : trC (s :: xs) = s.1 :: s.2.1 :: s.2.2 :: trC xs := by simp [trC]
theorem trC_snoc (xs : List Tri) (s : Tri) : trC (xs ++ [s]) = trC xs ++ [s.1, s.2.1, s.2.2] := by simp [trC]
theorem trC_len : ∀ xs : List Tri, (trC xs).length = xs.length * 3
  | [] => rfl
  | s :: xs => by rw [trC_cons]; simp only [List.length_cons, trC_len xs]; omega
/-- The cells of the i-th element in a list of cells. -/
def trI (vs : List Value) (i : Nat) (s : Tri) : Prop := vs[i * 3]? = some s.1 ∧ vs[i * 3 + 1]? = some s.2.1 ∧ vs[i * 3 + 2]? = some s.2.2
theorem trC_at : ∀ (xs : List Tri) (i : Nat), i < xs.length → trI (trC xs) i (trAt xs i)
  | s :: xs, 0, _ => by rw [trC_cons]; exact ⟨rfl, rfl, rfl⟩
  | s :: xs, i + 1, h => by
    have ih := trC_at xs i (by simpa using h)
    unfold trI at ih ⊢
    rw [trC_cons]
    have e : (i + 1) * 3 = i * 3 + 1 + 1 + 1 := by omega
    rw [e]
    exact ih
theorem trC_ext {vs : List Value} {xs : List Tri} (hl : vs.length = xs.length * 3) (h : ∀ i, i < xs.length → trI vs i (trAt xs i)) : vs = trC xs := by
  apply List.ext_getElem?
  intro j
  by_cases hj : j < xs.length * 3
  · obtain ⟨a0, a1, a2⟩ := h (j / 3) (by omega)
    obtain ⟨b0, b1, b2⟩ := trC_at xs (j / 3) (by omega)
    have : j = j / 3 * 3 ∨ j = j / 3 * 3 + 1 ∨ j = j / 3 * 3 + 2 := by omega
    rcases this with e | e | e
    · rw [e, a0, b0]
    · rw [e, a1, b1]
    · rw [e, a2, b2]
  · rw [List.getElem?_eq_none (by omega), List.getElem?_eq_none (by rw [trC_len]; omega)]
/-- The elements lie in block g, from place o on. -/
def TrisAt (W : World) (g o : Nat) (xs : List Tri) : Prop := ∀ i, i < xs.length → W.cell? ⟨g, o + i * 3, none⟩ = some (trAt xs i).1 ∧ W.cell? ⟨g, o + i * 3 + 1, none⟩ = some (trAt xs i).2.1 ∧ W.cell? ⟨g, o + i * 3 + 2, none⟩ = some (trAt xs i).2.2
theorem TrisAt.keep {W W' : World} {g o : Nat} {xs : List Tri} (h : TrisAt W g o xs) (hg : g < W.heap.size) (hb : Below W.heap.size W W') : TrisAt W' g o xs := fun i hi => by
  obtain ⟨h1, h2, h3⟩ := h i hi
  exact ⟨(hb.cell (p := ⟨g, o + i * 3, none⟩) hg).trans h1, (hb.cell (p := ⟨g, o + i * 3 + 1, none⟩) hg).trans h2, (hb.cell (p := ⟨g, o + i * 3 + 2, none⟩) hg).trans h3⟩
/-- A slice reads as a list of such elements. -/
def SlT (W : World) (v : Value) (xs : List Tri) : Prop := ∃ ao cap, v = .slice ao xs.length cap ∧ (xs.length ≤ cap ∧ cap ≤ maxLen) ∧ (1 ≤ xs.length → ∃ g o, ao = some ⟨g, o, none⟩ ∧ g < W.heap.size ∧ TrisAt W g o xs)
theorem SlT.keep {W W' : World} {v : Value} {xs : List Tri} (h : SlT W v xs) (hb : Below W.heap.size W W') : SlT W' v xs := by
  obtain ⟨ao, cap, e, hc, h1⟩ := h
  refine ⟨ao, cap, e, hc, fun hl => ?_⟩
  obtain ⟨g, o, eg, hg, hc⟩ := h1 hl
  exact ⟨g, o, eg, Nat.lt_of_lt_of_le hg hb.size, hc.keep hg hb⟩
theorem slT_of {W : World} {B : Nat} {t : TypeId} {v : Value} {xs : List Tri} (h : W.ownsRow B t 3 v xs.length (trC xs)) : SlT W v xs := by
  rcases h.2 with ⟨rfl, h0⟩ | ⟨g, cap, cur, rfl, hB, hh, h4, h5, r⟩
  · exact ⟨none, 0, by rw [h0], ⟨by omega, by unfold maxLen; omega⟩, fun h1 => by omega⟩
  · refine ⟨_, cap, rfl, ⟨h4, h5⟩, fun _ => ⟨g, 0, rfl, (Array.getElem?_eq_some_iff.1 hh).1, fun i hi => ?_⟩⟩
    obtain ⟨a, b, c⟩ := trC_at xs i hi
    rw [Nat.zero_add]
    exact ⟨(h.cellAt (i * 3) (by omega)).trans a, (h.cellAt (i * 3 + 1) (by omega)).trans b, (h.cellAt (i * 3 + 2) (by omega)).trans c⟩
theorem SlT.take {W : World} {ao : Option Addr} {n cap : Nat} {xs : List Tri} (h : SlT W (.slice ao n cap) xs) {k : Nat} (hk : k ≤ xs.length) : SlT W (.slice ao k cap) (xs.take k) := by
  obtain ⟨ao', cap', e, ⟨hc1, hc2⟩, h1⟩ := h
  injection e with e1 e2 e3
  subst e1 e3
  have hl : (xs.take k).length = k := by simp; omega
  refine ⟨ao, cap, by rw [hl], by omega, fun h2 => ?_⟩
  obtain ⟨g, o, eg, hg, hc⟩ := h1 (by omega)
  refine ⟨g, o, eg, hg, fun i hi => ?_⟩
  have : trAt (xs.take k) i = trAt xs i := by unfold trAt; rw [List.getElem?_take, if_pos (by omega)]
  rw [this]
  exact hc i (by omega)
def moT (m : Mo) : Tri := (.string m.nm, .int .i64 m.d, .int .i64 m.l)
def ruT (r : Ru) : Tri := (.int .i64 r.e, .int .i64 r.r, .bool r.b)
theorem moT_at {ms : List Mo} {i : Nat} (h : i < ms.length) : trAt (ms.map moT) i = moT (moAt ms i) := by unfold trAt moAt; rw [List.getElem?_map, List.getElem?_eq_getElem h]; rfl
theorem ruT_at {rs : List Ru} {i : Nat} (h : i < rs.length) : trAt (rs.map ruT) i = ruT (ruAt rs i) := by unfold trAt ruAt; rw [List.getElem?_map, List.getElem?_eq_getElem h]; rfl
/-- A slice reads as months; as rules. -/
def SlMo (W : World) (v : Value) (ms : List Mo) : Prop := SlT W v (ms.map moT) ∧ ∀ i, i < ms.length → (moAt ms i).nm.size ≤ maxLen
def SlRu (W : World) (v : Value) (rs : List Ru) : Prop := SlT W v (rs.map ruT)
theorem SlMo.keep {W W' : World} {v : Value} {ms : List Mo} (h : SlMo W v ms) (hb : Below W.heap.size W W') : SlMo W' v ms := ⟨h.1.keep hb, h.2⟩
theorem SlRu.keep {W W' : World} {v : Value} {rs : List Ru} (h : SlRu W v rs) (hb : Below W.heap.size W W') : SlRu W' v rs := SlT.keep h hb
def MosAt (W : World) (g o : Nat) (ms : List Mo) : Prop := ∀ i, i < ms.length → W.cell? ⟨g, o + i * 3, none⟩ = some (.string (moAt ms i).nm) ∧ W.cell? ⟨g, o + i * 3 + 1, none⟩ = some (.int .i64 (moAt ms i).d) ∧ W.cell? ⟨g, o + i * 3 + 2, none⟩ = some (.int .i64 (moAt ms i).l) ∧ (moAt ms i).nm.size ≤ maxLen
def RusAt (W : World) (g o : Nat) (rs : List Ru) : Prop := ∀ i, i < rs.length → W.cell? ⟨g, o + i * 3, none⟩ = some (.int .i64 (ruAt rs i).e) ∧ W.cell? ⟨g, o + i * 3 + 1, none⟩ = some (.int .i64 (ruAt rs i).r) ∧ W.cell? ⟨g, o + i * 3 + 2, none⟩ = some (.bool (ruAt rs i).b)
theorem MosAt.keep {W W' : World} {g o : Nat} {ms : List Mo} (h : MosAt W g o ms) (hg : g < W.heap.size) (hb : Below W.heap.size W W') : MosAt W' g o ms := fun i hi => by
  obtain ⟨h1, h2, h3, h4⟩ := h i hi
  exact ⟨(hb.cell (p := ⟨g, o + i * 3, none⟩) hg).trans h1, (hb.cell (p := ⟨g, o + i * 3 + 1, none⟩) hg).trans h2, (hb.cell (p := ⟨g, o + i * 3 + 2, none⟩) hg).trans h3, h4⟩
theorem RusAt.keep {W W' : World} {g o : Nat} {rs : List Ru} (h : RusAt W g o rs) (hg : g < W.heap.size) (hb : Below W.heap.size W W') : RusAt W' g o rs := fun i hi => by
  obtain ⟨h1, h2, h3⟩ := h i hi
  exact ⟨(hb.cell (p := ⟨g, o + i * 3, none⟩) hg).trans h1, (hb.cell (p := ⟨g, o + i * 3 + 1, none⟩) hg).trans h2, (hb.cell (p := ⟨g, o + i * 3 + 2, none⟩) hg).trans h3⟩
theorem SlMo.open {W : World} {v : Value} {ms : List Mo} (h : SlMo W v ms) : ∃ ao cap, v = .slice ao ms.length cap ∧ (ms.length ≤ cap ∧ cap ≤ maxLen) ∧ (1 ≤ ms.length → ∃ g o, ao = some ⟨g, o, none⟩ ∧ g < W.heap.size ∧ MosAt W g o ms) := by
  obtain ⟨⟨ao, cap, e, hc, h1⟩, hs⟩ := h
  rw [List.length_map] at e hc h1
  refine ⟨ao, cap, e, hc, fun hl => ?_⟩
  obtain ⟨g, o, eg, hg, hx⟩ := h1 hl
  refine ⟨g, o, eg, hg, fun i hi => ?_⟩
  have := hx i (by rw [List.length_map]; exact hi)
  rw [moT_at hi] at this
  exact ⟨this.1, this.2.1, this.2.2, hs i hi⟩
theorem SlRu.open {W : World} {v : Value} {rs : List Ru} (h : SlRu W v rs) : ∃ ao cap, v = .slice ao rs.length cap ∧ (rs.length ≤ cap ∧ cap ≤ maxLen) ∧ (1 ≤ rs.length → ∃ g o, ao = some ⟨g, o, none⟩ ∧ g < W.heap.size ∧ RusAt W g o rs) := by
  obtain ⟨ao, cap, e, hc, h1⟩ := h
  rw [List.length_map] at e hc h1
  refine ⟨ao, cap, e, hc, fun hl => ?_⟩
  obtain ⟨g, o, eg, hg, hx⟩ := h1 hl
  refine ⟨g, o, eg, hg, fun i hi => ?_⟩
  have := hx i (by rw [List.length_map]; exact hi)
  rw [ruT_at hi] at this
  exact this
theorem SlMo.take {W : World} {ao : Option Addr} {n cap : Nat} {ms : List Mo} (h : SlMo W (.slice ao n cap) ms) {k : Nat} (hk : k ≤ ms.length) : SlMo W (.slice ao k cap) (ms.take k) := by
  refine ⟨?_, fun i hi => ?_⟩
  · have := h.1.take (k := k) (by rw [List.length_map]; exact hk)
    rwa [← List.map_take] at this
  · rw [List.length_take] at hi
    rw [moAt_take (by omega)]
    exact h.2 i (by omega)
/-- A calendar as a value. -/
def calV (c : Cal) (u v : Value) : Value := .agg #[.string c.nm, u, v, .int .i64 c.wk]
def calL (c : Cal) (u v : Value) : List Value := [.string c.nm, u, v, .int .i64 c.wk]
def IsC (W : World) (x : Value) (c : Cal) : Prop := ∃ u v, x = .agg #[.string c.nm, u, v, .int .i64 c.wk] ∧ c.nm.size ≤ maxLen ∧ SlMo W u c.ms ∧ SlRu W v c.rs
theorem IsC.keep {W W' : World} {x : Value} {c : Cal} (h : IsC W x c) (hb : Below W.heap.size W W') : IsC W' x c := by
  obtain ⟨u, v, e, h1, h2, h3⟩ := h
  exact ⟨u, v, e, h1, h2.keep hb, h3.keep hb⟩
theorem BoxL.c4q {w : World} {b : Nat} {u v x y : Value} (h : BoxL w b [u, v, x, y]) : w.cell? ⟨b, 0, none⟩ = some u ∧ w.cell? ⟨b, 1, none⟩ = some v ∧ w.cell? ⟨b, 2, none⟩ = some x ∧ w.cell? ⟨b, 3, none⟩ = some y ∧ b < w.heap.size := ⟨h.c 0 _ rfl, h.c 1 _ rfl, h.c 2 _ rfl, h.c 3 _ rfl, h.lt⟩
theorem BoxL.f4q {w : World} {b : Nat} {u v x y : Value} (h : BoxL w b [u, v, x, y]) : w.frozen? ⟨b, 0, none⟩ = false ∧ w.frozen? ⟨b, 1, none⟩ = false ∧ w.frozen? ⟨b, 2, none⟩ = false ∧ w.frozen? ⟨b, 3, none⟩ = false := ⟨h.f 0 _ rfl, h.f 1 _ rfl, h.f 2 _ rfl, h.f 3 _ rfl⟩
theorem BoxL.f3q {w : World} {b : Nat} {u v x : Value} (h : BoxL w b [u, v, x]) : w.frozen? ⟨b, 0, none⟩ = false ∧ w.frozen? ⟨b, 1, none⟩ = false ∧ w.frozen? ⟨b, 2, none⟩ = false := ⟨h.f 0 _ rfl, h.f 1 _ rfl, h.f 2 _ rfl⟩
theorem BoxL.setQ {w : World} {b i : Nat} {vs : List Value} {v u : Value} (h : BoxL w b vs) (hi : vs[i]? = some u) : BoxL (w.setCell ⟨b, i, none⟩ v) b (vs.set i v) := by
  have hl : i < vs.length := by
    by_cases hl : i < vs.length
    · exact hl
    · rw [List.getElem?_eq_none (by omega)] at hi; cases hi
  have c0 := h.c i u hi
  refine ⟨fun j y e => ?_, fun j y e => ?_, by simpa [World.setCell] using h.lt⟩
  · by_cases hj : j = i
    · subst hj
      rw [List.getElem?_set_self hl] at e
      cases e
      simp [go_sem, c0]
    · rw [List.getElem?_set_ne (Ne.symm hj)] at e
      have := h.c j y e
      simp [go_sem, this]
  · by_cases hj : j = i
    · subst hj
      have := h.f j u hi
      simp [go_sem, this]
    · rw [List.getElem?_set_ne (Ne.symm hj)] at e
      have := h.f j y e
      simp [go_sem, this]
end Go.Proofs.YtpbepibklipfpaaDoor

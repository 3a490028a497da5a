/-
  Plates: how they lie and how they are read.
-/
import Derived.Test.YtclefibjmnabbaaPlM
import Derived.Test.YtclefibjmnabbaaBl
import Derived.Test.YtclefibjmnabbaaTo64
import Derived.Test.YtclefibjmnabbaaPr
namespace Go.Proofs.Ytclefibjmnabbaa
open Go.RowKit

/-- The cells of sites. -/
def siC (ss : List Sit) : List Value := ss.flatMap fun s => [.string s.nm, .int .i64 s.x, .int .i64 s.y, .int .i64 s.wh, .int .i64 s.st]
theorem siC_cons (s : Sit) (ss : List Sit) : siC (s :: ss) = .string s.nm :: .int .i64 s.x :: .int .i64 s.y :: .int .i64 s.wh :: .int .i64 s.st :: siC ss := by simp [siC]
theorem siC_len : ∀ ss : List Sit, (siC ss).length = ss.length * 5
  | [] => rfl
  | s :: ss => by rw [siC_cons]; simp only [List.length_cons, siC_len ss]; omega
/-- The cells of the i-th site in a list of cells. -/
def siI (xs : List Value) (i : Nat) (s : Sit) : Prop := xs[i * 5]? = some (.string s.nm) ∧ xs[i * 5 + 1]? = some (.int .i64 s.x) ∧ xs[i * 5 + 2]? = some (.int .i64 s.y) ∧ xs[i * 5 + 3]? = some (.int .i64 s.wh) ∧ xs[i * 5 + 4]? = some (.int .i64 s.st)
theorem siC_at : ∀ (ss : List Sit) (i : Nat), i < ss.length → siI (siC ss) i (siAt ss i)
  | s :: ss, 0, _ => by rw [siC_cons]; exact ⟨rfl, rfl, rfl, rfl, rfl⟩
  | s :: ss, i + 1, h => by
    have ih := siC_at ss i (by simpa using h)
    unfold siI at ih ⊢
    rw [siC_cons]
    have e : (i + 1) * 5 = i * 5 + 1 + 1 + 1 + 1 + 1 := by omega
    rw [e]
    exact ih
theorem siC_ext {xs : List Value} {ss : List Sit} (hl : xs.length = ss.length * 5) (h : ∀ i, i < ss.length → siI xs i (siAt ss i)) : xs = siC ss := by
  apply List.ext_getElem?
  intro j
  by_cases hj : j < ss.length * 5
  · obtain ⟨a0, a1, a2, a3, a4⟩ := h (j / 5) (by omega)
    obtain ⟨b0, b1, b2, b3, b4⟩ := siC_at ss (j / 5) (by omega)
    have : j = j / 5 * 5 ∨ j = j / 5 * 5 + 1 ∨ j = j / 5 * 5 + 2 ∨ j = j / 5 * 5 + 3 ∨ j = j / 5 * 5 + 4 := by omega
    rcases this with e | e | e | e | e
    · rw [e, a0, b0]
    · rw [e, a1, b1]
    · rw [e, a2, b2]
    · rw [e, a3, b3]
    · rw [e, a4, b4]
  · rw [List.getElem?_eq_none (by omega), List.getElem?_eq_none (by rw [siC_len]; omega)]
/-- The sites lie in block g. -/
def SitesAt (W : World) (g : Nat) (ss : List Sit) : Prop := ∀ i, i < ss.length → W.cell? ⟨g, i * 5, none⟩ = some (.string (siAt ss i).nm) ∧ W.cell? ⟨g, i * 5 + 1, none⟩ = some (.int .i64 (siAt ss i).x) ∧ W.cell? ⟨g, i * 5 + 2, none⟩ = some (.int .i64 (siAt ss i).y) ∧
  W.cell? ⟨g, i * 5 + 3, none⟩ = some (.int .i64 (siAt ss i).wh) ∧ W.cell? ⟨g, i * 5 + 4, none⟩ = some (.int .i64 (siAt ss i).st) ∧ (siAt ss i).nm.size ≤ maxLen
theorem SitesAt.keep {W W' : World} {g : Nat} {ss : List Sit} (h : SitesAt W g ss) (hg : g < W.heap.size) (hb : Below W.heap.size W W') : SitesAt W' g ss := fun i hi => by
  obtain ⟨h1, h2, h3, h4, h5, h6⟩ := h i hi
  exact ⟨(hb.cell (p := ⟨g, i * 5, none⟩) hg).trans h1, (hb.cell (p := ⟨g, i * 5 + 1, none⟩) hg).trans h2, (hb.cell (p := ⟨g, i * 5 + 2, none⟩) hg).trans h3, (hb.cell (p := ⟨g, i * 5 + 3, none⟩) hg).trans h4, (hb.cell (p := ⟨g, i * 5 + 4, none⟩) hg).trans h5, h6⟩
/-- A slice reads as a list of sites. -/
def SlSi (W : World) (v : Value) (ss : List Sit) : Prop := ss.length ≤ 1048576 ∧ ∃ ao cap, v = .slice ao ss.length cap ∧ (ss.length ≤ cap ∧ cap ≤ maxLen) ∧ (1 ≤ ss.length → ∃ g, ao = some ⟨g, 0, none⟩ ∧ g < W.heap.size ∧ SitesAt W g ss)
theorem SlSi.keep {W W' : World} {v : Value} {ss : List Sit} (h : SlSi W v ss) (hb : Below W.heap.size W W') : SlSi W' v ss := by
  obtain ⟨h0, ao, cap, e, hc, h1⟩ := h
  refine ⟨h0, ao, cap, e, hc, fun hl => ?_⟩
  obtain ⟨g, eg, hg, hc⟩ := h1 hl
  exact ⟨g, eg, Nat.lt_of_lt_of_le hg hb.size, hc.keep hg hb⟩
theorem SlSi.take {W : World} {ao : Option Addr} {n cap : Nat} {ss : List Sit} (h : SlSi W (.slice ao n cap) ss) {k : Nat} (hk : k ≤ ss.length) : SlSi W (.slice ao k cap) (ss.take k) := by
  obtain ⟨h0, ao', cap', e, ⟨hc1, hc2⟩, h1⟩ := h
  injection e with e1 e2 e3
  subst e1 e3
  have hl : (ss.take k).length = k := by simp; omega
  refine ⟨by omega, ao, cap, by rw [hl], by omega, fun h2 => ?_⟩
  obtain ⟨g, eg, hg, hc⟩ := h1 (by omega)
  refine ⟨g, eg, hg, fun i hi => ?_⟩
  rw [siAt_take (by omega)]
  exact hc i (by omega)
theorem own_sites {W : World} {B : Nat} {t : TypeId} {g cap : Nat} {ss : List Sit} (h : W.ownsRow B t 5 (.slice (some ⟨g, 0, none⟩) ss.length cap) ss.length (siC ss)) (hs : ∀ i, i < ss.length → (siAt ss i).nm.size ≤ maxLen) : SitesAt W g ss := fun i hi => by
  obtain ⟨a0, a1, a2, a3, a4⟩ := siC_at ss i hi
  exact ⟨(h.cellAt (i * 5) (by omega)).trans a0, (h.cellAt (i * 5 + 1) (by omega)).trans a1, (h.cellAt (i * 5 + 2) (by omega)).trans a2, (h.cellAt (i * 5 + 3) (by omega)).trans a3, (h.cellAt (i * 5 + 4) (by omega)).trans a4, hs i hi⟩
/-- Sites that came in. -/
def IsSi (W : World) (a : Option Addr) (len cap : Nat) (ss : List Sit) : Prop := (len ≤ cap ∧ cap ≤ maxLen) ∧ ss.length = len ∧
  ∀ i, i < len → ∃ xb xo, a = some ⟨xb, xo, none⟩ ∧ xb < W.heap.size ∧ W.cell? ⟨xb, xo + i * 5, none⟩ = some (.string (siAt ss i).nm) ∧ W.cell? ⟨xb, xo + i * 5 + 1, none⟩ = some (.int .i64 (siAt ss i).x) ∧ W.cell? ⟨xb, xo + i * 5 + 2, none⟩ = some (.int .i64 (siAt ss i).y) ∧
    W.cell? ⟨xb, xo + i * 5 + 3, none⟩ = some (.int .i64 (siAt ss i).wh) ∧ W.cell? ⟨xb, xo + i * 5 + 4, none⟩ = some (.int .i64 (siAt ss i).st) ∧ (siAt ss i).nm.size ≤ maxLen
theorem IsSi.keep {W W' : World} {a : Option Addr} {len cap : Nat} {ss : List Sit} (h : IsSi W a len cap ss) (hb : Below W.heap.size W W') : IsSi W' a len cap ss := by
  obtain ⟨h1, h2, h3⟩ := h
  refine ⟨h1, h2, fun i hi => ?_⟩
  obtain ⟨xb, xo, e, hx, c0, c1, c2, c3, c4, c5⟩ := h3 i hi
  exact ⟨xb, xo, e, Nat.lt_of_lt_of_le hx hb.size, (hb.cell (p := ⟨xb, xo + i * 5, none⟩) hx).trans c0, (hb.cell (p := ⟨xb, xo + i * 5 + 1, none⟩) hx).trans c1, (hb.cell (p := ⟨xb, xo + i * 5 + 2, none⟩) hx).trans c2, (hb.cell (p := ⟨xb, xo + i * 5 + 3, none⟩) hx).trans c3, (hb.cell (p := ⟨xb, xo + i * 5 + 4, none⟩) hx).trans c4, c5⟩
/-- The four numbers of a plate. -/
structure Pl4 where
  W : Int
  H : Int
  M : Int
  G : Int
def plV (p : Pl4) (v : Value) : Value := .agg #[.int .i64 p.W, .int .i64 p.H, .int .i64 p.M, .int .i64 p.G, v]
/-- A plate that came in. -/
def IsPt (W : World) (v : Value) (p : Pl4) (ss : List Sit) : Prop := ∃ a len cap, v = plV p (.slice a len cap) ∧ IsSi W a len cap ss
theorem IsPt.keep {W W' : World} {v : Value} {p : Pl4} {ss : List Sit} (h : IsPt W v p ss) (hb : Below W.heap.size W W') : IsPt W' v p ss := by
  obtain ⟨a, len, cap, e, h1⟩ := h
  exact ⟨a, len, cap, e, h1.keep hb⟩
end Go.Proofs.Ytclefibjmnabbaa

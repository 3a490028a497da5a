/-
  The contracts of spec.l03Wide, spec.l03Closer, spec.BestWithin.
-/
import Derived.Test.YtldjplopglpgfaaNearS
import Derived.Laws.BitsLemmas
namespace Go.Proofs.Ytldjplopglpgfaa
open Go.RowKit

theorem wraps62 (n : Int) (h0 : 0 ≤ n) (h1 : n < 2 ^ 62) : IntKind.i64.wrap n = n := by rw [IntKind.wrap_i64]; omega
theorem and31 {a : Int} (h1 : 0 ≤ a) (h2 : a < 2147483648) : bits .and .i64 a 2147483647 = a := by
  have := bits_mask .i64 62 (by decide) wraps62 31 (by decide) a h1 (by omega)
  have e : (2147483647 : Int) = 2 ^ 31 - 1 := by decide
  rw [e, this]
  omega
theorem or31 {a : Int} (h1 : 0 ≤ a) (h2 : a < 2147483648) : bits .or .i64 0 a = a := by
  have := bits_join .i64 62 (by decide) wraps62 31 0 a (by decide) (by decide) (by decide) h1 (by omega) (by omega)
  rw [this]; omega
/-- The distances of both neighbours, multiplied by all three denominators. -/
def dX (n d a b f : Int) : Int := (n * b - a * d) * f
def dY (n d c f b : Int) : Int := (c * d - n * f) * b
def clo (n d a b c f : Int) : Bool := decide (dY n d c f b < dX n d a b f) || (decide (dX n d a b f = dY n d c f b) && decide (f < b))
structure DiB (n d a b c f : Int) : Prop where
  x0 : 0 ≤ n * b - a * d
  x1 : n * b - a * d ≤ 1000000000
  y0 : 0 ≤ c * d - n * f
  y1 : c * d - n * f ≤ 1000000000
  p1 : (n * b - a * d) * f ≤ 1000000000
  p2 : (c * d - n * f) * b ≤ 1000000000
  b1 : 1 ≤ b
  b2 : b ≤ 1000000000
  f1 : 1 ≤ f
  f2 : f ≤ 1000000000
theorem one_le {x y z : Int} (h1 : 1 ≤ y) (h : x * y ≤ z) (h0 : 0 ≤ x) : x ≤ z := by
  have := Int.mul_le_mul_of_nonneg_left h1 h0
  omega
theorem NbR.di {n d m a b c f : Int} (hok : okR n d = true) (hm : m ≤ 1000000000) (h : NbR n d m a b c f) : DiB n d a b c f := by
  obtain ⟨k1, k2⟩ := h.ok hok hm
  obtain ⟨b1, b2, b3, b4⟩ := okR_bd k1
  obtain ⟨c1, c2, c3, c4⟩ := okR_bd k2
  obtain ⟨o1, o2, o3, o4⟩ := okR_bd hok
  rcases h with ⟨h0, e1, e2, e3, e4⟩ | h
  · have z1 : n * b - a * d = 0 := by rw [e1, e2]; omega
    have z2 : c * d - n * f = 0 := by rw [e3, e4]; omega
    exact ⟨by omega, by omega, by omega, by omega, by rw [z1]; omega, by rw [z2]; omega, b1, b2, c1, c2⟩
  · obtain ⟨d1, d2, d3, d4⟩ := h.dist
    have e1 := one_le c1 (show (n * b - a * d) * f ≤ 1000000000 by omega) (by omega)
    have e2 := one_le b1 (show (c * d - n * f) * b ≤ 1000000000 by omega) (by omega)
    exact ⟨by omega, e1, by omega, e2, by omega, by omega, b1, b2, c1, c2⟩
theorem mul4 {n d a b : Int} (hn : okR n d = true) (ha : okR a b = true) : -1000000000000000000 ≤ n * b ∧ n * b ≤ 1000000000000000000 ∧ -1000000000000000000 ≤ a * d ∧ a * d ≤ 1000000000000000000 := by
  obtain ⟨o1, o2, o3, o4⟩ := okR_bd hn
  obtain ⟨p1, p2, p3, p4⟩ := okR_bd ha
  obtain ⟨m1, m2⟩ := mul_bd (a := n) (b := b) o3 o4 (by omega) p2
  obtain ⟨m3, m4⟩ := mul_bd (a := a) (b := d) p3 p4 (by omega) o2
  exact ⟨m1, m2, m3, m4⟩
def BoolB (b : Bool) (w : World) (e : Ending) (w' : World) : Prop := e = .returned (.bool b) ∧ Below w.heap.size w w'
/-- How the distances stand. -/
theorem clo_ways (n d a b c f : Int) : (dY n d c f b < dX n d a b f ∧ clo n d a b c f = true) ∨ (dX n d a b f < dY n d c f b ∧ clo n d a b c f = false) ∨ (dX n d a b f = dY n d c f b ∧ f < b ∧ clo n d a b c f = true) ∨ (dX n d a b f = dY n d c f b ∧ ¬ f < b ∧ clo n d a b c f = false) := by
  unfold clo
  by_cases h1 : dY n d c f b < dX n d a b f
  · left; simp [h1]
  · by_cases h2 : dX n d a b f = dY n d c f b
    · by_cases h3 : f < b
      · right; right; left; simp [h2, h3]
      · right; right; right; simp [h2, h3]
    · right; left; simp [h1, h2]; omega
/-- What BestWithin returns, out of the neighbours. -/
def bwA (n d a b c f k : Int) : Int := if k = 0 then (if clo n d a b c f then c else a) else 0
def bwB (n d a b c f k : Int) : Int := if k = 0 then (if clo n d a b c f then f else b) else 0
theorem bw_no {n d a b c f k : Int} (h : ¬ k = 0) : bwA n d a b c f k = 0 ∧ bwB n d a b c f k = 0 := by simp [bwA, bwB, h]
theorem bw_hi {n d a b c f : Int} (h : clo n d a b c f = true) : bwA n d a b c f 0 = c ∧ bwB n d a b c f 0 = f := by simp [bwA, bwB, h]
theorem bw_lo {n d a b c f : Int} (h : clo n d a b c f = false) : bwA n d a b c f 0 = a ∧ bwB n d a b c f 0 = b := by simp [bwA, bwB, h]
def BwPost (n d most : Int) (w : World) (e : Ending) (w' : World) : Prop := ∃ a b c f k : Int, NoR n d most a b c f k ∧ e = .returned (.tuple #[.agg #[.int .i64 (bwA n d a b c f k), .int .i64 (bwB n d a b c f k)], .int .i64 k]) ∧ Below w.heap.size w w'
theorem NoR.code {n d most a b c f k : Int} (h : NoR n d most a b c f k) : (¬ k = 0) ∨ (k = 0 ∧ okR n d = true ∧ most ≤ 1000000000 ∧ NbR n d most a b c f) := by
  rcases h with ⟨_, _, _, _, _, h5⟩ | ⟨_, _, _, _, _, _, h5⟩ | ⟨h0, _, h2, h3, h4⟩
  · left; omega
  · left; omega
  · right; exact ⟨h4, h0, h2, h3⟩
theorem bel2 {w x : World} (h : Below w.heap.size w x) (a b : Value) : Below w.heap.size w ((x.setCell ⟨w.heap.size + 1, 0, none⟩ a).setCell ⟨w.heap.size + 1, 1, none⟩ b) :=
  (h.setCell (show w.heap.size ≤ w.heap.size + 1 by omega) _).setCell (show w.heap.size ≤ w.heap.size + 1 by omega) _
end Go.Proofs.Ytldjplopglpgfaa

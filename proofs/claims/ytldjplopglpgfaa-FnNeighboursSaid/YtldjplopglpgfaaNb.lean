/-
  The neighbours of a ratio, and its convergents: the plain arithmetic.
-/
import Derived.Test.YtldjplopglpgfaaNum
namespace Go.Proofs.Ytldjplopglpgfaa
set_option linter.unusedVariables false

/-- The neighbours a / b and c / e of n / d with denominators of at most m, less than d. -/
structure Nb (n d m a b c e : Int) : Prop where
  b1 : 1 ≤ b
  e1 : 1 ≤ e
  bm : b ≤ m
  em : e ≤ m
  det : c * b - a * e = 1
  lo : a * d < n * b
  hi : n * e < c * d
  far : m < b + e
theorem nb_mul {a b c : Int} (hc : 1 ≤ c) (h : a * c < b * c) : a < b := Int.lt_of_mul_lt_mul_right h (by omega)
theorem nb_le_low {n d m a b c e a' b' c' e' : Int} (hd : 1 ≤ d) (h : Nb n d m a b c e) (h' : Nb n d m a' b' c' e') : a' * b ≤ a * b' := by
  by_cases hc : a' * b ≤ a * b'
  · exact hc
  · exfalso
    have h1 : (a' * e) * d < (c * b') * d := by
      have g1 : (a' * d) * e < (n * b') * e := Int.mul_lt_mul_of_pos_right h'.lo (by have := h.e1; omega)
      have g2 : (n * e) * b' < (c * d) * b' := Int.mul_lt_mul_of_pos_right h.hi (by have := h'.b1; omega)
      have i1 : (a' * e) * d = (a' * d) * e := by grind
      have i2 : (n * b') * e = (n * e) * b' := by grind
      have i3 : (c * b') * d = (c * d) * b' := by grind
      omega
    have h2 := nb_mul hd h1
    have h3 : b' = b * (c * b' - a' * e) + e * (a' * b - a * b') := by have := h.det; grind
    have h4 : b * 1 ≤ b * (c * b' - a' * e) := Int.mul_le_mul_of_nonneg_left (by omega) (by have := h.b1; omega)
    have h5 : e * 1 ≤ e * (a' * b - a * b') := Int.mul_le_mul_of_nonneg_left (by omega) (by have := h.e1; omega)
    have := h.far
    have := h'.bm
    omega
theorem nb_le_high {n d m a b c e a' b' c' e' : Int} (hd : 1 ≤ d) (h : Nb n d m a b c e) (h' : Nb n d m a' b' c' e') : c * e' ≤ c' * e := by
  by_cases hc : c * e' ≤ c' * e
  · exact hc
  · exfalso
    have h1 : (a * e') * d < (c' * b) * d := by
      have g1 : (a * d) * e' < (n * b) * e' := Int.mul_lt_mul_of_pos_right h.lo (by have := h'.e1; omega)
      have g2 : (n * e') * b < (c' * d) * b := Int.mul_lt_mul_of_pos_right h'.hi (by have := h.b1; omega)
      have i1 : (a * e') * d = (a * d) * e' := by grind
      have i2 : (n * b) * e' = (n * e') * b := by grind
      have i3 : (c' * b) * d = (c' * d) * b := by grind
      omega
    have h2 := nb_mul hd h1
    have h3 : e' = b * (c * e' - c' * e) + e * (c' * b - a * e') := by have := h.det; grind
    have h4 : b * 1 ≤ b * (c * e' - c' * e) := Int.mul_le_mul_of_nonneg_left (by omega) (by have := h.b1; omega)
    have h5 : e * 1 ≤ e * (c' * b - a * e') := Int.mul_le_mul_of_nonneg_left (by omega) (by have := h.e1; omega)
    have := h.far
    have := h'.em
    omega
theorem low_same {a b c e a' b' c' e' : Int} (b1 : 1 ≤ b) (b1' : 1 ≤ b') (h : c * b - a * e = 1) (h' : c' * b' - a' * e' = 1) (hx : a * b' = a' * b) : a = a' ∧ b = b' := by
  have d1 : b ∣ b' := ⟨c * b' - e * a', by grind⟩
  have d2 : b' ∣ b := ⟨c' * b - e' * a, by grind⟩
  have e1 := Int.le_of_dvd (by omega) d1
  have e2 := Int.le_of_dvd (by omega) d2
  obtain rfl : b = b' := by omega
  exact ⟨Int.eq_of_mul_eq_mul_right (by omega) hx, rfl⟩
theorem Nb.unique {n d m a b c e a' b' c' e' : Int} (hd : 1 ≤ d) (h : Nb n d m a b c e) (h' : Nb n d m a' b' c' e') : (a = a' ∧ b = b') ∧ c = c' ∧ e = e' := by
  have l1 := nb_le_low hd h h'
  have l2 := nb_le_low hd h' h
  have g1 := nb_le_high hd h h'
  have g2 := nb_le_high hd h' h
  refine ⟨low_same h.b1 h'.b1 h.det h'.det (by omega), ?_⟩
  have := low_same (a := c) (b := e) (c := -a) (e := -b) (a' := c') (b' := e') (c' := -a') (e' := -b') h.e1 h'.e1 (by have := h.det; grind) (by have := h'.det; grind) (by omega)
  exact this
/-- A ratio is made of its neighbours. -/
theorem Nb.cone {n d m a b c e : Int} (h : Nb n d m a b c e) : ∃ u v : Int, 1 ≤ u ∧ 1 ≤ v ∧ n = u * a + v * c ∧ d = u * b + v * e ∧ u = c * d - n * e ∧ v = n * b - a * d := by
  have h1 := h.lo
  have h2 := h.hi
  have h3 := h.det
  exact ⟨c * d - n * e, n * b - a * d, by omega, by omega, by grind, by grind, rfl, rfl⟩
theorem Nb.lt {n d m a b c e : Int} (h : Nb n d m a b c e) : m < d := by
  obtain ⟨u, v, hu, hv, _, hd, _⟩ := h.cone
  have h1 : 1 * b ≤ u * b := Int.mul_le_mul_of_nonneg_right hu (by have := h.b1; omega)
  have h2 : 1 * e ≤ v * e := Int.mul_le_mul_of_nonneg_right hv (by have := h.e1; omega)
  have := h.far
  omega
/-- Its neighbours have no greater terms. -/
theorem Nb.bd {n d m a b c e : Int} (hd : 1 ≤ d) (h : Nb n d m a b c e) : a.natAbs ≤ n.natAbs ∧ c.natAbs ≤ n.natAbs := by
  obtain ⟨u, v, hu, hv, hn, _, _⟩ := h.cone
  have hb := h.b1
  have he := h.e1
  have hlo := h.lo
  have hhi := h.hi
  have hdet := h.det
  -- both are on one side of 0
  by_cases ha : 0 ≤ a
  · have hc : 0 ≤ c := by
      by_cases hc : 0 ≤ c
      · exact hc
      · exfalso
        have : c * b ≤ (-1) * b := Int.mul_le_mul_of_nonneg_right (by omega) (by omega)
        have : 0 ≤ a * e := Int.mul_nonneg ha (by omega)
        omega
    have h1 : 1 * a ≤ u * a := Int.mul_le_mul_of_nonneg_right hu ha
    have h2 : 1 * c ≤ v * c := Int.mul_le_mul_of_nonneg_right hv hc
    omega
  · have hc : c ≤ 0 := by
      by_cases hc : c ≤ 0
      · exact hc
      · exfalso
        have g1 : 1 * b ≤ c * b := Int.mul_le_mul_of_nonneg_right (by omega) (by omega)
        have g2 : a * e ≤ (-1) * e := Int.mul_le_mul_of_nonneg_right (by omega) (by omega)
        omega
    have h1 : u * a ≤ 1 * a := Int.mul_le_mul_of_nonpos_right hu (by omega)
    have h2 : v * c ≤ 1 * c := Int.mul_le_mul_of_nonpos_right hv hc
    omega
/-- The products that the distances need are small. -/
theorem Nb.dist {n d m a b c e : Int} (h : Nb n d m a b c e) : 1 ≤ n * b - a * d ∧ 1 ≤ c * d - n * e ∧ (n * b - a * d) * e < d ∧ (c * d - n * e) * b < d := by
  obtain ⟨u, v, hu, hv, _, hd, eu, ev⟩ := h.cone
  have h1 : 1 * 1 ≤ u * b := Int.mul_le_mul hu h.b1 (by omega) (by omega)
  have h2 : 1 * 1 ≤ v * e := Int.mul_le_mul hv h.e1 (by omega) (by omega)
  rw [← eu, ← ev]
  omega
/-- What the convergents keep: r is x times the last one and y times the one before it. -/
structure Cv (n d x y b1 b2 l1 l2 : Int) : Prop where
  num : n = x * l1 + y * b1
  den : d = x * l2 + y * b2
  det : l1 * b2 - b1 * l2 = 1 ∨ l1 * b2 - b1 * l2 = -1
theorem Cv.start (n d : Int) : Cv n d n d 0 1 1 0 := ⟨by omega, by omega, .inl (by omega)⟩
theorem Cv.step {n d x y b1 b2 l1 l2 : Int} (h : Cv n d x y b1 b2 l1 l2) : Cv n d y (x - x / y * y) l1 l2 (x / y * l1 + b1) (x / y * l2 + b2) := by
  have h1 := h.num
  have h2 := h.den
  generalize x / y = t at *
  refine ⟨by grind, by grind, ?_⟩
  rcases h.det with h3 | h3
  · right; grind
  · left; grind
theorem cv_low {n d m x y b1 b2 l1 l2 k : Int} (h : Cv n d x y b1 b2 l1 l2) (hx : 1 ≤ x) (hy : 0 ≤ y) (hb : 1 ≤ b2) (hbm : b2 ≤ m) (k1 : 1 ≤ k) (k2 : l2 - k * b2 ≤ m) (k3 : m - b2 < l2 - k * b2) (hdet : l1 * b2 - b1 * l2 = 1) : Nb n d m b1 b2 (l1 - k * b1) (l2 - k * b2) := by
  have h1 := h.num
  have h2 := h.den
  have hw : 1 * 1 ≤ x * k := Int.mul_le_mul hx k1 (by omega) (by omega)
  have i1 : n * b2 - b1 * d = x * (l1 * b2 - b1 * l2) := by grind
  have i2 : (l1 - k * b1) * d - n * (l2 - k * b2) = (x * k + y) * (l1 * b2 - b1 * l2) := by grind
  rw [hdet] at i1 i2
  exact ⟨hb, by omega, hbm, k2, by grind, by omega, by omega, by omega⟩
theorem cv_high {n d m x y b1 b2 l1 l2 k : Int} (h : Cv n d x y b1 b2 l1 l2) (hx : 1 ≤ x) (hy : 0 ≤ y) (hb : 1 ≤ b2) (hbm : b2 ≤ m) (k1 : 1 ≤ k) (k2 : l2 - k * b2 ≤ m) (k3 : m - b2 < l2 - k * b2) (hdet : l1 * b2 - b1 * l2 = -1) : Nb n d m (l1 - k * b1) (l2 - k * b2) b1 b2 := by
  have h1 := h.num
  have h2 := h.den
  have hw : 1 * 1 ≤ x * k := Int.mul_le_mul hx k1 (by omega) (by omega)
  have i1 : n * b2 - b1 * d = x * (l1 * b2 - b1 * l2) := by grind
  have i2 : (l1 - k * b1) * d - n * (l2 - k * b2) = (x * k + y) * (l1 * b2 - b1 * l2) := by grind
  rw [hdet] at i1 i2
  exact ⟨by omega, hb, k2, hbm, by grind, by omega, by omega, by omega⟩
theorem up_div {a b : Int} (hb : 1 ≤ b) (ha : 1 ≤ a) : 1 ≤ (a + b - 1) / b ∧ a ≤ (a + b - 1) / b * b ∧ (a + b - 1) / b * b < a + b := by
  have e := Int.mul_ediv_add_emod (a + b - 1) b
  have r0 := Int.emod_nonneg (a + b - 1) (show b ≠ 0 by omega)
  have r1 := Int.emod_lt_of_pos (a + b - 1) (show 0 < b by omega)
  rw [Int.mul_comm] at e
  refine ⟨Int.le_ediv_of_mul_le (by omega) (by omega), by omega, by omega⟩
theorem nb_gcd {a b c e : Int} (h : c * b - a * e = 1) : Int.gcd a b = 1 ∧ Int.gcd c e = 1 := by
  constructor
  · have d1 : ((Int.gcd a b : Nat) : Int) ∣ 1 := by
      rw [← h]; exact Int.dvd_sub (Int.dvd_mul_of_dvd_right (Int.gcd_dvd_right a b)) (Int.dvd_mul_of_dvd_left (Int.gcd_dvd_left a b))
    have := Int.le_of_dvd (by omega) d1
    have h0 : Int.gcd a b ≠ 0 := by intro h0; rw [h0] at d1; simp at d1
    omega
  · have d1 : ((Int.gcd c e : Nat) : Int) ∣ 1 := by
      rw [← h]; exact Int.dvd_sub (Int.dvd_mul_of_dvd_left (Int.gcd_dvd_left c e)) (Int.dvd_mul_of_dvd_right (Int.gcd_dvd_right c e))
    have := Int.le_of_dvd (by omega) d1
    have h0 : Int.gcd c e ≠ 0 := by intro h0; rw [h0] at d1; simp at d1
    omega
end Go.Proofs.Ytldjplopglpgfaa

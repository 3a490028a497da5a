/-
  The simplest ratio between two ratios: the plain arithmetic.
-/
import Derived.Test.YthnfkkfonabhkaaNum
namespace Go.Proofs.Ythnfkkfonabhkaa
set_option linter.unusedVariables false

/-- x / y lies from n / d to p / q. -/
def Btw (n d p q x y : Int) : Prop := 1 ≤ y ∧ n * y ≤ x * d ∧ x * q ≤ p * y
/-- The simplest ratio from n / d to p / q. -/
structure Smp (n d p q x y : Int) : Prop where
  btw : Btw n d p q x y
  cop : Int.gcd x y = 1
  den : ∀ u v, Btw n d p q u v → y ≤ v
  num : ∀ u v, Btw n d p q u v → x.natAbs ≤ u.natAbs
/-- The same of positive ratios; it stays so when an integer is taken away. -/
structure SmpP (n d p q x y : Int) : Prop where
  btw : Btw n d p q x y
  cop : Int.gcd x y = 1
  pos : 1 ≤ x
  den : ∀ u v, Btw n d p q u v → y ≤ v
  sh : ∀ k u v, k * d ≤ n → Btw n d p q u v → x - k * y ≤ u - k * v
theorem lt_of_mul {a b c : Int} (hc : 1 ≤ c) (h : a * c < b * c) : a < b := Int.lt_of_mul_lt_mul_right h (by omega)
theorem le_of_mul {a b c : Int} (hc : 1 ≤ c) (h : a * c ≤ b * c) : a ≤ b := Int.le_of_mul_le_mul_right h (by omega)
theorem btw_pos {n d p q u v : Int} (hd : 1 ≤ d) (hn : 1 ≤ n) (h : Btw n d p q u v) : 1 ≤ u := by
  obtain ⟨h1, h2, _⟩ := h
  have h3 : 1 ≤ n * v := Int.mul_pos (by omega) (by omega)
  by_cases hu : 1 ≤ u
  · exact hu
  · exfalso
    have : u * d ≤ 0 := Int.mul_nonpos_of_nonpos_of_nonneg (by omega) (by omega)
    omega
theorem SmpP.smp {n d p q x y : Int} (hd : 1 ≤ d) (hn : 1 ≤ n) (h : SmpP n d p q x y) : Smp n d p q x y := by
  refine ⟨h.btw, h.cop, h.den, fun u v hb => ?_⟩
  have h1 := h.sh 0 u v (by omega) hb
  have h2 := btw_pos hd hn hb
  have h3 := h.pos
  simp at h1
  omega
theorem btw_neg {n d p q u v : Int} (h : Btw n d p q u v) : Btw (-p) q (-n) d (-u) v := by
  obtain ⟨h1, h2, h3⟩ := h
  exact ⟨h1, by simp only [Int.neg_mul]; omega, by simp only [Int.neg_mul]; omega⟩
theorem SmpP.neg {n d p q x y : Int} (hq : 1 ≤ q) (hp : p ≤ -1) (h : SmpP (-p) q (-n) d x y) : Smp n d p q (-x) y := by
  have hs := h.smp hq (by omega)
  refine ⟨?_, by have := h.cop; rwa [Int.neg_gcd], fun u v hb => h.den _ _ (btw_neg hb), fun u v hb => ?_⟩
  · have := btw_neg h.btw; simpa using this
  · have := hs.num _ _ (btw_neg hb); rw [Int.natAbs_neg] at this; rwa [Int.natAbs_neg]
theorem smp_zero {n d p q : Int} (hn : n ≤ 0) (hp : 0 ≤ p) : Smp n d p q 0 1 :=
  ⟨⟨by omega, by omega, by omega⟩, rfl, fun u v h => h.1, fun u v _ => by simp⟩
/-- Between two positive ratios with an integer c, the least that is not less than the first. -/
theorem smpP_int {n d p q c : Int} (hd : 1 ≤ d) (hn : 1 ≤ n) (h1 : (c - 1) * d < n) (h2 : n ≤ c * d) (h3 : c * q ≤ p) : SmpP n d p q c 1 := by
  have hc : 1 ≤ c := by
    by_cases hc : 1 ≤ c
    · exact hc
    · exfalso
      have : c * d ≤ 0 := Int.mul_nonpos_of_nonpos_of_nonneg (by omega) (by omega)
      omega
  refine ⟨⟨by omega, by omega, by omega⟩, by simp, hc, fun u v h => h.1, fun k u v hk hb => ?_⟩
  obtain ⟨b1, b2, b3⟩ := hb
  have hkc : k ≤ c := by
    by_cases hk' : k ≤ c
    · exact hk'
    · exfalso
      have e1 : (c + 1) * d ≤ k * d := Int.mul_le_mul_of_nonneg_right (by omega) (by omega)
      rw [Int.add_mul] at e1; omega
  by_cases hkc' : k = c
  · subst hkc'
    have e : n = k * d := by omega
    subst e
    have : k * v * d ≤ u * d := by rw [Int.mul_assoc, Int.mul_comm v d, ← Int.mul_assoc]; exact b2
    have := le_of_mul hd this
    omega
  · have e1 : ((c - 1) * v) * d < u * d := by
      have : ((c - 1) * d) * v < n * v := Int.mul_lt_mul_of_pos_right h1 (by omega)
      have e : (c - 1) * v * d = (c - 1) * d * v := by grind
      omega
    have e2 := lt_of_mul hd e1
    have e3 : (c - 1 - k) * 1 ≤ (c - 1 - k) * v := Int.mul_le_mul_of_nonneg_left b1 (by omega)
    have e4 : (c - 1 - k) * v = (c - 1) * v - k * v := by grind
    omega
/-- The step: both lie strictly between m and m + 1. -/
theorem btw_step {n d p q m u v : Int} (hd : 1 ≤ d) (h1 : m * d < n) (hb : Btw n d p q u v) : Btw q (p - m * q) d (n - m * d) v (u - m * v) := by
  obtain ⟨b1, b2, b3⟩ := hb
  have e1 : (m * v) * d < u * d := by
    have : (m * d) * v < n * v := Int.mul_lt_mul_of_pos_right h1 (by omega)
    have e : m * v * d = m * d * v := by grind
    omega
  have e2 := lt_of_mul hd e1
  have i1 : v * (p - m * q) - q * (u - m * v) = p * v - u * q := by grind
  have i2 : d * (u - m * v) - v * (n - m * d) = u * d - n * v := by grind
  exact ⟨by omega, by omega, by omega⟩
theorem btw_back {n d p q m x y : Int} (hx : 1 ≤ x) (hb : Btw q (p - m * q) d (n - m * d) x y) : Btw n d p q (m * x + y) x := by
  obtain ⟨b1, b2, b3⟩ := hb
  have i1 : (m * x + y) * d - n * x = d * y - x * (n - m * d) := by grind
  have i2 : p * x - (m * x + y) * q = x * (p - m * q) - q * y := by grind
  exact ⟨hx, by omega, by omega⟩
theorem cop_step {m x y : Int} (h : Int.gcd x y = 1) : Int.gcd (m * x + y) x = 1 := by
  rw [Int.gcd_comm, Int.add_comm, Int.gcd_add_mul_right_right]; exact h
theorem smpP_step {n d p q m x y : Int} (hd : 1 ≤ d) (hq : 1 ≤ q) (hm : 0 ≤ m) (h1 : m * d < n) (h2 : n < (m + 1) * d) (h : SmpP q (p - m * q) d (n - m * d) x y) : SmpP n d p q (m * x + y) x := by
  have hx := h.pos
  have hmx : 0 ≤ m * x := Int.mul_nonneg hm (by omega)
  refine ⟨btw_back hx h.btw, cop_step h.cop, by have := h.btw.1; omega, ?_, ?_⟩
  · intro u v hb
    have := h.sh 0 _ _ (by omega) (btw_step hd h1 hb)
    omega
  · intro k u v hk hb
    have hkm : k ≤ m := by
      have : k * d < (m + 1) * d := by omega
      have := lt_of_mul hd this
      omega
    have g1 := h.sh 0 _ _ (by omega) (btw_step hd h1 hb)
    have g2 := h.den _ _ (btw_step hd h1 hb)
    have g3 : (m - k) * x ≤ (m - k) * v := Int.mul_le_mul_of_nonneg_left (by omega) (by omega)
    have i1 : (m - k) * x = m * x - k * x := by grind
    have i2 : (m - k) * v = m * v - k * v := by grind
    omega
/-- The first step between two negative ratios. -/
theorem smp_step_neg {n d p q m x y : Int} (hd : 1 ≤ d) (hq : 1 ≤ q) (hp : p ≤ -1) (h1 : m * d < n) (h3 : p < (m + 1) * q) (h : SmpP q (p - m * q) d (n - m * d) x y) (hm : m ≤ -1) : Smp n d p q (m * x + y) x := by
  have hx := h.pos
  have hb0 := btw_back hx h.btw
  refine ⟨hb0, cop_step h.cop, ?_, ?_⟩
  · intro u v hb
    have := h.sh 0 _ _ (by omega) (btw_step hd h1 hb)
    omega
  · intro u v hb
    have i0 : (m + 1) * q = m * q + q := by grind
    have g1 := h.sh 0 _ _ (by omega) (btw_step hd h1 hb)
    have g2 := h.sh 1 _ _ (by omega) (btw_step hd h1 hb)
    have g3 : (-m - 1) * x ≤ (-m - 1) * v := Int.mul_le_mul_of_nonneg_left (by omega) (by omega)
    have i1 : (-m - 1) * x = -(m * x) - x := by grind
    have i2 : (-m - 1) * v = -(m * v) - v := by grind
    have neg : ∀ u v : Int, Btw n d p q u v → u ≤ -1 := by
      intro u v hb
      have b1 := hb.1
      have b3 := hb.2.2
      have e1 : p * v ≤ -1 * v := Int.mul_le_mul_of_nonneg_right hp (by omega)
      by_cases hu : u ≤ -1
      · exact hu
      · exfalso
        have : 0 ≤ u * q := Int.mul_nonneg (by omega) (by omega)
        omega
    have n1 := neg _ _ hb
    have n2 := neg _ _ hb0
    omega
/-- Between two negative ratios with an integer f, the greatest that is not greater than the second. -/
theorem smp_int_neg {n d p q f : Int} (hd : 1 ≤ d) (hq : 1 ≤ q) (hp : p ≤ -1) (h1 : f * q ≤ p) (h2 : p < (f + 1) * q) (h3 : n ≤ f * d) : Smp n d p q f 1 := by
  refine ⟨⟨by omega, by omega, by omega⟩, by simp, fun u v h => h.1, fun u v hb => ?_⟩
  obtain ⟨b1, b2, b3⟩ := hb
  have e1 : u * q < ((f + 1) * v) * q := by
    have : p * v < ((f + 1) * q) * v := Int.mul_lt_mul_of_pos_right h2 (by omega)
    have e : (f + 1) * v * q = (f + 1) * q * v := by grind
    omega
  have e2 := lt_of_mul hq e1
  have hf : f ≤ -1 := by
    by_cases hf : f ≤ -1
    · exact hf
    · exfalso
      have : 0 ≤ f * q := Int.mul_nonneg (by omega) (by omega)
      omega
  have e3 : (f + 1) * v ≤ (f + 1) * 1 := Int.mul_le_mul_of_nonpos_left (by omega) b1
  omega
/-- There is one simplest ratio. -/
theorem Smp.unique {n d p q x y x' y' : Int} (hd : 1 ≤ d) (hq : 1 ≤ q) (h : Smp n d p q x y) (h' : Smp n d p q x' y') : x = x' ∧ y = y' := by
  have e1 := h.den _ _ h'.btw
  have e2 := h'.den _ _ h.btw
  have e3 := h.num _ _ h'.btw
  have e4 := h'.num _ _ h.btw
  refine ⟨?_, by omega⟩
  by_cases hx : x = x'
  · exact hx
  · exfalso
    have hz : x = -x' := by omega
    have hb0 : Btw n d p q 0 1 := by
      obtain ⟨a1, a2, a3⟩ := h.btw
      obtain ⟨b1, b2, b3⟩ := h'.btw
      have hy : y' = y := by omega
      subst hy hz
      simp only [Int.neg_mul] at a2 a3
      refine ⟨by omega, ?_, ?_⟩
      · have : n * y' ≤ 0 * y' := by omega
        have := le_of_mul b1 this
        omega
      · have : 0 * y' ≤ p * y' := by omega
        have := le_of_mul b1 this
        omega
    have := h.num _ _ hb0
    omega
/-- The simplest ratio, as a function. -/
noncomputable def smpX (n d p q : Int) : Int × Int := Classical.epsilon fun r : Int × Int => Smp n d p q r.1 r.2
theorem Smp.eqX {n d p q x y : Int} (hd : 1 ≤ d) (hq : 1 ≤ q) (h : Smp n d p q x y) : x = (smpX n d p q).1 ∧ y = (smpX n d p q).2 :=
  h.unique hd hq (Classical.epsilon_spec (p := fun r : Int × Int => Smp n d p q r.1 r.2) ⟨(x, y), h⟩)
end Go.Proofs.Ythnfkkfonabhkaa

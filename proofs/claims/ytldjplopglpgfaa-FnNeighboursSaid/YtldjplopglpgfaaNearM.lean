/-
  The search for neighbours: the plain arithmetic of its rounds.
-/
import Derived.Test.YtldjplopglpgfaaNb
import Derived.Test.YtldjplopglpgfaaRat
namespace Go.Proofs.Ytldjplopglpgfaa

structure NrI (p q most a b c d : Int) : Prop where
  b1 : 1 ≤ b
  d1 : 1 ≤ d
  bm : b ≤ most
  dm : d ≤ most
  det : c * b - a * d = 1
  lo : 0 ≤ p * b - a * q
  hi : 0 ≤ c * q - p * d
  a0 : 0 ≤ a
  ab : a ≤ b
  c0 : 0 ≤ c
  cd : c ≤ d
theorem NrI.start {p q most : Int} (hp : 0 ≤ p) (hq : p < q) (hm : 1 ≤ most) : NrI p q most 0 1 1 1 := ⟨by omega, by omega, by omega, by omega, by omega, by omega, by omega, by omega, by omega, by omega, by omega⟩
theorem low_eq {a b p q : Int} (hb : 1 ≤ b) (hq : 1 ≤ q) (h1 : Int.gcd a b = 1) (h2 : Int.gcd p q = 1) (h : p * b = a * q) : a = p ∧ b = q := by
  have d1 : b ∣ q := by
    have h' : (b.natAbs : Nat) ∣ q.natAbs := by
      refine Nat.Coprime.dvd_of_dvd_mul_left (m := a.natAbs) (show Nat.gcd b.natAbs a.natAbs = 1 by rw [Nat.gcd_comm]; exact h1) ?_
      rw [← Int.natAbs_mul, ← h, Int.natAbs_mul]; exact Nat.dvd_mul_left _ _
    exact Int.natAbs_dvd_natAbs.1 h'
  have d2 : q ∣ b := by
    have h' : (q.natAbs : Nat) ∣ b.natAbs := by
      refine Nat.Coprime.dvd_of_dvd_mul_left (m := p.natAbs) (show Nat.gcd q.natAbs p.natAbs = 1 by rw [Nat.gcd_comm]; exact h2) ?_
      rw [← Int.natAbs_mul, h, Int.natAbs_mul]; exact Nat.dvd_mul_left _ _
    exact Int.natAbs_dvd_natAbs.1 h'
  have l1 := Int.le_of_dvd (by omega) d1
  have l2 := Int.le_of_dvd (by omega) d2
  obtain rfl : b = q := by omega
  exact ⟨(Int.eq_of_mul_eq_mul_right (by omega) h).symm, rfl⟩
theorem NrI.at_lo {p q most a b c d : Int} (h : NrI p q most a b c d) (hq : 1 ≤ q) (hg : Int.gcd p q = 1) (h0 : p * b - a * q = 0) : a = p ∧ b = q :=
  low_eq h.b1 hq (nb_gcd h.det).1 hg (by omega)
theorem NrI.at_hi {p q most a b c d : Int} (h : NrI p q most a b c d) (hq : 1 ≤ q) (hg : Int.gcd p q = 1) (h0 : c * q - p * d = 0) : c = p ∧ d = q :=
  low_eq h.d1 hq (nb_gcd h.det).2 hg (by omega)
theorem min_bd {x y u v : Int} (hy : 1 ≤ y) (hv : 1 ≤ v) (hx : 0 ≤ x) (hu : 0 ≤ u) : 0 ≤ min (x / y) (u / v) ∧ min (x / y) (u / v) * y ≤ x ∧ min (x / y) (u / v) * v ≤ u := by
  have a0 := Int.ediv_nonneg hx (show 0 ≤ y by omega)
  have b0 := Int.ediv_nonneg hu (show 0 ≤ v by omega)
  have a1 := Int.ediv_mul_le x (show y ≠ 0 by omega)
  have b1 := Int.ediv_mul_le u (show v ≠ 0 by omega)
  refine ⟨by omega, ?_, ?_⟩
  · exact Int.le_trans (Int.mul_le_mul_of_nonneg_right (Int.min_le_left _ _) (by omega)) a1
  · exact Int.le_trans (Int.mul_le_mul_of_nonneg_right (Int.min_le_right _ _) (by omega)) b1
theorem NrI.up {p q most a b c d k : Int} (h : NrI p q most a b c d) (hk : 0 ≤ k) (h1 : k * (c * q - p * d) ≤ p * b - a * q) (h2 : k * d ≤ most - b) : NrI p q most (a + k * c) (b + k * d) c d ∧ p * (b + k * d) - (a + k * c) * q = (p * b - a * q) - k * (c * q - p * d) ∧ 0 ≤ k * c ∧ k * c ≤ k * d ∧ 0 ≤ k * d := by
  obtain ⟨b1, d1, bm, dm, det, lo, hi, a0, ab, c0, cd⟩ := h
  have e1 : p * (b + k * d) - (a + k * c) * q = (p * b - a * q) - k * (c * q - p * d) := by grind
  have k1 := Int.mul_nonneg hk (show 0 ≤ d by omega)
  have k2 := Int.mul_nonneg hk c0
  have k3 := Int.mul_le_mul_of_nonneg_left cd hk
  exact ⟨⟨by omega, d1, by omega, dm, by grind, by omega, hi, by omega, by omega, c0, cd⟩, e1, k2, k3, k1⟩
theorem NrI.down {p q most a b c d m : Int} (h : NrI p q most a b c d) (hm : 0 ≤ m) (h1 : m * (p * b - a * q) ≤ c * q - p * d) (h2 : m * b ≤ most - d) : NrI p q most a b (c + m * a) (d + m * b) ∧ (c + m * a) * q - p * (d + m * b) = (c * q - p * d) - m * (p * b - a * q) ∧ 0 ≤ m * a ∧ m * a ≤ m * b ∧ 0 ≤ m * b := by
  obtain ⟨b1, d1, bm, dm, det, lo, hi, a0, ab, c0, cd⟩ := h
  have e1 : (c + m * a) * q - p * (d + m * b) = (c * q - p * d) - m * (p * b - a * q) := by grind
  have k1 := Int.mul_nonneg hm (show 0 ≤ b by omega)
  have k2 := Int.mul_nonneg hm a0
  have k3 := Int.mul_le_mul_of_nonneg_left ab hm
  exact ⟨⟨b1, by omega, bm, by omega, by grind, lo, by omega, a0, ab, by omega, by omega⟩, e1, k2, k3, k1⟩
theorem NrI.stop {p q most a b c d : Int} (h : NrI p q most a b c d) (hl : p * b - a * q ≠ 0) (hh : c * q - p * d ≠ 0) (hk : min ((p * b - a * q) / (c * q - p * d)) ((most - b) / d) = 0) (hm : min ((c * q - p * d) / (p * b - a * q)) ((most - d) / b) = 0) : Nb p q most a b c d := by
  obtain ⟨b1, d1, bm, dm, det, lo, hi, a0, ab, c0, cd⟩ := h
  refine ⟨b1, d1, bm, dm, det, by omega, by omega, ?_⟩
  by_cases hf : most < b + d
  · exact hf
  · have e1 : 1 ≤ (most - b) / d := Int.le_ediv_of_mul_le (by omega) (by omega)
    have e2 : 1 ≤ (most - d) / b := Int.le_ediv_of_mul_le (by omega) (by omega)
    by_cases hc : c * q - p * d ≤ p * b - a * q
    · have : 1 ≤ (p * b - a * q) / (c * q - p * d) := Int.le_ediv_of_mul_le (by omega) (by omega)
      omega
    · have : 1 ≤ (c * q - p * d) / (p * b - a * q) := Int.le_ediv_of_mul_le (by omega) (by omega)
      omega
/-- What the neighbours of n / d are: the ratio itself, or both neighbours. -/
def NbR (n d m a b c e : Int) : Prop := (d ≤ m ∧ a = n ∧ b = d ∧ c = n ∧ e = d) ∨ Nb n d m a b c e
theorem NbR.unique {n d m a b c e a' b' c' e' : Int} (hd : 1 ≤ d) (h : NbR n d m a b c e) (h' : NbR n d m a' b' c' e') : a = a' ∧ b = b' ∧ c = c' ∧ e = e' := by
  rcases h with ⟨h0, h1, h2, h3, h4⟩ | h
  · rcases h' with ⟨g0, g1, g2, g3, g4⟩ | h'
    · omega
    · have := h'.lt; omega
  · rcases h' with ⟨g0, g1, g2, g3, g4⟩ | h'
    · have := h.lt; omega
    · obtain ⟨⟨u1, u2⟩, u3, u4⟩ := h.unique hd h'
      exact ⟨u1, u2, u3, u4⟩
/-- A whole part is added to both. -/
theorem Nb.shift {p q m a b c e k : Int} (h : Nb p q m a b c e) : Nb (p + k * q) q m (k * b + a) b (k * e + c) e := by
  obtain ⟨b1, e1, bm, em, det, lo, hi, far⟩ := h
  refine ⟨b1, e1, bm, em, by grind, ?_, ?_, far⟩
  · have i1 : (p + k * q) * b - (k * b + a) * q = p * b - a * q := by grind
    omega
  · have i1 : (k * e + c) * q - (p + k * q) * e = c * q - p * e := by grind
    omega
theorem NbR.shift {p q m a b c e k n : Int} (h : NbR p q m a b c e) (hn : n = p + k * q) : NbR n q m (k * b + a) b (k * e + c) e := by
  subst hn
  rcases h with ⟨h0, rfl, rfl, rfl, rfl⟩ | h
  · exact .inl ⟨h0, by omega, rfl, by omega, rfl⟩
  · exact .inr h.shift
/-- Both are ratios. -/
theorem NbR.ok {n d m a b c e : Int} (hok : okR n d = true) (hm : m ≤ 1000000000) (h : NbR n d m a b c e) : okR a b = true ∧ okR c e = true := by
  obtain ⟨o1, o2, o3, o4, o5⟩ := okR_true.1 hok
  rcases h with ⟨h0, rfl, rfl, rfl, rfl⟩ | h
  · exact ⟨hok, hok⟩
  · obtain ⟨g1, g2⟩ := nb_gcd h.det
    obtain ⟨n1, n2⟩ := h.bd o1
    have := h.b1
    have := h.e1
    have := h.bm
    have := h.em
    exact ⟨okR_true.2 ⟨by omega, by omega, by omega, by omega, g1⟩, okR_true.2 ⟨by omega, by omega, by omega, by omega, g2⟩⟩
end Go.Proofs.Ytldjplopglpgfaa

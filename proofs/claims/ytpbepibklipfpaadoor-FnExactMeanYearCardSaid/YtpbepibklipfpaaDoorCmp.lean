/-
  The plain arithmetic of comparing, and the contract of impl.CompareRatio.
-/
import Derived.Test.YtpbepibklipfpaaDoorRat
namespace Go.Proofs.YtpbepibklipfpaaDoor
open Go.RowKit

theorem mul_bd {a b : Int} (h1 : -1000000000 ≤ a) (h2 : a ≤ 1000000000) (h3 : -1000000000 ≤ b) (h4 : b ≤ 1000000000) : -1000000000000000000 ≤ a * b ∧ a * b ≤ 1000000000000000000 := by
  have e : (a * b).natAbs ≤ 1000000000 * 1000000000 := by rw [Int.natAbs_mul]; exact Nat.mul_le_mul (by omega) (by omega)
  omega

theorem dvd_of_gcd {d n q : Int} (h : d ∣ n * q) (g : Int.gcd n d = 1) : d ∣ q := by
  have h' := Int.natAbs_dvd_natAbs.2 h
  rw [Int.natAbs_mul] at h'
  have g' : Nat.Coprime d.natAbs n.natAbs := by rw [Nat.coprime_comm]; exact g
  exact Int.natAbs_dvd_natAbs.1 (g'.dvd_of_dvd_mul_left h')

/-- Two ratios in lowest terms with equal values have equal terms. -/
theorem cross_eq {n d p q : Int} (h1 : okR n d = true) (h2 : okR p q = true) (h : n * q = p * d) : n = p ∧ d = q := by
  obtain ⟨a1, a2, a3, a4, a5⟩ := okR_true.1 h1
  obtain ⟨b1, b2, b3, b4, b5⟩ := okR_true.1 h2
  have d1 : d ∣ n * q := ⟨p, by rw [h, Int.mul_comm]⟩
  have d2 : d ∣ q := dvd_of_gcd d1 a5
  have d3 : q ∣ p * d := ⟨n, by rw [← h, Int.mul_comm]⟩
  have d4 : q ∣ d := dvd_of_gcd d3 b5
  have e1 : d = q := by
    have := Int.le_of_dvd (by omega) d2
    have := Int.le_of_dvd (by omega) d4
    omega
  subst e1
  exact ⟨Int.eq_of_mul_eq_mul_right (by omega) h, rfl⟩

/-- How two ratios compare; 0 if one is not valid. -/
def cmpV (n d p q : Int) : Int := if n * q < p * d then -1 else if p * d < n * q then 1 else 0
def cmpR (n d p q : Int) : Int := if okR n d = true ∧ okR p q = true then cmpV n d p q else 0
theorem cmpR_no1 {n d p q : Int} (h : okR n d = false) : 0 = cmpR n d p q := by simp [cmpR, h]
theorem cmpR_no2 {n d p q : Int} (h : okR p q = false) : 0 = cmpR n d p q := by simp [cmpR, h]
theorem cmpR_yes {n d p q : Int} (h1 : okR n d = true) (h2 : okR p q = true) : cmpV n d p q = cmpR n d p q := by simp [cmpR, h1, h2]
theorem cmpV_lt {n d p q : Int} (h : n * q < p * d) : -1 = cmpV n d p q := by simp [cmpV, h]
theorem cmpV_gt {n d p q : Int} (h : p * d < n * q) : 1 = cmpV n d p q := by simp [cmpV, h]; omega
theorem cmpV_eq {n d p q : Int} (h1 : ¬ n * q < p * d) (h2 : ¬ p * d < n * q) : 0 = cmpV n d p q := by simp [cmpV, h1, h2]

end Go.Proofs.YtpbepibklipfpaaDoor

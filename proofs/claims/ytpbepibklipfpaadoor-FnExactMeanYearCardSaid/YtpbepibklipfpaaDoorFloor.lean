/-
  Contracts of rounding down: spec.l02Down, impl.FloorRatio, spec.FloorRatio.
-/
import Derived.Test.YtpbepibklipfpaaDoorRat
namespace Go.Proofs.YtpbepibklipfpaaDoor
open Go.RowKit

theorem neg_div (n d : Int) (hd : 1 ≤ d) (hn : n < 0) : (n.tmod d < 0 → n.tdiv d - 1 = n / d) ∧ (¬ n.tmod d < 0 → n.tdiv d = n / d) ∧ n ≤ n.tdiv d ∧ n.tdiv d ≤ 0 ∧ n ≤ n / d ∧ n / d ≤ 0 := by
  obtain ⟨m, rfl⟩ : ∃ m : Int, n = -m := ⟨-n, by omega⟩
  have hm : 0 < m := by omega
  rw [Int.neg_tdiv, Int.neg_tmod, Int.tdiv_eq_ediv_of_nonneg (by omega), Int.tmod_eq_emod_of_nonneg (by omega)]
  have e := Int.mul_ediv_add_emod m d
  have r0 := Int.emod_nonneg m (show d ≠ 0 by omega)
  have r1 := Int.emod_lt_of_pos m (show 0 < d by omega)
  have q0 := Int.ediv_nonneg (show 0 ≤ m by omega) (show 0 ≤ d by omega)
  have q1 := Int.ediv_le_self d (show 0 ≤ m by omega)
  generalize m / d = q at *
  generalize m % d = r at *
  have c1 : 0 < r → (-m) / d = -q - 1 := by
    intro hr
    have := (Int.ediv_emod_unique (a := -m) (b := d) (r := d - r) (q := -q - 1) (by omega)).2 ⟨by rw [← e]; simp only [Int.mul_sub, Int.mul_neg, Int.mul_one]; omega, by omega, by omega⟩
    exact this.1
  have c2 : r = 0 → (-m) / d = -q := by
    intro hr
    have := (Int.ediv_emod_unique (a := -m) (b := d) (r := 0) (q := -q) (by omega)).2 ⟨by rw [← e, hr]; simp only [Int.mul_neg]; omega, by omega, by omega⟩
    exact this.1
  have c3 : q = m → r = 0 := by
    intro h; subst h
    rcases Int.lt_or_eq_of_le r0 with h | h
    · exfalso
      have : q ≤ d * q := by
        have := Int.mul_le_mul_of_nonneg_right hd q0
        omega
      omega
    · exact h.symm
  by_cases hr : r = 0
  · rw [c2 hr]; omega
  · rw [c1 (by omega)]
    have : q ≠ m := fun h => hr (c3 h)
    omega

/-- The greatest integer that is at most a ratio; 0 if it is not valid. -/
def flo (n d : Int) : Int := if okR n d = true then n / d else 0
theorem flo_yes {n d : Int} (h : okR n d = true) : n / d = flo n d := by simp [flo, h]
theorem flo_no {n d : Int} (h : okR n d = false) : 0 = flo n d := by simp [flo, h]

end Go.Proofs.YtpbepibklipfpaaDoor

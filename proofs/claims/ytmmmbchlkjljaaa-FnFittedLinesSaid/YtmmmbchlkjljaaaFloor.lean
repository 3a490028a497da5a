/-
  Contracts of rounding down: spec.l02Down, impl.FloorRatio, spec.FloorRatio.
-/
import Derived.Test.YtmmmbchlkjljaaaRat
namespace Go.Proofs.Ytmmmbchlkjljaaa
open Go.RowKit

theorem neg_div (n d : Int) (hd : 1 ≤ d) (hn : n < 0) : (n.tmod d < 0 → n.tdiv d - 1 = n / d) ∧ (¬ n.tmod d < 0 → n.tdiv d = n / d) ∧ n ≤ n.tdiv d ∧ n.tdiv d ≤ 0 ∧ n ≤ n / d ∧ n / d ≤ 0 := by
  obtain ⟨m, rfl⟩ : ∃ m : Int, n = -m := ⟨-n, by omega⟩
  have hm : 0 < m := by omega
  rw [Int.neg_tdiv, Int.neg_tmod, Int.tdiv_eq_ediv_of_nonneg (by omega), Int.tmod_eq_emod_of_nonneg (by omega)]
  have e := Int.mul_ediv_add_emod m d
  have r0 := Int.emod_nonneg m (show d ≠ 0 by omega)
  have r1 := Int.emod_lt_of_pos m (show 0 < d by omega)
  have q0 := Int.ediv_nonneg (show 0 ≤ m by omega) (show 0 ≤ d by omega)
  have q1 := Int.ediv_le_self d (show 0 ≤ m by omega)
  generalize m / d = q at *
  generalize m % d = r at *
  have c1 : 0 < r → (-m) / d = -q - 1 := by
    intro hr
    have := (Int.ediv_emod_unique (a := -m) (b := d) (r := d - r) (q := -q - 1) (by omega)).2 ⟨by rw [← e]; simp only [Int.mul_sub, Int.mul_neg, Int.mul_one]; omega, by omega, by omega⟩
    exact this.1
  have c2 : r = 0 → (-m) / d = -q := by
    intro hr
    have := (Int.ediv_emod_unique (a := -m) (b := d) (r := 0) (q := -q) (by omega)).2 ⟨by rw [← e, hr]; simp only [Int.mul_neg]; omega, by omega, by omega⟩
    exact this.1
  have c3 : q = m → r = 0 := by
    intro h; subst h
    rcases Int.lt_or_eq_of_le r0 with h | h
    · exfalso
      have : q ≤ d * q := by
        have := Int.mul_le_mul_of_nonneg_right hd q0
        omega
      omega
    · exact h.symm
  by_cases hr : r = 0
  · rw [c2 hr]; omega
  · rw [c1 (by omega)]
    have : q ≠ m := fun h => hr (c3 h)
    omega

set_option maxHeartbeats 400000 in
theorem l02Down_any (n d : Int) (w : World) (h1 : -9223372036854775808 < n) (h2 : n ≤ 9223372036854775807) (hd : 1 ≤ d) :
    Calls Try.prog 93 #[.int .i64 n, .int .i64 d] w fun e w' => e = .returned (.int .i64 (n / d)) ∧ w = w' := by
  have hz : (d == 0) = false := by simp; omega
  by_cases hn : 0 ≤ n
  · have r0 := Int.emod_nonneg n (show d ≠ 0 by omega)
    have q0 := Int.ediv_nonneg hn (show 0 ≤ d by omega)
    have q1 := Int.ediv_le_self d hn
    go_enter Try.func93, Try.ntmps93
    go_wp2
    go_ret
    exact ⟨rfl, rfl⟩
  · obtain ⟨a1, a2, a3, a4, a5, a6⟩ := neg_div n d hd (by omega)
    by_cases hr : n.tmod d < 0
    · have H := Lib.hid (a1 hr)
      have b1 := a1 hr
      have c1 : -9223372036854775808 ≤ n.tdiv d - 1 := by omega
      clear a1 a2 b1 a5 a6
      go_enter Try.func93, Try.ntmps93
      go_wp2
      go_ret
      exact ⟨ret_int H.out, rfl⟩
    · have H := Lib.hid (a2 hr)
      clear a1 a2 a5 a6
      go_enter Try.func93, Try.ntmps93
      go_wp2
      go_ret
      exact ⟨ret_int H.out, rfl⟩

/-- The greatest integer that is at most a ratio; 0 if it is not valid. -/
def flo (n d : Int) : Int := if okR n d = true then n / d else 0
theorem flo_yes {n d : Int} (h : okR n d = true) : n / d = flo n d := by simp [flo, h]
theorem flo_no {n d : Int} (h : okR n d = false) : 0 = flo n d := by simp [flo, h]

end Go.Proofs.Ytmmmbchlkjljaaa

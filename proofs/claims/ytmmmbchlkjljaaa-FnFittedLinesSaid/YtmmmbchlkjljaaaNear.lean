/-
  Rounding to the nearest integer: the plain arithmetic, and the contract of spec.l02Near.
-/
import Derived.Test.YtmmmbchlkjljaaaFloor
import Derived.Test.YtmmmbchlkjljaaaCmp
namespace Go.Proofs.Ytmmmbchlkjljaaa
open Go.RowKit

/-- The integer nearest to n / d, the greater one of two. -/
def near (n d : Int) : Int := (2 * n + d) / (2 * d)

theorem div_is {a b q r : Int} (hb : 0 < b) (h : a = b * q + r) (h0 : 0 ≤ r) (h1 : r < b) : a / b = q := by
  have := (Int.ediv_emod_unique (a := a) (b := b) (r := r) (q := q) hb).2 ⟨by omega, h0, h1⟩
  exact this.1

theorem near_pos {m d : Int} (hd : 1 ≤ d) : (2 * (m % d) < d → near m d = m / d) ∧ (d ≤ 2 * (m % d) → near m d = m / d + 1) := by
  have e := Int.mul_ediv_add_emod m d
  have r0 := Int.emod_nonneg m (show d ≠ 0 by omega)
  have r1 := Int.emod_lt_of_pos m (show 0 < d by omega)
  generalize m / d = q at *
  generalize m % d = r at *
  have e2 : d * (q + 1) = d * q + d := by rw [Int.mul_add, Int.mul_one]
  have e3 : d * (-q) = -(d * q) := Int.mul_neg d q
  have e4 : d * (-(q + 1)) = -(d * q) - d := by rw [Int.mul_neg, e2]; omega
  unfold near
  refine ⟨fun h => ?_, fun h => ?_⟩
  · exact div_is (r := 2 * r + d) (by omega) (by rw [← e, Int.mul_assoc]; omega) (by omega) (by omega)
  · exact div_is (r := 2 * r - d) (by omega) (by rw [← e, Int.mul_assoc]; omega) (by omega) (by omega)

theorem near_neg {m d : Int} (hd : 1 ≤ d) : (2 * (m % d) ≤ d → near (-m) d = -(m / d)) ∧ (d < 2 * (m % d) → near (-m) d = -(m / d + 1)) := by
  have e := Int.mul_ediv_add_emod m d
  have r0 := Int.emod_nonneg m (show d ≠ 0 by omega)
  have r1 := Int.emod_lt_of_pos m (show 0 < d by omega)
  generalize m / d = q at *
  generalize m % d = r at *
  have e2 : d * (q + 1) = d * q + d := by rw [Int.mul_add, Int.mul_one]
  have e3 : d * (-q) = -(d * q) := Int.mul_neg d q
  have e4 : d * (-(q + 1)) = -(d * q) - d := by rw [Int.mul_neg, e2]; omega
  unfold near
  refine ⟨fun h => ?_, fun h => ?_⟩
  · exact div_is (r := d - 2 * r) (by omega) (by rw [← e, Int.mul_assoc]; omega) (by omega) (by omega)
  · exact div_is (r := d - 2 * r + 2 * d) (by omega) (by rw [← e, Int.mul_assoc]; omega) (by omega) (by omega)

theorem near_bd {n d : Int} (hd : 1 ≤ d) (hd' : d ≤ 1000000000) (h1 : -1000000000000000000 ≤ n) (h2 : n ≤ 1000000000000000000) : -1000000000000000001 ≤ near n d ∧ near n d ≤ 1000000000000000001 := by
  unfold near
  refine ⟨?_, ?_⟩
  · refine Int.le_ediv_of_mul_le (by omega) ?_
    omega
  · refine Int.lt_add_one_iff.1 (Int.ediv_lt_of_lt_mul (by omega) ?_)
    omega

theorem l02Near_any (n d : Int) (w : World) (h1 : -1000000000000000000 ≤ n) (h2 : n ≤ 1000000000000000000) (hd : 1 ≤ d) (hd' : d ≤ 1000000000) :
    Calls Try.prog 81 #[.int .i64 n, .int .i64 d] w fun e w' => e = .returned (.int .i64 (near n d)) ∧ w = w' := by
  go_enter Try.func81, Try.ntmps81
  go_wp2_with fail
  refine (l02Down_any _ _ _ (by omega) (by omega) (by omega)).mono ?_
  rintro e w2 ⟨rfl, rfl⟩
  go_wp2_with fail
  go_ret
  exact ⟨rfl, rfl⟩
end Go.Proofs.Ytmmmbchlkjljaaa

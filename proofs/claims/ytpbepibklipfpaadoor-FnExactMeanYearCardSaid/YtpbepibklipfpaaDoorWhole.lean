/-
  Contracts of spec.l00Min, spec.l00Max, spec.l03Whole.
-/
import Derived.Test.YtpbepibklipfpaaDoorFloor
namespace Go.Proofs.YtpbepibklipfpaaDoor
open Go.RowKit

/-- The least integer that is not less than a ratio. -/
def upI (n d : Int) : Int := -((-n) / d)
theorem up_bd {n d : Int} (hd : 1 ≤ d) : (upI n d - 1) * d < n ∧ n ≤ upI n d * d := by
  have e := Int.mul_ediv_add_emod (-n) d
  have r0 := Int.emod_nonneg (-n) (show d ≠ 0 by omega)
  have r1 := Int.emod_lt_of_pos (-n) (show 0 < d by omega)
  have i1 : (upI n d - 1) * d = -(d * (-n / d)) - d := by unfold upI; grind
  have i2 : upI n d * d = -(d * (-n / d)) := by unfold upI; grind
  omega
theorem div_bd {n d : Int} (hd : 1 ≤ d) : n / d * d ≤ n ∧ n < (n / d + 1) * d := by
  have e := Int.mul_ediv_add_emod n d
  have r0 := Int.emod_nonneg n (show d ≠ 0 by omega)
  have r1 := Int.emod_lt_of_pos n (show 0 < d by omega)
  have i1 : n / d * d = d * (n / d) := by grind
  have i2 : (n / d + 1) * d = d * (n / d) + d := by grind
  omega
theorem div_lim {n d : Int} (hd : 1 ≤ d) (h1 : -1000000000 ≤ n) (h2 : n ≤ 1000000000) : -1000000000 ≤ n / d ∧ n / d ≤ 1000000000 :=
  ⟨Int.le_ediv_of_mul_le (by omega) (by have : -1000000000 * d ≤ -1000000000 * 1 := Int.mul_le_mul_of_nonpos_left (by omega) hd
                                        omega), by
    by_cases h : 0 ≤ n
    · have := Int.ediv_le_self d h; omega
    · have := Int.ediv_neg_of_neg_of_pos (show n < 0 by omega) (show 0 < d by omega); omega⟩

end Go.Proofs.YtpbepibklipfpaaDoor

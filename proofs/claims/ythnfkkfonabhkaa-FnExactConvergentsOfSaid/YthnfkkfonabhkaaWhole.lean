/-
  Contracts of spec.l00Min, spec.l00Max, spec.l03Whole.
-/
import Derived.Test.YthnfkkfonabhkaaFloor
namespace Go.Proofs.Ythnfkkfonabhkaa
open Go.RowKit

theorem l00Min_any (a b : Int) (w : World) :
    Calls Try.prog 81 #[.int .i64 a, .int .i64 b] w fun e w' => e = .returned (.int .i64 (min a b)) ∧ w = w' := by
  by_cases h : a < b
  · go_enter Try.func81, Try.ntmps81
    go_wp2_with fail
    go_ret
    exact ⟨ret_int (by omega), rfl⟩
  · go_enter Try.func81, Try.ntmps81
    go_wp2_with fail
    go_ret
    exact ⟨ret_int (by omega), rfl⟩
theorem l00Max_any (a b : Int) (w : World) :
    Calls Try.prog 82 #[.int .i64 a, .int .i64 b] w fun e w' => e = .returned (.int .i64 (max a b)) ∧ w = w' := by
  by_cases h : a < b
  · go_enter Try.func82, Try.ntmps82
    go_wp2_with fail
    go_ret
    exact ⟨ret_int (by omega), rfl⟩
  · by_cases h2 : b < a
    · go_enter Try.func82, Try.ntmps82
      go_wp2_with fail
      go_ret
      exact ⟨ret_int (by omega), rfl⟩
    · obtain rfl : a = b := by omega
      go_enter Try.func82, Try.ntmps82
      go_wp2_with fail
      go_ret
      exact ⟨ret_int (by omega), rfl⟩

/-- The least integer that is not less than a ratio. -/
def upI (n d : Int) : Int := -((-n) / d)
theorem up_bd {n d : Int} (hd : 1 ≤ d) : (upI n d - 1) * d < n ∧ n ≤ upI n d * d := by
  have e := Int.mul_ediv_add_emod (-n) d
  have r0 := Int.emod_nonneg (-n) (show d ≠ 0 by omega)
  have r1 := Int.emod_lt_of_pos (-n) (show 0 < d by omega)
  have i1 : (upI n d - 1) * d = -(d * (-n / d)) - d := by unfold upI; grind
  have i2 : upI n d * d = -(d * (-n / d)) := by unfold upI; grind
  omega
theorem div_bd {n d : Int} (hd : 1 ≤ d) : n / d * d ≤ n ∧ n < (n / d + 1) * d := by
  have e := Int.mul_ediv_add_emod n d
  have r0 := Int.emod_nonneg n (show d ≠ 0 by omega)
  have r1 := Int.emod_lt_of_pos n (show 0 < d by omega)
  have i1 : n / d * d = d * (n / d) := by grind
  have i2 : (n / d + 1) * d = d * (n / d) + d := by grind
  omega
theorem div_lim {n d : Int} (hd : 1 ≤ d) (h1 : -1000000000 ≤ n) (h2 : n ≤ 1000000000) : -1000000000 ≤ n / d ∧ n / d ≤ 1000000000 :=
  ⟨Int.le_ediv_of_mul_le (by omega) (by have : -1000000000 * d ≤ -1000000000 * 1 := Int.mul_le_mul_of_nonpos_left (by omega) hd
                                        omega), by
    by_cases h : 0 ≤ n
    · have := Int.ediv_le_self d h; omega
    · have := Int.ediv_neg_of_neg_of_pos (show n < 0 by omega) (show 0 < d by omega); omega⟩

set_option maxHeartbeats 1000000 in
theorem whole_no (n d p q : Int) (w : World) (h1 : okR n d = true) (h2 : okR p q = true) (h : p / q < upI n d) :
    Calls Try.prog 77 #[.agg #[.int .i64 n, .int .i64 d], .agg #[.int .i64 p, .int .i64 q]] w fun e w' => e = .returned (.tuple #[.int .i64 0, .bool false]) ∧ Below w.heap.size w w' := by
  obtain ⟨a1, a2, a3, a4⟩ := okR_bd h1
  obtain ⟨b1, b2, b3, b4⟩ := okR_bd h2
  obtain ⟨c1, c2⟩ := div_lim (n := -n) a1 (by omega) (by omega)
  obtain ⟨d1, d2⟩ := div_lim b1 b3 b4
  clear h1 h2
  unfold upI at h
  go_enter Try.func77, Try.ntmps77
  go_wp2_with (go_at_call 40; ((with_reducible refine (l02Down_any _ _ _ (by omega) (by omega) (by omega)).mono ?_); rintro e w1 ⟨rfl, rfl⟩))
  go_ret2
  exact ⟨rfl, bA (bA (bR _) _) _⟩
set_option maxHeartbeats 1000000 in
theorem whole_yes (n d p q : Int) (w : World) (h1 : okR n d = true) (h2 : okR p q = true) (h : upI n d ≤ p / q) :
    Calls Try.prog 77 #[.agg #[.int .i64 n, .int .i64 d], .agg #[.int .i64 p, .int .i64 q]] w fun e w' => e = .returned (.tuple #[.int .i64 (max (upI n d) (min (p / q) 0)), .bool true]) ∧ Below w.heap.size w w' := by
  obtain ⟨a1, a2, a3, a4⟩ := okR_bd h1
  obtain ⟨b1, b2, b3, b4⟩ := okR_bd h2
  obtain ⟨c1, c2⟩ := div_lim (n := -n) a1 (by omega) (by omega)
  obtain ⟨d1, d2⟩ := div_lim b1 b3 b4
  clear h1 h2
  unfold upI at h ⊢
  go_enter Try.func77, Try.ntmps77
  go_wp2_with (first | (go_at_call 40; ((with_reducible refine (l02Down_any _ _ _ (by omega) (by omega) (by omega)).mono ?_); rintro e w1 ⟨rfl, rfl⟩)) | (go_at_call 81; ((with_reducible refine (l00Min_any _ _ _).mono ?_); rintro e w1 ⟨rfl, rfl⟩)) | (go_at_call 82; ((with_reducible refine (l00Max_any _ _ _).mono ?_); rintro e w1 ⟨rfl, rfl⟩)))
  go_ret2
  exact ⟨rfl, bA (bA (bR _) _) _⟩
end Go.Proofs.Ythnfkkfonabhkaa

/-
  The contract of impl.Ratio.scaled at 1 and of impl.nearestOf, for great quotients and divisors.
-/
import Derived.Test.YtmmmbchlkjljaaaScl
namespace Go.Proofs.Ytmmmbchlkjljaaa
open Go.RowKit

set_option maxHeartbeats 400000 in
theorem scaled1w_any (n d : Int) (w : World) (a1 : 1 ≤ d) (a2 : d ≤ 1000000000000000000) (a3 : -1000000000000000000 ≤ n) (a4 : n ≤ 1000000000000000000) :
    Calls Try.prog 106 #[.agg #[.int .i64 n, .int .i64 d], .int .i64 1] w fun e w' => e = .returned (.int .i64 (near n d)) ∧ Below w.heap.size w w' := by
  have hd : ((d.natAbs : Nat) : Int) = d := by omega
  have h1 : (((1 : Int).natAbs : Nat) : Int) = 1 := rfl
  have m1 : 0 ≤ ((n.natAbs : Nat) : Int) := by omega
  have m2 : ((n.natAbs : Nat) : Int) ≤ 1000000000000000000 := by omega
  have q0 := Int.ediv_nonneg m1 (show 0 ≤ d by omega)
  have q1 := Int.ediv_le_self d m1
  have r0 := Int.emod_nonneg ((n.natAbs : Nat) : Int) (show d ≠ 0 by omega)
  have r1 := Int.emod_lt_of_pos ((n.natAbs : Nat) : Int) (show 0 < d by omega)
  have HP := Lib.hid (near_pos (m := ((n.natAbs : Nat) : Int)) a1)
  have HN := Lib.hid (near_neg (m := ((n.natAbs : Nat) : Int)) a1)
  have HA := Lib.hid (show (0 ≤ n → ((n.natAbs : Nat) : Int) = n) ∧ (n < 0 → -((n.natAbs : Nat) : Int) = n) from ⟨fun h => by omega, fun h => by omega⟩)
  go_enter Try.func106, Try.ntmps106
  go_wp2_with fail
  refine (magnitude_any _ _ (by omega) (by omega)).mono ?_
  rintro e w1 ⟨rfl, rfl⟩
  go_wp2_with fail
  go_quiet (first | (go_at_call 57; exact quiet_eq (magnitude_any _ _ (by omega) (by omega))) | (go_at_call 113; exact quiet_eq (mul64_one _ _ (by omega) (by omega))))
  go_wp2_with fail
  refine (div64_zero1 _ _ _ m1 m2 a1).mono ?_
  rintro e w2 ⟨rfl, nq2, rfl⟩
  clear hd
  generalize ((n.natAbs : Nat) : Int) = m at *
  generalize m / d = q' at *
  generalize m % d = r at *
  by_cases hn : n < 0
  · have hn' : (decide (n < 0)) = true := by simpa using hn
    have HS' := Lib.hid (HA.out.2 hn)
    by_cases hc : d < 2 * r
    · go_wp2_with fail
      go_ret
      exact ⟨ret_int (by rw [← HS'.out, HN.out.2 hc]), bD (bA (bR _) _) _⟩
    · go_wp2_with fail
      go_ret
      exact ⟨ret_int (by rw [← HS'.out, HN.out.1 (by omega)]), bD (bA (bR _) _) _⟩
  · have hn' : (decide (n < 0)) = false := by simpa using hn
    have HS' := Lib.hid (HA.out.1 (by omega))
    by_cases hc : d ≤ 2 * r
    · go_wp2_with fail
      go_ret
      exact ⟨ret_int (by rw [← HS'.out, HP.out.2 hc]), bD (bA (bR _) _) _⟩
    · go_wp2_with fail
      go_ret
      exact ⟨ret_int (by rw [← HS'.out, HP.out.1 (by omega)]), bD (bA (bR _) _) _⟩
theorem nearestw_any (n d : Int) (w : World) (a1 : 1 ≤ d) (a2 : d ≤ 1000000000000000000) (a3 : -1000000000000000000 ≤ n) (a4 : n ≤ 1000000000000000000) :
    Calls Try.prog 91 #[.int .i64 n, .int .i64 d] w fun e w' => e = .returned (.int .i64 (near n d)) ∧ Below w.heap.size w w' := by
  go_enter Try.func91, Try.ntmps91
  go_wp2_with fail
  refine (scaled1w_any _ _ _ a1 a2 a3 a4).mono ?_
  rintro e w1 ⟨rfl, hb⟩
  go_wp2_with fail
  go_ret
  exact ⟨rfl, by first | exact hb | exact bT (bA (bR _) _) hb⟩
end Go.Proofs.Ytmmmbchlkjljaaa

/-
  The contract of impl.Ratio.scaled at 1, for greater quotients.
-/
import Derived.Test.YtmmmbchlkjljaaaNear
import Derived.Test.YtmmmbchlkjljaaaShelf
import Derived.Test.YtmmmbchlkjljaaaRat
namespace Go.Proofs.Ytmmmbchlkjljaaa
open Go.RowKit

theorem mul64_one (b : Int) (w : World) (h3 : 0 ≤ b) (h4 : b ≤ 1000000000000000000) :
    Calls Try.prog 113 #[.int .u64 1, .int .u64 b] w fun e w' => e = .returned (.tuple #[.int .u64 0, .int .u64 b]) ∧ w = w' := by
  obtain ⟨y, rfl⟩ := Int.eq_ofNat_of_zero_le h3
  have e1 : 1 * y / 18446744073709551616 = 0 := Nat.div_eq_of_lt (by omega)
  have e2 : 1 * y % 18446744073709551616 = y := by rw [Nat.one_mul]; exact Nat.mod_eq_of_lt (by omega)
  refine (Try.bits_Mul64 1 y (by omega) (by omega) w).mono ?_
  rintro e w' ⟨rfl, rfl⟩
  rw [e1, e2]
  exact ⟨rfl, rfl⟩
set_option maxHeartbeats 400000 in
set_option maxRecDepth 100000 in
theorem div64_zero1 (lo y : Int) (w : World) (h1 : 0 ≤ lo) (h1' : lo ≤ 1000000000000000000) (h2 : 1 ≤ y) :
    Calls Try.prog 114 #[.int .u64 0, .int .u64 lo, .int .u64 y] w fun e w' => e = .returned (.tuple #[.int .u64 (lo / y), .int .u64 (lo % y)]) ∧ ∃ n, w' = w.drewN n := by
  have hz : (y == 0) = false := by simp; omega
  go_enter Try.func114, Try.ntmps114
  go_wp2_with fail
  go_quiet (fail)
  go_wp2_with fail
  go_ret2
  exact ⟨rfl, nq, rfl⟩
set_option maxHeartbeats 400000 in
theorem scaled1_any (n d : Int) (w : World) (a1 : 1 ≤ d) (a2 : d ≤ 1000000000) (a3 : -1000000000000000000 ≤ n) (a4 : n ≤ 1000000000000000000) :
    Calls Try.prog 106 #[.agg #[.int .i64 n, .int .i64 d], .int .i64 1] w fun e w' => e = .returned (.int .i64 (near n d)) ∧ Below w.heap.size w w' := by
  have hd : ((d.natAbs : Nat) : Int) = d := by omega
  have h1 : (((1 : Int).natAbs : Nat) : Int) = 1 := rfl
  have m1 : 0 ≤ ((n.natAbs : Nat) : Int) := by omega
  have m2 : ((n.natAbs : Nat) : Int) ≤ 1000000000000000000 := by omega
  have q0 := Int.ediv_nonneg m1 (show 0 ≤ d by omega)
  have q1 := Int.ediv_le_self d m1
  have r0 := Int.emod_nonneg ((n.natAbs : Nat) : Int) (show d ≠ 0 by omega)
  have r1 := Int.emod_lt_of_pos ((n.natAbs : Nat) : Int) (show 0 < d by omega)
  have HP := Lib.hid (near_pos (m := ((n.natAbs : Nat) : Int)) a1)
  have HN := Lib.hid (near_neg (m := ((n.natAbs : Nat) : Int)) a1)
  have HA := Lib.hid (show (0 ≤ n → ((n.natAbs : Nat) : Int) = n) ∧ (n < 0 → -((n.natAbs : Nat) : Int) = n) from ⟨fun h => by omega, fun h => by omega⟩)
  go_enter Try.func106, Try.ntmps106
  go_wp2_with fail
  refine (magnitude_any _ _ (by omega) (by omega)).mono ?_
  rintro e w1 ⟨rfl, rfl⟩
  go_wp2_with fail
  go_quiet (first | (go_at_call 57; exact quiet_eq (magnitude_any _ _ (by omega) (by omega))) | (go_at_call 113; exact quiet_eq (mul64_one _ _ (by omega) (by omega))))
  go_wp2_with fail
  refine (div64_zero1 _ _ _ m1 m2 a1).mono ?_
  rintro e w2 ⟨rfl, nq2, rfl⟩
  clear hd
  generalize ((n.natAbs : Nat) : Int) = m at *
  generalize m / d = q' at *
  generalize m % d = r at *
  by_cases hn : n < 0
  · have hn' : (decide (n < 0)) = true := by simpa using hn
    have HS' := Lib.hid (HA.out.2 hn)
    by_cases hc : d < 2 * r
    · go_wp2_with fail
      go_ret
      exact ⟨ret_int (by rw [← HS'.out, HN.out.2 hc]), bD (bA (bR _) _) _⟩
    · go_wp2_with fail
      go_ret
      exact ⟨ret_int (by rw [← HS'.out, HN.out.1 (by omega)]), bD (bA (bR _) _) _⟩
  · have hn' : (decide (n < 0)) = false := by simpa using hn
    have HS' := Lib.hid (HA.out.1 (by omega))
    by_cases hc : d ≤ 2 * r
    · go_wp2_with fail
      go_ret
      exact ⟨ret_int (by rw [← HS'.out, HP.out.2 hc]), bD (bA (bR _) _) _⟩
    · go_wp2_with fail
      go_ret
      exact ⟨ret_int (by rw [← HS'.out, HP.out.1 (by omega)]), bD (bA (bR _) _) _⟩
theorem nearestOf_any (n d : Int) (w : World) (a1 : 1 ≤ d) (a2 : d ≤ 1000000000) (a3 : -1000000000000000000 ≤ n) (a4 : n ≤ 1000000000000000000) :
    Calls Try.prog 91 #[.int .i64 n, .int .i64 d] w fun e w' => e = .returned (.int .i64 (near n d)) ∧ Below w.heap.size w w' := by
  go_enter Try.func91, Try.ntmps91
  go_wp2_with fail
  refine (scaled1_any _ _ _ a1 a2 a3 a4).mono ?_
  rintro e w1 ⟨rfl, hb⟩
  go_wp2_with fail
  go_ret
  exact ⟨rfl, by first | exact hb | exact bT (bA (bR _) _) hb⟩
end Go.Proofs.Ytmmmbchlkjljaaa

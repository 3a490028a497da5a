/-
  Squares of 128 bits: impl.squareOf, plus, at numbers below 2^63.
-/
import Derived.Test.YtpbmpmcifpgchaaBl
import Derived.Test.YtpbmpmcifpgchaaNear
import Derived.Test.YtpbmpmcifpgchaaEqR
import Derived.Test.YtpbmpmcifpgchaaShelf
import Derived.Laws.Externs
namespace Go.Proofs.Ytpbmpmcifpgchaa
open Go.RowKit

theorem mul64_low (a b : Int) (w : World) (h1 : 0 ≤ a) (h2 : a ≤ 9223372036854775807) (h3 : 0 ≤ b) (h4 : b ≤ 9223372036854775807) (h5 : a * b ≤ 9223372036854775807) :
    Calls Try.prog 84 #[.int .u64 a, .int .u64 b] w fun e w' => e = .returned (.tuple #[.int .u64 0, .int .u64 (a * b)]) ∧ w = w' := by
  have h0 := Int.mul_nonneg h1 h3
  obtain ⟨x, rfl⟩ := Int.eq_ofNat_of_zero_le h1
  obtain ⟨y, rfl⟩ := Int.eq_ofNat_of_zero_le h3
  have e0 : ((x * y : Nat) : Int) = (x : Int) * (y : Int) := by simp
  have e1 : x * y / 18446744073709551616 = 0 := Nat.div_eq_of_lt (by omega)
  have e2 : x * y % 18446744073709551616 = x * y := Nat.mod_eq_of_lt (by omega)
  refine (Try.bits_Mul64 x y (by omega) (by omega) w).mono ?_
  rintro e w' ⟨rfl, rfl⟩
  rw [e1, e2, e0]
  exact ⟨rfl, rfl⟩
theorem add64_low (a b : Int) (w : World) (h1 : 0 ≤ a) (h2 : a ≤ 9223372036854775807) (h3 : 0 ≤ b) (h4 : b ≤ 9223372036854775807) :
    (callFunc 86 #[.int .u64 a, .int .u64 b, .int .u64 0]).run Try.prog w = .ok (.value (.tuple #[.int .u64 (a + b), .int .u64 0])) w := by
  rw [run_callFunc_extern Try.func86 (by kernel_rfl) (by kernel_rfl) (by kernel_rfl) (e := add64Entry) (by kernel_rfl), run_add64 a b 0 h1 h3 (by omega) (by omega)]
  have e1 : (a + b + 0) % 18446744073709551616 = a + b := by omega
  have e2 : (a + b + 0) / 18446744073709551616 = 0 := by omega
  rw [e1, e2]
  rfl
theorem add64_carry (w : World) :
    (callFunc 86 #[.int .u64 0, .int .u64 0, .int .u64 0]).run Try.prog w = .ok (.value (.tuple #[.int .u64 0, .int .u64 0])) w := add64_low 0 0 w (by omega) (by omega) (by omega) (by omega)
def SqIn (n : Int) (w : World) (e : Ending) (w' : World) : Prop := e = .returned (.agg #[.int .u64 0, .int .u64 n]) ∧ Below w.heap.size w w'
theorem abs_sq (n : Int) : ((n.natAbs : Nat) : Int) * ((n.natAbs : Nat) : Int) = n * n := by
  rcases Int.natAbs_eq n with h | h <;> (generalize n.natAbs = m at h; subst h; grind)
set_option maxHeartbeats 400000 in
theorem squareOf_any (n : Int) (w : World) (h1 : -3037000000 ≤ n) (h2 : n ≤ 3037000000) :
    Calls Try.prog 55 #[.int .i64 n] w (SqIn (n * n) w) := by
  have ha : 0 ≤ ((n.natAbs : Nat) : Int) ∧ ((n.natAbs : Nat) : Int) ≤ 3037000000 := by omega
  have hp : ((n.natAbs : Nat) : Int) * ((n.natAbs : Nat) : Int) ≤ 3037000000 * 3037000000 := Int.mul_le_mul ha.2 ha.2 ha.1 (by omega)
  have M := Lib.hid (fun W => mul64_low ((n.natAbs : Nat) : Int) ((n.natAbs : Nat) : Int) W (by omega) (by omega) (by omega) (by omega) (by omega))
  rw [abs_sq] at M
  have A := Lib.hid (fun W => magnitude_any n W (by omega) (by omega))
  clear ha hp h1 h2
  go_enter Try.func55, Try.ntmps55
  go_wp2_with fail
  refine (A.out _).mono ?_
  rintro e w1 ⟨rfl, rfl⟩
  go_wp2_with fail
  refine (A.out _).mono ?_
  rintro e w1 ⟨rfl, rfl⟩
  go_wp2_with fail
  refine (M.out _).mono ?_
  rintro e w1 ⟨rfl, rfl⟩
  go_wp2_with fail
  exact bodyPost_ret (v := .agg #[.int .u64 0, .int .u64 (n * n)]) (by simp [results, Try.results55, go_sem]) rfl ⟨rfl, bA (bR _) _⟩
set_option maxRecDepth 100000 in
set_option maxHeartbeats 400000 in
theorem plus_any (a b : Int) (w : World) (h1 : 0 ≤ a) (h2 : a ≤ 9223372036854775807) (h3 : 0 ≤ b) (h4 : b ≤ 9223372036854775807) :
    Calls Try.prog 56 #[.agg #[.int .u64 0, .int .u64 a], .agg #[.int .u64 0, .int .u64 b]] w (SqIn (a + b) w) := by
  have M := Lib.hid (fun W => add64_low a b W h1 h2 h3 h4)
  clear h1 h2 h3 h4
  go_enter Try.func56, Try.ntmps56
  go_wp2_with fail
  rw [M.out]
  go_wp2_with fail
  rw [add64_carry]
  go_wp2_with fail
  exact bodyPost_ret (v := .agg #[.int .u64 0, .int .u64 (a + b)]) (by simp [results, Try.results56, go_sem]) rfl ⟨rfl, bA (bA (bA (bR _) _) _) _⟩
end Go.Proofs.Ytpbmpmcifpgchaa

/-
  The ratio of two numbers in lowest terms: the plain arithmetic, and the contracts of spec.l02Part and spec.l02Make.
-/
import Derived.Test.YtbkhejideffflaaRat
namespace Go.Proofs.Ytbkhejideffflaa
open Go.RowKit

/-- The terms of n / d in lowest terms, without and with the sign. -/
def lowN (n d : Int) : Int := ((n.natAbs : Nat) : Int) / ((Int.gcd n d : Nat) : Int)
def lowD (n d : Int) : Int := ((d.natAbs : Nat) : Int) / ((Int.gcd n d : Nat) : Int)
def mkN (n d : Int) : Int := if decide (n < 0) != decide (d < 0) then -lowN n d else lowN n d
def lowOk (n d : Int) : Bool := decide (lowN n d ≤ 1000000000 ∧ lowD n d ≤ 1000000000)
theorem lowOk_out {n d : Int} (h : lowOk n d = false) : 1000000000 < lowN n d ∨ 1000000000 < lowD n d := by simp [lowOk] at h; omega
theorem lowOk_in {n d : Int} (h : lowOk n d = true) : lowN n d ≤ 1000000000 ∧ lowD n d ≤ 1000000000 := by simpa [lowOk] using h
/-- The terms that are returned: 0 if they are out of range. -/
def mkA (n d : Int) : Int := if lowOk n d = true then mkN n d else 0
def mkB (n d : Int) : Int := if lowOk n d = true then lowD n d else 0
theorem mk_no {n d : Int} (h : lowOk n d = false) : mkA n d = 0 ∧ mkB n d = 0 := by simp [mkA, mkB, h]
theorem mk_yes {n d : Int} (h : lowOk n d = true) : mkA n d = mkN n d ∧ mkB n d = lowD n d := by simp [mkA, mkB, h]
theorem mkN_same {n d : Int} (h : decide (n < 0) = decide (d < 0)) : mkN n d = lowN n d := by simp [mkN, h]
theorem mkN_other {n d : Int} (h : decide (n < 0) = !decide (d < 0)) : mkN n d = -lowN n d := by
  unfold mkN; rw [h]; cases decide (d < 0) <;> rfl
theorem ret_rb {a b a' b' : Int} {c c' : Bool} (h1 : a = a') (h2 : b = b') (h3 : c = c') : Ending.returned (.tuple #[.agg #[.int .i64 a, .int .i64 b], .bool c]) = .returned (.tuple #[.agg #[.int .i64 a', .int .i64 b'], .bool c']) := by rw [h1, h2, h3]
theorem ret_rc {a b a' b' c c' : Int} (h1 : a = a') (h2 : b = b') (h3 : c = c') : Ending.returned (.tuple #[.agg #[.int .i64 a, .int .i64 b], .int .i64 c]) = .returned (.tuple #[.agg #[.int .i64 a', .int .i64 b'], .int .i64 c']) := by rw [h1, h2, h3]
theorem low_bd {n d : Int} (hd : d ≠ 0) (h1 : -9223372036854775808 ≤ n) (h2 : n ≤ 9223372036854775807) (h3 : -9223372036854775808 ≤ d) (h4 : d ≤ 9223372036854775807) :
    1 ≤ ((Int.gcd n d : Nat) : Int) ∧ 0 ≤ lowN n d ∧ lowN n d ≤ 9223372036854775808 ∧ 0 ≤ lowD n d ∧ lowD n d ≤ 9223372036854775808 := by
  have hg : 0 < Int.gcd n d := Int.gcd_pos_of_ne_zero_right n hd
  have a1 := Int.ediv_nonneg (show 0 ≤ ((n.natAbs : Nat) : Int) by omega) (show 0 ≤ ((Int.gcd n d : Nat) : Int) by omega)
  have a2 := Int.ediv_le_self ((Int.gcd n d : Nat) : Int) (show 0 ≤ ((n.natAbs : Nat) : Int) by omega)
  have b1 := Int.ediv_nonneg (show 0 ≤ ((d.natAbs : Nat) : Int) by omega) (show 0 ≤ ((Int.gcd n d : Nat) : Int) by omega)
  have b2 := Int.ediv_le_self ((Int.gcd n d : Nat) : Int) (show 0 ≤ ((d.natAbs : Nat) : Int) by omega)
  unfold lowN lowD
  omega

end Go.Proofs.Ytbkhejideffflaa

/-
  Integer square roots: the plain words.
-/
import Derived.Test.YtclefibjmnabbaaRat
namespace Go.Proofs.Ytclefibjmnabbaa
open Go.RowKit

def rtN : Nat → Nat
  | 0 => 0
  | n + 1 => if (rtN n + 1) * (rtN n + 1) ≤ n + 1 then rtN n + 1 else rtN n
theorem rtN_is : ∀ n : Nat, rtN n * rtN n ≤ n ∧ n < (rtN n + 1) * (rtN n + 1)
  | 0 => by simp [rtN]
  | n + 1 => by
    obtain ⟨h1, h2⟩ := rtN_is n
    unfold rtN
    split
    · rename_i h
      generalize rtN n = r at *
      have e : (r + 1 + 1) * (r + 1 + 1) = (r + 1) * (r + 1) + 2 * r + 3 := by grind
      exact ⟨h, by omega⟩
    · rename_i h
      exact ⟨by omega, by omega⟩
/-- The greatest integer whose square is at most n. -/
def rt (n : Int) : Int := (rtN n.toNat : Int)
theorem rt_is {n : Int} (h : 0 ≤ n) : 0 ≤ rt n ∧ rt n * rt n ≤ n ∧ n < (rt n + 1) * (rt n + 1) := by
  obtain ⟨m, rfl⟩ := Int.eq_ofNat_of_zero_le h
  obtain ⟨h1, h2⟩ := rtN_is m
  unfold rt
  rw [Int.toNat_natCast]
  generalize rtN m = r at *
  refine ⟨by omega, ?_, ?_⟩
  · have : ((r * r : Nat) : Int) ≤ (m : Int) := by omega
    simpa using this
  · have : (m : Int) < (((r + 1) * (r + 1) : Nat) : Int) := by omega
    simpa using this
theorem sq_mono {a b : Int} (h0 : 0 ≤ a) (h : a ≤ b) : a * a ≤ b * b := Int.mul_le_mul h h h0 (by omega)
theorem sq_lt {a b : Int} (h0 : 0 ≤ b) (h : a * a < b * b) : a < b := by
  rcases Int.lt_or_le a b with h1 | h1
  · exact h1
  · have := sq_mono h0 h1; omega
theorem rt_only {n r : Int} (h0 : 0 ≤ r) (h1 : r * r ≤ n) (h2 : n < (r + 1) * (r + 1)) : rt n = r := by
  have hn : 0 ≤ n := Int.le_trans (Int.mul_nonneg h0 h0) h1
  obtain ⟨k0, k1, k2⟩ := rt_is hn
  have a1 : r < rt n + 1 := sq_lt (by omega) (by omega)
  have a2 : rt n < r + 1 := sq_lt (by omega) (by omega)
  omega
theorem rt_le {n m : Int} (h : 0 ≤ n) (hm : 0 ≤ m) (h1 : n ≤ m * m) : rt n ≤ m := by
  obtain ⟨k0, k1, k2⟩ := rt_is h
  have : rt n < m + 1 := sq_lt (by omega) (by
    have : (m + 1) * (m + 1) = m * m + 2 * m + 1 := by grind
    omega)
  omega
theorem sq_bd {x m : Int} (h0 : -m ≤ x) (h1 : x ≤ m) : 0 ≤ x * x ∧ x * x ≤ m * m := by
  rcases Int.le_total 0 x with h | h
  · exact ⟨Int.mul_nonneg h h, sq_mono h h1⟩
  · rw [show x * x = (-x) * (-x) by rw [Int.neg_mul_neg]]
    exact ⟨Int.mul_nonneg (by omega) (by omega), sq_mono (by omega) (by omega)⟩
end Go.Proofs.Ytclefibjmnabbaa

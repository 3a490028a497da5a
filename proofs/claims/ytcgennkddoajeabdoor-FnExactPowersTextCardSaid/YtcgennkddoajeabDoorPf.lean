/-
  The prime factors of a number by trial division: the plain arithmetic.
-/
import Derived.Test.YtcgennkddoajeabDoorNum
namespace Go.Proofs.YtcgennkddoajeabDoor
open Go.RowKit

theorem div_less {n p : Int} (hp : 2 ≤ p) (hn : 1 ≤ n) : n / p < n ∧ 0 ≤ n / p := by
  refine ⟨?_, Int.ediv_nonneg (by omega) (by omega)⟩
  have h1 := Int.ediv_mul_le n (show p ≠ 0 by omega)
  have h2 := Int.ediv_nonneg (show 0 ≤ n by omega) (show 0 ≤ p by omega)
  have h3 : n / p * 2 ≤ n / p * p := Int.mul_le_mul_of_nonneg_left hp h2
  omega
/-- How often p is a factor of n, and what is left. -/
def strip (n p : Int) : Nat × Int :=
  if h : 2 ≤ p ∧ 1 ≤ n ∧ n % p = 0 then ((strip (n / p) p).1 + 1, (strip (n / p) p).2) else (0, n)
termination_by n.toNat
decreasing_by all_goals (have := div_less h.1 h.2.1; omega)
theorem strip_no {n p : Int} (h : n % p ≠ 0) : strip n p = (0, n) := by rw [strip, dif_neg (fun x => h x.2.2)]
theorem strip_go {n p : Int} (hp : 2 ≤ p) (hn : 1 ≤ n) (h : n % p = 0) : (strip n p).1 = (strip (n / p) p).1 + 1 ∧ (strip n p).2 = (strip (n / p) p).2 := by
  rw [strip, dif_pos ⟨hp, hn, h⟩]; exact ⟨rfl, rfl⟩
theorem div_one_le {n p : Int} (hp : 2 ≤ p) (hn : 1 ≤ n) (h : n % p = 0) : 1 ≤ n / p := by
  have := Int.ediv_mul_cancel (Int.dvd_of_emod_eq_zero h)
  have h2 := (div_less hp hn).2
  by_cases e : n / p = 0
  · rw [e] at this; omega
  · omega
theorem strip_fact : ∀ (k : Nat) (n p : Int), n.toNat ≤ k → 2 ≤ p → 1 ≤ n → 1 ≤ (strip n p).2 ∧ (strip n p).2 ≤ n ∧ (strip n p).2 ∣ n ∧ (strip n p).2 % p ≠ 0
  | 0, n, p, hk, _, hn => by omega
  | k + 1, n, p, hk, hp, hn => by
    by_cases h : n % p = 0
    · obtain ⟨_, e2⟩ := strip_go hp hn h
      have hl := div_less hp hn
      obtain ⟨a1, a2, a3, a4⟩ := strip_fact k (n / p) p (by omega) hp (div_one_le hp hn h)
      rw [e2]
      exact ⟨a1, by omega, Int.dvd_trans a3 (Int.ediv_dvd_of_dvd (Int.dvd_of_emod_eq_zero h)), a4⟩
    · rw [strip_no h]; exact ⟨hn, Int.le_refl _, Int.dvd_refl _, h⟩
theorem strip_spec {n p : Int} (hp : 2 ≤ p) (hn : 1 ≤ n) : 1 ≤ (strip n p).2 ∧ (strip n p).2 ≤ n ∧ (strip n p).2 ∣ n ∧ (strip n p).2 % p ≠ 0 := strip_fact n.toNat n p (Nat.le_refl _) hp hn
theorem sq_lt {n p : Int} (hp : 2 ≤ p) (h : p * p ≤ n) : p < n := by
  have : 2 * p ≤ p * p := Int.mul_le_mul_of_nonneg_right hp (by omega)
  omega
/-- The prime factors of n from p on, each with how often it is there. -/
def pfL (n p : Int) : List (Int × Int) :=
  if h : 2 ≤ p ∧ p * p ≤ n then (if (strip n p).1 = 0 then [] else [(p, ((strip n p).1 : Int))]) ++ pfL (strip n p).2 (p + 1)
  else if 1 < n then [(n, 1)] else []
termination_by (n - p).toNat
decreasing_by
  have h1 := sq_lt h.1 h.2
  have h2 := strip_spec h.1 (show 1 ≤ n by have := h.1; omega)
  omega
theorem pf_go {n p : Int} (hp : 2 ≤ p) (h : p * p ≤ n) : pfL n p = (if (strip n p).1 = 0 then [] else [(p, ((strip n p).1 : Int))]) ++ pfL (strip n p).2 (p + 1) := by
  rw [pfL, dif_pos ⟨hp, h⟩]
theorem pf_end {n p : Int} (h : ¬ p * p ≤ n) : pfL n p = if 1 < n then [(n, 1)] else [] := by
  rw [pfL, dif_neg (fun x => h x.2)]
/-- A number that is no divisor may be passed over. -/
theorem pf_skip {n c : Int} (hc : 2 ≤ c) (h : ¬ c ∣ n) : pfL n c = pfL n (c + 1) := by
  by_cases h2 : c * c ≤ n
  · rw [pf_go hc h2, strip_no (fun e => h (Int.dvd_of_emod_eq_zero e))]; simp
  · have h3 : ¬ (c + 1) * (c + 1) ≤ n := by
      have : (c + 1) * (c + 1) = c * c + 2 * c + 1 := by grind
      omega
    rw [pf_end h2, pf_end h3]
/-- No number from 2 to p - 1 is a divisor. -/
def ND (n p : Int) : Prop := ∀ d, 2 ≤ d → d < p → ¬ d ∣ n
theorem nd_two (n : Int) : ND n 2 := fun d h1 h2 => by omega
theorem nd_strip {n p : Int} (hp : 2 ≤ p) (hn : 1 ≤ n) (h : ND n p) : ND (strip n p).2 (p + 1) := by
  obtain ⟨a1, a2, a3, a4⟩ := strip_spec hp hn
  intro d h1 h2 hd
  by_cases e : d = p
  · rw [e] at hd; exact a4 (Int.emod_eq_zero_of_dvd hd)
  · exact h d h1 (by omega) (Int.dvd_trans hd a3)
theorem nd_next {n c : Int} (h : ND n c) (hc : ¬ c ∣ n) : ND n (c + 1) := by
  intro d h1 h2
  by_cases e : d = c
  · rw [e]; exact hc
  · exact h d h1 (by omega)
theorem nd_even {n p c : Int} (h : ND n p) (hp : 3 ≤ p) (hc : c % 2 = 0) : ¬ c ∣ n := fun hd => h 2 (by omega) (by omega) (Int.dvd_trans (Int.dvd_of_emod_eq_zero hc) hd)
theorem nd_three {n p c : Int} (h : ND n p) (hp : 4 ≤ p) (hc : c % 3 = 0) : ¬ c ∣ n := fun hd => h 3 (by omega) (by omega) (Int.dvd_trans (Int.dvd_of_emod_eq_zero hc) hd)
/-- The next number that may be a prime. -/
def nxt (p : Int) : Int := if p = 2 then 3 else if p % 6 = 1 then p + 4 else p + 2
/-- The numbers that are tried. -/
def Cand (p : Int) : Prop := p = 2 ∨ p = 3 ∨ (5 ≤ p ∧ (p % 6 = 1 ∨ p % 6 = 5))
theorem cand_next {n p : Int} (hc : Cand p) (h : ND n (p + 1)) : Cand (nxt p) ∧ pfL n (p + 1) = pfL n (nxt p) ∧ ND n (nxt p) ∧ p < nxt p ∧ nxt p ≤ p + 4 := by
  rcases hc with rfl | rfl | ⟨h5, h6⟩
  · exact ⟨.inr (.inl rfl), rfl, h, by decide, by decide⟩
  · have e : nxt 3 = 5 := by decide
    rw [e]
    have h4 := nd_even h (by omega) (show (3 + 1 : Int) % 2 = 0 by decide)
    exact ⟨.inr (.inr ⟨by omega, .inr (by decide)⟩), pf_skip (by omega) h4, nd_next h h4, by omega, by omega⟩
  · rcases h6 with h6 | h6
    · have e : nxt p = p + 4 := by unfold nxt; rw [if_neg (by omega), if_pos h6]
      rw [e]
      have a1 := nd_even h (by omega) (show (p + 1) % 2 = 0 by omega)
      have b1 := nd_next h a1
      have a2 := nd_three b1 (by omega) (show (p + 1 + 1) % 3 = 0 by omega)
      have b2 := nd_next b1 a2
      have a3 := nd_even b2 (by omega) (show (p + 1 + 1 + 1) % 2 = 0 by omega)
      have b3 := nd_next b2 a3
      have e4 : p + 4 = p + 1 + 1 + 1 + 1 := by omega
      rw [e4]
      exact ⟨.inr (.inr ⟨by omega, .inr (by omega)⟩), (pf_skip (by omega) a1).trans ((pf_skip (by omega) a2).trans (pf_skip (by omega) a3)), b3, by omega, by omega⟩
    · have e : nxt p = p + 2 := by unfold nxt; rw [if_neg (by omega), if_neg (by omega)]
      rw [e]
      have a1 := nd_even h (by omega) (show (p + 1) % 2 = 0 by omega)
      have b1 := nd_next h a1
      have e2 : p + 2 = p + 1 + 1 := by omega
      rw [e2]
      exact ⟨.inr (.inr ⟨by omega, .inl (by omega)⟩), pf_skip (by omega) a1, b1, by omega, by omega⟩
/-- The factors one after the other. -/
def exL (l : List (Int × Int)) : List Int := l.flatMap fun x => List.replicate x.2.toNat x.1
theorem exL_append (a b : List (Int × Int)) : exL (a ++ b) = exL a ++ exL b := by simp [exL]
/-- What is still to come within the inner loop. -/
def inn (n p : Int) : List Int := List.replicate (strip n p).1 p ++ exL (pfL (strip n p).2 (p + 1))
theorem inn_start {n p : Int} (hp : 2 ≤ p) (h : p * p ≤ n) : exL (pfL n p) = inn n p := by
  rw [pf_go hp h, exL_append]
  unfold inn
  congr 1
  by_cases h0 : (strip n p).1 = 0
  · rw [if_pos h0, h0]; rfl
  · rw [if_neg h0]; simp [exL]
theorem inn_step {n p : Int} (hp : 2 ≤ p) (hn : 1 ≤ n) (h : n % p = 0) : inn n p = p :: inn (n / p) p := by
  obtain ⟨e1, e2⟩ := strip_go hp hn h
  unfold inn
  rw [e1, e2, List.replicate_succ]; rfl
theorem inn_end {n p : Int} (h : n % p ≠ 0) : inn n p = exL (pfL n (p + 1)) := by
  unfold inn; rw [strip_no h]; rfl
/-- The prime factors of n. -/
def primesL (n : Int) : List Int := exL (pfL n 2)
theorem sq_bd {p n : Int} (hp : 0 ≤ p) (h : p * p ≤ n) (hn : n ≤ 1000000000) : p ≤ 31622 := by
  by_cases h2 : p ≤ 31622
  · exact h2
  · exfalso
    have : 31623 * 31623 ≤ p * p := Int.mul_le_mul (by omega) (by omega) (by omega) (by omega)
    omega
theorem sq_nn {p : Int} (h0 : 0 ≤ p) (h : p ≤ 40000) : 0 ≤ p * p ∧ p * p ≤ 1600000000 := by
  have h1 := Int.mul_nonneg h0 h0
  have h2 : p * p ≤ 40000 * 40000 := Int.mul_le_mul h h h0 (by omega)
  omega
end Go.Proofs.YtcgennkddoajeabDoor

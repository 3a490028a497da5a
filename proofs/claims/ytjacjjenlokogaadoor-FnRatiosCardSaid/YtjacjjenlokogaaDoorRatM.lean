/-
  The sums of FnRatios: what the operations' answers have to do with one another.
-/
import Derived.Test.YtjacjjenlokogaaDoorOpsS
import Derived.Test.YtjacjjenlokogaaDoorWRrI
import Derived.ProofKit
namespace Go.Proofs.YtjacjjenlokogaaDoor
open Go.ChangeShapes Go.WideShapes Go.ChangeAt Go.RowKit

/-- Lowest terms, for any divisor but 0. -/
theorem low_raw {n d : Int} (hd : d ≠ 0) : 1 ≤ lowD n d ∧ Int.gcd (mkN n d) (lowD n d) = 1 ∧ mkN n d * d = n * lowD n d ∧ (((mkN n d).natAbs : Nat) : Int) = lowN n d := by
  have hg : 0 < Int.gcd n d := Int.gcd_pos_of_ne_zero_right n hd
  have hc : Nat.Coprime (n.natAbs / Int.gcd n d) (d.natAbs / Int.gcd n d) := Nat.coprime_div_gcd_div_gcd hg
  have eN : lowN n d = ((n.natAbs / Int.gcd n d : Nat) : Int) := by unfold lowN; rw [Int.natCast_ediv]
  have eD : lowD n d = ((d.natAbs / Int.gcd n d : Nat) : Int) := by unfold lowD; rw [Int.natCast_ediv]
  have pD : 0 < d.natAbs / Int.gcd n d := Nat.div_pos (Nat.le_of_dvd (by omega) (Nat.gcd_dvd_right _ _)) hg
  have cN : (mkN n d).natAbs = n.natAbs / Int.gcd n d := by
    unfold mkN; rw [eN]; generalize n.natAbs / Int.gcd n d = m; split <;> omega
  have m1 : n.natAbs / Int.gcd n d * Int.gcd n d = n.natAbs := Nat.div_mul_cancel (Nat.gcd_dvd_left _ _)
  have m2 : d.natAbs / Int.gcd n d * Int.gcd n d = d.natAbs := Nat.div_mul_cancel (Nat.gcd_dvd_right _ _)
  refine ⟨by omega, ?_, ?_, by rw [cN, eN]⟩
  · show Nat.gcd (mkN n d).natAbs (lowD n d).natAbs = 1
    rw [cN, eD, Int.natAbs_natCast]
    exact hc
  · have key : ((n.natAbs / Int.gcd n d : Nat) : Int) * ((d.natAbs : Nat) : Int) = ((n.natAbs : Nat) : Int) * ((d.natAbs / Int.gcd n d : Nat) : Int) := by
      generalize n.natAbs / Int.gcd n d = A at *
      generalize d.natAbs / Int.gcd n d = B at *
      generalize Int.gcd n d = g at *
      rw [← m1, ← m2]; push_cast; grind
    unfold mkN
    rw [eN, eD]
    generalize n.natAbs / Int.gcd n d = A at *
    generalize d.natAbs / Int.gcd n d = B at *
    by_cases hn : n < 0 <;> by_cases hd0 : d < 0
    · simp only [hn, hd0, decide_true, bne_self_eq_false, Bool.false_eq_true, if_false]
      have e1 : ((n.natAbs : Nat) : Int) = -n := by omega
      have e2 : ((d.natAbs : Nat) : Int) = -d := by omega
      rw [e1, e2] at key; grind
    · simp only [hn, hd0, decide_true, decide_false, bne_iff_ne, ne_eq, Bool.true_eq_false, not_false_eq_true, if_true]
      have e1 : ((n.natAbs : Nat) : Int) = -n := by omega
      have e2 : ((d.natAbs : Nat) : Int) = d := by omega
      rw [e1, e2] at key; grind
    · simp only [hn, hd0, decide_true, decide_false, bne_iff_ne, ne_eq, Bool.false_eq_true, not_false_eq_true, if_true]
      have e1 : ((n.natAbs : Nat) : Int) = n := by omega
      have e2 : ((d.natAbs : Nat) : Int) = -d := by omega
      rw [e1, e2] at key; grind
    · simp only [hn, hd0, decide_false, bne_self_eq_false, Bool.false_eq_true, if_false]
      have e1 : ((n.natAbs : Nat) : Int) = n := by omega
      have e2 : ((d.natAbs : Nat) : Int) = d := by omega
      rw [e1, e2] at key; exact key
theorem cross_raw {n d p q : Int} (hd : 1 ≤ d) (hq : 1 ≤ q) (g1 : Int.gcd n d = 1) (g2 : Int.gcd p q = 1) (h : n * q = p * d) : n = p ∧ d = q := by
  have k1 : d ∣ q := dvd_of_gcd (n := n) ⟨p, by rw [h]; exact Int.mul_comm _ _⟩ g1
  have k2 : q ∣ d := dvd_of_gcd (n := p) ⟨n, by rw [← h]; exact Int.mul_comm _ _⟩ g2
  have l1 := Int.le_of_dvd (by omega) k1
  have l2 := Int.le_of_dvd (by omega) k2
  obtain rfl : d = q := by omega
  exact ⟨Int.eq_of_mul_eq_mul_right (by omega) h, rfl⟩
theorem r_red {x y : Int} (hy : y ≠ 0) (hc : rC x y = 0) : okR (rA x y) (rB x y) = true ∧ rA x y * y = x * rB x y := by
  have hk : lowOk x y = true := by
    cases h : lowOk x y
    · have := (r_no hy h).2.2; omega
    · rfl
  obtain ⟨e1, e2, _⟩ := r_yes hy hk
  obtain ⟨a1, a2, a3, a4⟩ := low_raw (n := x) hy
  obtain ⟨k1, k2⟩ := lowOk_in hk
  rw [e1, e2]
  exact ⟨okR_true.2 ⟨a1, k2, by omega, by omega, a2⟩, a3⟩
theorem r_fit {x y a b : Int} (hy : y ≠ 0) (h : okR a b = true) (e : a * y = x * b) : rA x y = a ∧ rB x y = b ∧ rC x y = 0 := by
  obtain ⟨a1, a2, a3, a4⟩ := low_raw (n := x) hy
  obtain ⟨b1, b2, b3, b4, b5⟩ := okR_true.1 h
  have hx : mkN x y * b = a * lowD x y := by
    have : (mkN x y * b) * y = (a * lowD x y) * y := by grind
    exact Int.eq_of_mul_eq_mul_right hy this
  obtain ⟨c1, c2⟩ := cross_raw a1 b1 a2 b5 hx
  have hk : lowOk x y = true := by
    unfold lowOk; rw [← a4, c1, c2]; exact decide_eq_true ⟨by omega, by omega⟩
  obtain ⟨e1, e2, e3⟩ := r_yes hy hk
  exact ⟨e1.trans c1, e2.trans c2, e3⟩

theorem add_back {n d p q : Int} (h1 : okR n d = true) (h2 : okR p q = true) (hc : rC (addX n d p q) (mulX d q) = 0) :
    okR (rA (addX n d p q) (mulX d q)) (rB (addX n d p q) (mulX d q)) = true ∧
    rA (addX (rA (addX n d p q) (mulX d q)) (rB (addX n d p q) (mulX d q)) (-p) q) (mulX (rB (addX n d p q) (mulX d q)) q) = n ∧
    rB (addX (rA (addX n d p q) (mulX d q)) (rB (addX n d p q) (mulX d q)) (-p) q) (mulX (rB (addX n d p q) (mulX d q)) q) = d ∧
    rC (addX (rA (addX n d p q) (mulX d q)) (rB (addX n d p q) (mulX d q)) (-p) q) (mulX (rB (addX n d p q) (mulX d q)) q) = 0 := by
  have a1 := (okR_bd h1).1
  have b1 := (okR_bd h2).1
  obtain ⟨ho, he⟩ := r_red (mulX_pos a1 b1) hc
  generalize rA (addX n d p q) (mulX d q) = A at *
  generalize rB (addX n d p q) (mulX d q) = B at *
  refine ⟨ho, r_fit (mulX_pos (okR_bd ho).1 b1) h1 ?_⟩
  unfold addX mulX at *
  grind
theorem mul_back {n d p q : Int} (h1 : okR n d = true) (h2 : okR p q = true) (hp : p ≠ 0) (hc : rC (mulX n p) (mulX d q) = 0) :
    okR (rA (mulX n p) (mulX d q)) (rB (mulX n p) (mulX d q)) = true ∧
    rA (mulX (rA (mulX n p) (mulX d q)) q) (mulX (rB (mulX n p) (mulX d q)) p) = n ∧
    rB (mulX (rA (mulX n p) (mulX d q)) q) (mulX (rB (mulX n p) (mulX d q)) p) = d ∧
    rC (mulX (rA (mulX n p) (mulX d q)) q) (mulX (rB (mulX n p) (mulX d q)) p) = 0 := by
  have a1 := (okR_bd h1).1
  have b1 := (okR_bd h2).1
  obtain ⟨ho, he⟩ := r_red (mulX_pos a1 b1) hc
  generalize rA (mulX n p) (mulX d q) = A at *
  generalize rB (mulX n p) (mulX d q) = B at *
  refine ⟨ho, r_fit (mulX_ne (okR_bd ho).1 hp) h1 ?_⟩
  unfold mulX at *
  grind
theorem sub_sign {n d p q : Int} (h1 : okR n d = true) (h2 : okR p q = true) (hc : rC (addX n d (-p) q) (mulX d q) = 0) :
    decide (0 < rA (addX n d (-p) q) (mulX d q)) = decide (0 < cmpR n d p q) := by
  have a1 := (okR_bd h1).1
  have b1 := (okR_bd h2).1
  obtain ⟨ho, he⟩ := r_red (mulX_pos a1 b1) hc
  have c1 := (okR_bd ho).1
  generalize rA (addX n d (-p) q) (mulX d q) = A at *
  generalize rB (addX n d (-p) q) (mulX d q) = B at *
  rw [← cmpR_yes h1 h2]
  have hdq : 0 < d * q := Int.mul_pos (by omega) (by omega)
  have he' : A * (d * q) = (n * q - p * d) * B := by unfold addX mulX at he; grind
  have iff : 0 < A ↔ p * d < n * q := by
    constructor
    · intro h
      have h3 : 0 < A * (d * q) := Int.mul_pos h hdq
      rw [he'] at h3
      by_cases g : p * d < n * q
      · exact g
      · exfalso
        have : (n * q - p * d) * B ≤ 0 := Int.mul_nonpos_of_nonpos_of_nonneg (by omega) (by omega)
        omega
    · intro h
      have h3 : 0 < (n * q - p * d) * B := Int.mul_pos (by omega) (by omega)
      rw [← he'] at h3
      by_cases g : 0 < A
      · exact g
      · exfalso
        have : A * (d * q) ≤ 0 := Int.mul_nonpos_of_nonpos_of_nonneg (by omega) (by omega)
        omega
  unfold cmpV
  by_cases g : 0 < A
  · have := iff.1 g
    rw [if_neg (by omega), if_pos this]; simp [g]
  · have : ¬ p * d < n * q := fun h => g (iff.2 h)
    rw [if_neg this]; simp [g]; split <;> omega
theorem cmp_swap {n d p q : Int} : cmpR p q n d = -cmpR n d p q := by
  unfold cmpR cmpV
  by_cases h1 : okR n d = true <;> by_cases h2 : okR p q = true <;> simp [h1, h2]
  split <;> split <;> omega
theorem cmp_zero {n d p q : Int} (h1 : okR n d = true) (h2 : okR p q = true) : cmpR n d p q = 0 ↔ (n = p ∧ d = q) := by
  rw [← cmpR_yes h1 h2]
  unfold cmpV
  constructor
  · intro h
    refine cross_eq h1 h2 ?_
    split at h
    · omega
    · split at h <;> omega
  · rintro ⟨rfl, rfl⟩; simp
theorem mk_three {n d : Int} (h : okR n d = true) : rA (3 * n) (3 * d) = n ∧ rB (3 * n) (3 * d) = d ∧ rC (3 * n) (3 * d) = 0 := by
  have := (okR_bd h).1
  exact r_fit (by omega) h (by grind)
end Go.Proofs.YtjacjjenlokogaaDoor

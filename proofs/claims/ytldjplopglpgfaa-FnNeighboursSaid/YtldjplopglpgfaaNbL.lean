/-
  The arithmetic and the walk of laws.FnNeighbours.
-/
import Derived.Test.YtldjplopglpgfaaBestI
import Derived.Test.YtldjplopglpgfaaOpsS
import Derived.Test.YtldjplopglpgfaaDraw2
import Derived.Test.YtldjplopglpgfaaWValidRatio
import Derived.Test.YtldjplopglpgfaaCmpS
import Derived.Deep.RegionHeld3
namespace Go.Proofs.Ytldjplopglpgfaa
open Go.RowKit

/-- A ratio in lowest terms is the same number. -/
theorem low_red {n d : Int} (hd : 1 ≤ d) (hk : lowOk n d = true) : okR (mkN n d) (lowD n d) = true ∧ mkN n d * d = n * lowD n d := by
  have hg : 0 < Int.gcd n d := Int.gcd_pos_of_ne_zero_right n (by omega)
  have hc : Nat.Coprime (n.natAbs / Int.gcd n d) (d.natAbs / Int.gcd n d) := Nat.coprime_div_gcd_div_gcd hg
  have eN : lowN n d = ((n.natAbs / Int.gcd n d : Nat) : Int) := by unfold lowN; rw [Int.natCast_ediv]
  have eD : lowD n d = ((d.natAbs / Int.gcd n d : Nat) : Int) := by unfold lowD; rw [Int.natCast_ediv]
  have pD : 0 < d.natAbs / Int.gcd n d := Nat.div_pos (Nat.le_of_dvd (by omega) (Nat.gcd_dvd_right _ _)) hg
  have cN : (mkN n d).natAbs = n.natAbs / Int.gcd n d := by
    unfold mkN; rw [eN]; generalize n.natAbs / Int.gcd n d = m; split <;> omega
  obtain ⟨k1, k2⟩ := lowOk_in hk
  rw [eN] at k1
  rw [eD] at k2
  have m1 : n.natAbs / Int.gcd n d * Int.gcd n d = n.natAbs := Nat.div_mul_cancel (Nat.gcd_dvd_left _ _)
  have m2 : d.natAbs / Int.gcd n d * Int.gcd n d = d.natAbs := Nat.div_mul_cancel (Nat.gcd_dvd_right _ _)
  refine ⟨okR_true.2 ⟨by omega, by omega, by omega, by omega, ?_⟩, ?_⟩
  · show Nat.gcd (mkN n d).natAbs (lowD n d).natAbs = 1
    rw [cN, eD, Int.natAbs_natCast]
    exact hc
  · have key : ((n.natAbs / Int.gcd n d : Nat) : Int) * d = ((n.natAbs : Nat) : Int) * ((d.natAbs / Int.gcd n d : Nat) : Int) := by
      generalize n.natAbs / Int.gcd n d = A at *
      generalize d.natAbs / Int.gcd n d = B at *
      generalize Int.gcd n d = g at *
      have e1 : ((A : Int)) * (g : Int) = (n.natAbs : Int) := by rw [← m1]; push_cast; rfl
      have e2 : ((B : Int)) * (g : Int) = d := by
        have : ((B * g : Nat) : Int) = (d.natAbs : Int) := by rw [m2]
        push_cast at this
        omega
      rw [← e1, ← e2]; grind
    unfold mkN
    rw [eN, eD]
    have hd0 : ¬ d < 0 := by omega
    by_cases hn : n < 0
    · simp only [hn, hd0, decide_true, decide_false, bne_iff_ne, ne_eq, Bool.true_eq_false, not_false_eq_true, if_true]
      rw [Int.neg_mul, key]
      have : ((n.natAbs : Nat) : Int) = -n := by omega
      rw [this]; grind
    · simp only [hn, hd0, decide_false, bne_self_eq_false, Bool.false_eq_true, if_false]
      rw [key]
      have : ((n.natAbs : Nat) : Int) = n := by omega
      rw [this]
theorem o_red {x y : Int} (hy : 1 ≤ y) (hc : oC true x y = 0) : okR (oA true x y) (oB true x y) = true ∧ oA true x y * y = x * oB true x y := by
  obtain ⟨e1, e2, e3⟩ := o_yes x y
  rw [e1, e2]
  rw [e3] at hc
  cases hk : lowOk x y
  · have := (r_no (show y ≠ 0 by omega) hk).2.2
    omega
  · obtain ⟨f1, f2, _⟩ := r_yes (show y ≠ 0 by omega) hk
    rw [f1, f2]
    exact low_red hy hk
/-- The distances compare as their products do. -/
theorem dist_sign {n d a b c f x1 x2 y1 y2 : Int} (hd : 1 ≤ d) (hb : 1 ≤ b) (hf : 1 ≤ f) (hx : 1 ≤ x2) (hy : 1 ≤ y2) (e1 : x1 * (d * b) = (n * b + -a * d) * x2) (e2 : y1 * (f * d) = (c * d + -n * f) * y2) :
    (x1 * y2 < y1 * x2 ↔ dX n d a b f < dY n d c f b) ∧ (x1 * y2 = y1 * x2 ↔ dX n d a b f = dY n d c f b) := by
  unfold dX dY
  have hP : 0 < d * b * (f * d) := Int.mul_pos (Int.mul_pos (by omega) (by omega)) (Int.mul_pos (by omega) (by omega))
  have hQ : 0 < x2 * y2 * d := Int.mul_pos (Int.mul_pos (by omega) (by omega)) (by omega)
  have k1 : x1 * y2 * (d * b * (f * d)) = (n * b - a * d) * f * (x2 * y2 * d) := by
    have : x1 * y2 * (d * b * (f * d)) = x1 * (d * b) * (y2 * f * d) := by grind
    rw [this, e1]; grind
  have k2 : y1 * x2 * (d * b * (f * d)) = (c * d - n * f) * b * (x2 * y2 * d) := by
    have : y1 * x2 * (d * b * (f * d)) = y1 * (f * d) * (x2 * d * b) := by grind
    rw [this, e2]; grind
  constructor
  · constructor
    · intro h
      have := Int.mul_lt_mul_of_pos_right h hP
      rw [k1, k2] at this
      exact Int.lt_of_mul_lt_mul_right this (by omega)
    · intro h
      have := Int.mul_lt_mul_of_pos_right h hQ
      rw [← k1, ← k2] at this
      exact Int.lt_of_mul_lt_mul_right this (by omega)
  · constructor
    · intro h
      have : x1 * y2 * (d * b * (f * d)) = y1 * x2 * (d * b * (f * d)) := by rw [h]
      rw [k1, k2] at this
      exact Int.eq_of_mul_eq_mul_right (by omega) this
    · intro h
      have : (n * b - a * d) * f * (x2 * y2 * d) = (c * d - n * f) * b * (x2 * y2 * d) := by rw [h]
      rw [← k1, ← k2] at this
      exact Int.eq_of_mul_eq_mul_right (by omega) this
/-- What the two distances come to, if both are in range. -/
theorem nb_sign {n d m a b c f : Int} (hok : okR n d = true) (hm : m ≤ 1000000000) (h : NbR n d m a b c f) (h1 : oC true (addX n d (-a) b) (mulX d b) = 0) (h2 : oC true (addX c f (-n) d) (mulX f d) = 0) :
    (cmpR (oA true (addX n d (-a) b) (mulX d b)) (oB true (addX n d (-a) b) (mulX d b)) (oA true (addX c f (-n) d) (mulX f d)) (oB true (addX c f (-n) d) (mulX f d)) = -1 ∧ dX n d a b f < dY n d c f b) ∨
    (cmpR (oA true (addX n d (-a) b) (mulX d b)) (oB true (addX n d (-a) b) (mulX d b)) (oA true (addX c f (-n) d) (mulX f d)) (oB true (addX c f (-n) d) (mulX f d)) = 0) ∨
    (cmpR (oA true (addX n d (-a) b) (mulX d b)) (oB true (addX n d (-a) b) (mulX d b)) (oA true (addX c f (-n) d) (mulX f d)) (oB true (addX c f (-n) d) (mulX f d)) = 1 ∧ dY n d c f b < dX n d a b f) := by
  obtain ⟨k1, k2⟩ := h.ok hok hm
  have d1 := (okR_bd hok).1
  have b1 := (okR_bd k1).1
  have f1 := (okR_bd k2).1
  obtain ⟨p1, p2⟩ := o_red (x := addX n d (-a) b) (y := mulX d b) (Int.mul_pos (by omega) (by omega)) h1
  obtain ⟨q1, q2⟩ := o_red (x := addX c f (-n) d) (y := mulX f d) (Int.mul_pos (by omega) (by omega)) h2
  generalize oA true (addX n d (-a) b) (mulX d b) = x1 at *
  generalize oB true (addX n d (-a) b) (mulX d b) = x2 at *
  generalize oA true (addX c f (-n) d) (mulX f d) = y1 at *
  generalize oB true (addX c f (-n) d) (mulX f d) = y2 at *
  obtain ⟨s1, s2⟩ := dist_sign d1 b1 f1 (okR_bd p1).1 (okR_bd q1).1 p2 q2
  by_cases hlt : x1 * y2 < y1 * x2
  · exact .inl ⟨cmpR_m1 p1 q1 hlt, s1.1 hlt⟩
  · by_cases heq : x1 * y2 = y1 * x2
    · right; left
      rw [← cmpR_yes p1 q1, ← cmpV_eq (by omega) (by omega)]
    · right; right
      refine ⟨cmpR_p1 p1 q1 (by omega), ?_⟩
      have n1 : ¬ dX n d a b f < dY n d c f b := fun e => hlt (s1.2 e)
      have n2 : ¬ dX n d a b f = dY n d c f b := fun e => heq (s2.2 e)
      omega
end Go.Proofs.Ytldjplopglpgfaa

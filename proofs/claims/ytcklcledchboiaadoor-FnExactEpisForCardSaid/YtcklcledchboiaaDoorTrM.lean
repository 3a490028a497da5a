/-
  The ratio of a train: the plain arithmetic.
-/
import Derived.Test.YtcklcledchboiaaDoorTrI
import Derived.Test.YtcklcledchboiaaDoorAr1
import Derived.Test.YtcklcledchboiaaDoorMkC
namespace Go.Proofs.YtcklcledchboiaaDoor
open Go.RowKit

theorem low_fit {n d : Int} (hd : 1 ≤ d) (h : lowOk n d = true) : okR (mkN n d) (lowD n d) = true := by
  obtain ⟨k1, k2⟩ := lowOk_in h
  have hg : 0 < Int.gcd n d := Int.gcd_pos_of_ne_zero_right n (by omega)
  have hc : Nat.Coprime (n.natAbs / Int.gcd n d) (d.natAbs / Int.gcd n d) := Nat.coprime_div_gcd_div_gcd hg
  have eN : lowN n d = ((n.natAbs / Int.gcd n d : Nat) : Int) := by unfold lowN; rw [Int.natCast_ediv]
  have eD : lowD n d = ((d.natAbs / Int.gcd n d : Nat) : Int) := by unfold lowD; rw [Int.natCast_ediv]
  have pD : 0 < d.natAbs / Int.gcd n d := Nat.div_pos (Nat.le_of_dvd (by omega) (Nat.gcd_dvd_right _ _)) hg
  have cN : (mkN n d).natAbs = n.natAbs / Int.gcd n d := by
    unfold mkN; rw [eN]; generalize n.natAbs / Int.gcd n d = m; split <;> omega
  rw [eN] at k1
  rw [eD] at k2
  rw [okR_true]
  refine ⟨by omega, by omega, by omega, by omega, ?_⟩
  show Nat.gcd (mkN n d).natAbs (lowD n d).natAbs = 1
  rw [cN, eD, Int.natAbs_natCast]
  exact hc
theorem low_scale {g x y : Int} (hg : 1 ≤ g) : lowN (g * x) (g * y) = lowN x y ∧ lowD (g * x) (g * y) = lowD x y := by
  have e : ((Int.gcd (g * x) (g * y) : Nat) : Int) = g * ((Int.gcd x y : Nat) : Int) := by
    rw [Int.gcd_mul_left, Int.natCast_mul]
    have : ((g.natAbs : Nat) : Int) = g := by omega
    rw [this]
  have a1 : (((g * x).natAbs : Nat) : Int) = g * ((x.natAbs : Nat) : Int) := by
    rw [Int.natAbs_mul, Int.natCast_mul]
    have : ((g.natAbs : Nat) : Int) = g := by omega
    rw [this]
  have a2 : (((g * y).natAbs : Nat) : Int) = g * ((y.natAbs : Nat) : Int) := by
    rw [Int.natAbs_mul, Int.natCast_mul]
    have : ((g.natAbs : Nat) : Int) = g := by omega
    rw [this]
  unfold lowN lowD
  rw [e, a1, a2, Int.mul_ediv_mul_of_pos _ _ (by omega), Int.mul_ediv_mul_of_pos _ _ (by omega)]
  exact ⟨rfl, rfl⟩
theorem sgn_scale {g x : Int} (hg : 1 ≤ g) : decide (g * x < 0) = decide (x < 0) := by
  by_cases h : x < 0
  · have := Int.mul_neg_of_pos_of_neg (show 0 < g by omega) h
    simp [h, this]
  · have := Int.mul_nonneg (show 0 ≤ g by omega) (show 0 ≤ x by omega)
    have h2 : ¬ g * x < 0 := by omega
    simp [h, h2]
theorem mk_scale {g x y : Int} (hg : 1 ≤ g) : mkN (g * x) (g * y) = mkN x y ∧ lowD (g * x) (g * y) = lowD x y ∧ lowOk (g * x) (g * y) = lowOk x y := by
  obtain ⟨e1, e2⟩ := low_scale (x := x) (y := y) hg
  refine ⟨?_, e2, ?_⟩
  · unfold mkN; rw [e1, sgn_scale hg, sgn_scale hg]
  · unfold lowOk; rw [e1, e2]
/-- -a / b in lowest terms, and back. -/
theorem step_back {a b : Int} (ha : 6 ≤ a ∧ a ≤ 240) (hb : 6 ≤ b ∧ b ≤ 240) : ∃ g : Int, 1 ≤ g ∧ -a = g * mkN (-a) b ∧ b = g * lowD (-a) b ∧ lowOk (-a) b = true ∧ -240 ≤ mkN (-a) b ∧ mkN (-a) b ≤ 240 ∧ 1 ≤ lowD (-a) b ∧ lowD (-a) b ≤ 240 := by
  have hg : 0 < Int.gcd (-a) b := Int.gcd_pos_of_ne_zero_right _ (by omega)
  have h1 : ((Int.gcd (-a) b : Nat) : Int) ∣ (((-a).natAbs : Nat) : Int) := Int.natCast_dvd_natCast.2 (Nat.gcd_dvd_left _ _)
  have h2 : ((Int.gcd (-a) b : Nat) : Int) ∣ ((b.natAbs : Nat) : Int) := Int.natCast_dvd_natCast.2 (Nat.gcd_dvd_right _ _)
  have eN : mkN (-a) b = -lowN (-a) b := mkN_other (by rw [decide_eq_true (show -a < 0 by omega), decide_eq_false (show ¬ b < 0 by omega)]; rfl)
  have x1 := Int.mul_ediv_cancel' h1
  have x2 := Int.mul_ediv_cancel' h2
  have b1 := Int.ediv_nonneg (show 0 ≤ (((-a).natAbs : Nat) : Int) by omega) (show 0 ≤ ((Int.gcd (-a) b : Nat) : Int) by omega)
  have b2 := Int.ediv_le_self ((Int.gcd (-a) b : Nat) : Int) (show 0 ≤ (((-a).natAbs : Nat) : Int) by omega)
  have b3 := Int.ediv_nonneg (show 0 ≤ ((b.natAbs : Nat) : Int) by omega) (show 0 ≤ ((Int.gcd (-a) b : Nat) : Int) by omega)
  have b4 := Int.ediv_le_self ((Int.gcd (-a) b : Nat) : Int) (show 0 ≤ ((b.natAbs : Nat) : Int) by omega)
  have p : lowD (-a) b ≠ 0 := by
    intro h0
    unfold lowD at h0
    rw [h0] at x2
    omega
  refine ⟨((Int.gcd (-a) b : Nat) : Int), by omega, ?_, ?_, ?_, ?_, ?_, ?_, ?_⟩
  · rw [eN]; unfold lowN
    generalize (((-a).natAbs : Nat) : Int) / ((Int.gcd (-a) b : Nat) : Int) = q at *
    rw [Int.mul_neg, x1]; omega
  · unfold lowD; rw [x2]; omega
  · unfold lowOk lowN lowD; exact decide_eq_true ⟨by omega, by omega⟩
  · rw [eN]; unfold lowN; omega
  · rw [eN]; unfold lowN; omega
  · unfold lowD at p ⊢; omega
  · unfold lowD; omega
/-- One more pair. -/
theorem mul_step {n d a b : Int} (ha : 6 ≤ a ∧ a ≤ 240) (hb : 6 ≤ b ∧ b ≤ 240) : mkN (mulX n (mkN (-a) b)) (mulX d (lowD (-a) b)) = mkN (-n * a) (d * b) ∧ lowD (mulX n (mkN (-a) b)) (mulX d (lowD (-a) b)) = lowD (-n * a) (d * b) ∧ lowOk (mulX n (mkN (-a) b)) (mulX d (lowD (-a) b)) = lowOk (-n * a) (d * b) := by
  obtain ⟨g, hg, e1, e2, _⟩ := step_back ha hb
  have h1 : -n * a = g * (n * mkN (-a) b) := by
    have : -n * a = n * -a := by grind
    rw [this]
    generalize mkN (-a) b = m at *
    rw [e1]; grind
  have h2 : d * b = g * (d * lowD (-a) b) := by
    generalize lowD (-a) b = m at *
    rw [e2]; grind
  rw [h1, h2]
  obtain ⟨r1, r2, r3⟩ := mk_scale (x := n * mkN (-a) b) (y := d * lowD (-a) b) hg
  exact ⟨r1.symm, r2.symm, r3.symm⟩
/-- The ratio of a train from n / d on; none if a term leaves the range on the way. -/
def trF : Int → Int → List (Int × Int) → Option (Int × Int)
  | n, d, [] => some (n, d)
  | n, d, p :: ps => if lowOk (-n * p.1) (d * p.2) then trF (mkN (-n * p.1) (d * p.2)) (lowD (-n * p.1) (d * p.2)) ps else none
def trA (ps : List (Int × Int)) : Int := if okT ps then (match trF 1 1 ps with | some r => r.1 | none => 0) else 0
def trB (ps : List (Int × Int)) : Int := if okT ps then (match trF 1 1 ps with | some r => r.2 | none => 0) else 0
def trC' (ps : List (Int × Int)) : Int := if okT ps then (match trF 1 1 ps with | some _ => 0 | none => 2) else 1
theorem tr_bad {ps : List (Int × Int)} (h : okT ps = false) : trA ps = 0 ∧ trB ps = 0 ∧ trC' ps = 1 := by simp [trA, trB, trC', h]
theorem tr_far {ps : List (Int × Int)} (h : okT ps = true) (h2 : trF 1 1 ps = none) : trA ps = 0 ∧ trB ps = 0 ∧ trC' ps = 2 := by simp [trA, trB, trC', h, h2]
theorem tr_got {ps : List (Int × Int)} {n d : Int} (h : okT ps = true) (h2 : trF 1 1 ps = some (n, d)) : trA ps = n ∧ trB ps = d ∧ trC' ps = 0 := by simp [trA, trB, trC', h, h2]
theorem trF_go {ps : List (Int × Int)} {k : Nat} {n d : Int} (hk : k < ps.length) (h : lowOk (-n * (pat ps k).1) (d * (pat ps k).2) = true) : trF n d (ps.drop k) = trF (mkN (-n * (pat ps k).1) (d * (pat ps k).2)) (lowD (-n * (pat ps k).1) (d * (pat ps k).2)) (ps.drop (k + 1)) := by
  rw [List.drop_eq_getElem_cons hk, pat_get hk, trF, if_pos h]
theorem trF_no {ps : List (Int × Int)} {k : Nat} {n d : Int} (hk : k < ps.length) (h : lowOk (-n * (pat ps k).1) (d * (pat ps k).2) = false) : trF n d (ps.drop k) = none := by
  rw [List.drop_eq_getElem_cons hk, pat_get hk, trF, if_neg (by rw [h]; decide)]
theorem trF_end {ps : List (Int × Int)} {n d : Int} : trF n d (ps.drop ps.length) = some (n, d) := by rw [List.drop_of_length_le (Nat.le_refl _), trF]
theorem prod_bd {n a : Int} (h1 : -1000000000 ≤ n) (h2 : n ≤ 1000000000) (h3 : 6 ≤ a) (h4 : a ≤ 240) : -240000000000 ≤ -n * a ∧ -n * a ≤ 240000000000 := by
  have e1 : -1000000000 * a ≤ -n * a := Int.mul_le_mul_of_nonneg_right (by omega) (by omega)
  have e2 : -n * a ≤ 1000000000 * a := Int.mul_le_mul_of_nonneg_right (by omega) (by omega)
  omega
theorem prod_pos {d b : Int} (h1 : 1 ≤ d) (h2 : d ≤ 1000000000) (h3 : 6 ≤ b) (h4 : b ≤ 240) : 1 ≤ d * b ∧ d * b ≤ 240000000000 := by
  have e1 : 1 * b ≤ d * b := Int.mul_le_mul_of_nonneg_right h1 (by omega)
  have e2 : d * b ≤ 1000000000 * b := Int.mul_le_mul_of_nonneg_right h2 (by omega)
  omega
end Go.Proofs.YtcklcledchboiaaDoor

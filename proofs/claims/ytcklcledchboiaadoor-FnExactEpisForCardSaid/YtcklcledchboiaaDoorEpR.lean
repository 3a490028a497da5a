/-
  The turns of one member for one turn of another: the plain words; every ratio on the way is there.
-/
import Derived.Test.YtcklcledchboiaaDoorMem
namespace Go.Proofs.YtcklcledchboiaaDoor
open Go.RowKit

def epiR (s r p c f t : Int) : R3 :=
  if okE s r p c then
    (if inB f 0 2 && inB t 0 2 && f != t then
      (if f = 0 then (if t = 1 then dr3 s r p c s r 1 1 0 1 else ca3 s r p c 1 1 0 1)
       else if f = 1 then (if t = 0 then dr3 s r p c r s 1 1 0 1 else ca3 s r p c 0 1 1 1)
       else (if t = 0 then dr3 s r p c r s 0 1 1 1 else dr3 s r p c s r 0 1 1 1))
     else (0, 0, 2))
  else (0, 0, 1)
theorem epiR_no {s r p c f t : Int} (h : okE s r p c = false) : epiR s r p c f t = (0, 0, 1) := by simp [epiR, h]
theorem epiR_out {s r p c f t : Int} (h : okE s r p c = true) (h2 : (inB f 0 2 && inB t 0 2 && f != t) = false) : epiR s r p c f t = (0, 0, 2) := by simp only [epiR, h, h2, if_true, if_false, Bool.false_eq_true]
theorem epiR_01 {s r p c : Int} (h : okE s r p c = true) : epiR s r p c 0 1 = dr3 s r p c s r 1 1 0 1 := by simp [epiR, h, inB]
theorem epiR_02 {s r p c : Int} (h : okE s r p c = true) : epiR s r p c 0 2 = ca3 s r p c 1 1 0 1 := by simp [epiR, h, inB]
theorem epiR_10 {s r p c : Int} (h : okE s r p c = true) : epiR s r p c 1 0 = dr3 s r p c r s 1 1 0 1 := by simp [epiR, h, inB]
theorem epiR_12 {s r p c : Int} (h : okE s r p c = true) : epiR s r p c 1 2 = ca3 s r p c 0 1 1 1 := by simp [epiR, h, inB]
theorem epiR_20 {s r p c : Int} (h : okE s r p c = true) : epiR s r p c 2 0 = dr3 s r p c r s 0 1 1 1 := by simp [epiR, h, inB]
theorem epiR_21 {s r p c : Int} (h : okE s r p c = true) : epiR s r p c 2 1 = dr3 s r p c s r 0 1 1 1 := by simp [epiR, h, inB]
theorem lowN_le (x y : Int) : 0 ≤ lowN x y ∧ lowN x y ≤ ((x.natAbs : Nat) : Int) := by
  unfold lowN
  exact ⟨Int.ediv_nonneg (by omega) (by omega), Int.ediv_le_self _ (by omega)⟩
theorem lowD_le (x y : Int) : 0 ≤ lowD x y ∧ lowD x y ≤ ((y.natAbs : Nat) : Int) := by
  unfold lowD
  exact ⟨Int.ediv_nonneg (by omega) (by omega), Int.ediv_le_self _ (by omega)⟩
theorem low_abs {x y : Int} (h1 : -1000000000 ≤ x) (h2 : x ≤ 1000000000) (h3 : 1 ≤ y) (h4 : y ≤ 1000000000) : lowP x y := by
  have a := lowN_le x y
  have b := lowD_le x y
  refine ⟨by omega, ?_⟩
  unfold lowOk
  exact decide_eq_true ⟨by omega, by omega⟩
theorem mkN_abs (x y : Int) : -((x.natAbs : Nat) : Int) ≤ mkN x y ∧ mkN x y ≤ ((x.natAbs : Nat) : Int) := by
  have := lowN_le x y
  unfold mkN
  split <;> omega
theorem mul_in {x y A B : Int} (h1 : -A ≤ x) (h2 : x ≤ A) (h3 : 0 ≤ y) (h4 : y ≤ B) (h5 : 0 ≤ A) : -(A * B) ≤ x * y ∧ x * y ≤ A * B := by
  have a1 := Int.mul_le_mul_of_nonneg_right h2 h3
  have a2 := Int.mul_le_mul_of_nonneg_left h4 h5
  have a3 := Int.mul_le_mul_of_nonneg_right h1 h3
  rw [Int.neg_mul] at a3
  omega
theorem mu_bd {a b m n A B : Int} (h : okR a b = true) (h1 : okR m n = true) (hc : muC a b m n = 0) (hA : -A ≤ mulX a m ∧ mulX a m ≤ A) (hB : mulX b n ≤ B) :
    (-A ≤ muA a b m n ∧ muA a b m n ≤ A) ∧ 1 ≤ muB a b m n ∧ muB a b m n ≤ B := by
  have hm := mu_make h h1
  have hl : lowOk (mulX a m) (mulX b n) = true := by
    cases hl : lowOk (mulX a m) (mulX b n)
    · rw [hl] at hm
      have : muC a b m n = 2 := by have := congrArg (fun x : R3 => x.2.2) hm; simpa [mu3] using this
      omega
    · rfl
  rw [hl, if_pos rfl] at hm
  have e1 : muA a b m n = mkA (mulX a m) (mulX b n) := by have := congrArg (fun x : R3 => x.1) hm; simpa [mu3] using this
  have e2 : muB a b m n = mkB (mulX a m) (mulX b n) := by have := congrArg (fun x : R3 => x.2.1) hm; simpa [mu3] using this
  have ho := mk_ok h h1 hl
  obtain ⟨o1, _⟩ := okR_bd ho
  rw [e1, e2, (mk_yes hl).1, (mk_yes hl).2] at *
  have x1 := mkN_abs (mulX a m) (mulX b n)
  have x2 := lowD_le (mulX a m) (mulX b n)
  have p1 := (okR_bd h).1
  have p2 := (okR_bd h1).1
  have x3 : 0 < mulX b n := Int.mul_pos (by omega) (by omega)
  omega
theorem rA_bd {x y : Int} (h1 : 1 ≤ x) (h2 : x ≤ 1000) (h3 : 1 ≤ y) (h4 : y ≤ 1000) : (-1000 ≤ rA x y ∧ rA x y ≤ 1000) ∧ 1 ≤ rB x y ∧ rB x y ≤ 1000 := by
  have hl := low_small h1 h2 h3 h4
  obtain ⟨e1, e2, _⟩ := r_yes (show y ≠ 0 by omega) hl
  have o := (okR_bd (teeth_ok h1 h2 h3 h4)).1
  rw [e1, e2] at *
  have a := mkN_abs x y
  have b := lowD_le x y
  rw [e2] at o
  omega
theorem drP_of {s r p c pd pn a u e : Int} (hb : okE s r p c = true → (1 ≤ pd ∧ pd ≤ 1000) ∧ 1 ≤ pn ∧ pn ≤ 1000) (hsu : su3 a 1 u 1 = (e, 1, 0)) (he1 : -1 ≤ e) (he2 : e ≤ 1) (ha : 0 ≤ a ∧ a ≤ 1) (hu : 0 ≤ u ∧ u ≤ 1) (hoe : okR e 1 = true) :
    DrP lowP s r p c pd pn a 1 u 1 := by
  intro ho _ _
  obtain ⟨⟨b1, b2⟩, b3, b4⟩ := hb ho
  have e1 : suA a 1 u 1 = e := congrArg (fun x : R3 => x.1) hsu
  have e2 : suB a 1 u 1 = 1 := congrArg (fun x : R3 => x.2.1) hsu
  obtain ⟨⟨m1, m2⟩, n1, n2⟩ := rA_bd b1 b2 b3 b4
  have hk := teeth_ok b1 b2 b3 b4
  refine ⟨low_abs (by unfold addX; omega) (by unfold addX; omega) (by unfold mulX; omega) (by unfold mulX; omega), fun _ => ?_⟩
  rw [e1, e2]
  generalize rA pd pn = m at *
  generalize rB pd pn = n at *
  have hm : -1000 ≤ mulX e m ∧ mulX e m ≤ 1000 := by
    have : e = -1 ∨ e = 0 ∨ e = 1 := by omega
    unfold mulX
    rcases this with rfl | rfl | rfl <;> omega
  refine ⟨low_abs (by omega) (by omega) (by unfold mulX; omega) (by unfold mulX; omega), fun hc => ?_⟩
  obtain ⟨⟨x1, x2⟩, y1, y2⟩ := mu_bd (A := 1000) (B := 1000) hoe hk hc hm (by unfold mulX; omega)
  generalize muA e 1 m n = x at *
  generalize muB e 1 m n = y at *
  have hu' : u = 0 ∨ u = 1 := by omega
  refine low_abs ?_ ?_ (by unfold mulX; omega) (by unfold mulX; omega)
  · unfold addX; rcases hu' with rfl | rfl <;> omega
  · unfold addX; rcases hu' with rfl | rfl <;> omega
theorem caP_of {s r p c a u : Int} (ha : a = 0 ∨ a = 1) (hu : u = 0 ∨ u = 1) : CaP lowP s r p c a 1 u 1 := by
  intro ho g1 g2
  obtain ⟨⟨t1, t2⟩, ⟨t3, t4⟩, _⟩ := okE_bd ho
  obtain ⟨⟨m1, m2⟩, n1, n2⟩ := rA_bd (x := s) (y := s + r) (by omega) (by omega) (by omega) (by omega)
  obtain ⟨⟨m3, m4⟩, n3, n4⟩ := rA_bd (x := r) (y := s + r) (by omega) (by omega) (by omega) (by omega)
  have hk1 := teeth_ok (a := s) (b := s + r) (by omega) (by omega) (by omega) (by omega)
  have hk2 := teeth_ok (a := r) (b := s + r) (by omega) (by omega) (by omega) (by omega)
  generalize rA s (s + r) = m at *
  generalize rB s (s + r) = n at *
  generalize rA r (s + r) = m' at *
  generalize rB r (s + r) = n' at *
  have hm : -1000 ≤ mulX a m ∧ mulX a m ≤ 1000 := by unfold mulX; rcases ha with rfl | rfl <;> omega
  have hm' : -1000 ≤ mulX u m' ∧ mulX u m' ≤ 1000 := by unfold mulX; rcases hu with rfl | rfl <;> omega
  refine ⟨low_abs (by omega) (by omega) (by unfold mulX; omega) (by unfold mulX; omega), fun hc => ⟨low_abs (by omega) (by omega) (by unfold mulX; omega) (by unfold mulX; omega), fun hc' => ?_⟩⟩
  obtain ⟨⟨x1, x2⟩, y1, y2⟩ := mu_bd (A := 1000) (B := 1000) g1 hk1 hc hm (by unfold mulX; omega)
  obtain ⟨⟨x3, x4⟩, y3, y4⟩ := mu_bd (A := 1000) (B := 1000) g2 hk2 hc' hm' (by unfold mulX; omega)
  generalize muA a 1 m n = x at *
  generalize muB a 1 m n = y at *
  generalize muA u 1 m' n' = x' at *
  generalize muB u 1 m' n' = y' at *
  have z1 := mul_in (B := 1000) x1 x2 (show 0 ≤ y' by omega) y4 (by omega)
  have z2 := mul_in (B := 1000) x3 x4 (show 0 ≤ y by omega) y2 (by omega)
  have z3 := mul_in (A := 1000) (B := 1000) (show -1000 ≤ y by omega) y2 (show 0 ≤ y' by omega) y4 (by omega)
  have z4 : 0 < y * y' := Int.mul_pos (by omega) (by omega)
  exact low_abs (by unfold addX; omega) (by unfold addX; omega) (by unfold mulX; omega) (by unfold mulX; omega)
theorem su_10 : su3 1 1 0 1 = (1, 1, 0) := by decide +kernel
theorem su_01 : su3 0 1 1 1 = (-1, 1, 0) := by decide +kernel
theorem drP_10 {s r p c pd pn : Int} (hb : okE s r p c = true → (1 ≤ pd ∧ pd ≤ 1000) ∧ 1 ≤ pn ∧ pn ≤ 1000) : DrP lowP s r p c pd pn 1 1 0 1 := drP_of hb su_10 (by omega) (by omega) (by omega) (by omega) (by decide +kernel)
theorem drP_01 {s r p c pd pn : Int} (hb : okE s r p c = true → (1 ≤ pd ∧ pd ≤ 1000) ∧ 1 ≤ pn ∧ pn ≤ 1000) : DrP lowP s r p c pd pn 0 1 1 1 := drP_of hb su_01 (by omega) (by omega) (by omega) (by omega) (by decide +kernel)
end Go.Proofs.YtcklcledchboiaaDoor

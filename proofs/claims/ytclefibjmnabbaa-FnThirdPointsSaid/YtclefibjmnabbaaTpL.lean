/-
  What a third point keeps to.
-/
import Derived.Test.YtclefibjmnabbaaTpM
namespace Go.Proofs.Ytclefibjmnabbaa
open Go.RowKit

theorem near_shift (n D k : Int) (hD : 1 ≤ D) : near (n - D * k) D = near n D - k := by
  unfold near
  rw [show 2 * (n - D * k) + D = 2 * n + D + 2 * D * -k by grind, Int.add_mul_ediv_left _ _ (by omega)]
  omega
theorem tpA_sym (ra rb d : Int) : tpA rb ra d = 2 * d - tpA ra rb d := by unfold tpA; omega
theorem tpS_sym (ra rb d : Int) : tpS rb ra d = tpS ra rb d := by
  unfold tpS; rw [tpA_sym]; unfold tpA; grind
theorem tpR_sym (ra rb d : Int) (l : Bool) : tpR rb ra d (!l) = -tpR ra rb d l := by
  unfold tpR; rw [tpS_sym]; cases l <;> simp
theorem tpX_sym (a b c e A R d : Int) (hd : 1 ≤ d) : c + tpX (a - c) (b - e) (2 * d - A) (-R) d = a + tpX (c - a) (e - b) A R d := by
  unfold tpX
  rw [show (2 * d - A) * (a - c) - -R * (b - e) = (A * (c - a) - R * (e - b)) - 2 * d * (c - a) by grind, near_shift _ _ _ (by omega)]
  omega
theorem tpY_sym (a b c e A R d : Int) (hd : 1 ≤ d) : e + tpY (a - c) (b - e) (2 * d - A) (-R) d = b + tpY (c - a) (e - b) A R d := by
  unfold tpY
  rw [show (2 * d - A) * (b - e) + -R * (a - c) = (A * (e - b) + R * (c - a)) - 2 * d * (e - b) by grind, near_shift _ _ _ (by omega)]
  omega
/-- The third point does not depend on the order of the points. -/
theorem tp_sym (a b c e ra rb : Int) (l : Bool) : tpF c e a b rb ra (!l) = tpF a b c e ra rb l := by
  unfold tpF
  rw [d2_comm c e a b, Bool.and_comm (ptB c e), Bool.and_comm (inB rb 0 10000)]
  split
  · rfl
  split
  · rfl
  split
  · rfl
  rename_i h0 _ h
  have hb : ptB a b = true ∧ ptB c e = true := by simpa using h0
  obtain ⟨a1, a2, b1, b2⟩ := ptB_bd hb.1
  obtain ⟨c1, c2, e1, e2⟩ := ptB_bd hb.2
  have hd := d2_bd ⟨a1, a2⟩ ⟨b1, b2⟩ ⟨c1, c2⟩ ⟨e1, e2⟩
  rw [tpS_sym, tpA_sym, tpR_sym, tpX_sym _ _ _ _ _ _ _ (by omega), tpY_sym _ _ _ _ _ _ _ (by omega)]
theorem near_half {n d : Int} (hd : 1 ≤ d) : -d ≤ 2 * d * near n (2 * d) - n ∧ 2 * d * near n (2 * d) - n ≤ d := by
  have := near_err (n := n) (d := 2 * d) (by omega)
  have e : 2 * d * 2 * near n (2 * d) = 2 * (2 * d * near n (2 * d)) := by grind
  omega
def crs (a b c e p q : Int) : Int := (c - a) * (q - b) - (e - b) * (p - a)
/-- What a third point that is found keeps to. -/
theorem tp_ok {a b c e ra rb p q : Int} {l : Bool} (h : tpF a b c e ra rb l = (p, q, 0)) :
    ptB a b = true ∧ ptB c e = true ∧ ptB p q = true ∧ (0 ≤ ra ∧ ra ≤ 10000) ∧ (0 ≤ rb ∧ rb ≤ 10000) ∧ (-(3 * ra + 3) ≤ d2 a b p q - ra * ra ∧ d2 a b p q - ra * ra ≤ 3 * ra + 3) ∧
      (0 ≤ (if l then crs a b c e p q else -crs a b c e p q) ∨ (if l then crs a b c e p q else -crs a b c e p q) * (if l then crs a b c e p q else -crs a b c e p q) ≤ 2 * d2 a b c e) := by
  unfold tpF at h
  split at h
  · simp at h
  split at h
  · simp at h
  split at h
  · simp at h
  split at h
  · simp at h
  split at h
  · simp at h
  rename_i h0 h1 h2 h3 h4
  have hb : ptB a b = true ∧ ptB c e = true := by simpa using h0
  have hr : inB ra 0 10000 = true ∧ inB rb 0 10000 = true := by simpa using h1
  have k3 := inB_true.1 hr.1
  have k4 := inB_true.1 hr.2
  obtain ⟨a1, a2, b1, b2⟩ := ptB_bd hb.1
  obtain ⟨c1, c2, e1, e2⟩ := ptB_bd hb.2
  have hd := d2_bd ⟨a1, a2⟩ ⟨b1, b2⟩ ⟨c1, c2⟩ ⟨e1, e2⟩
  have h5 : ptB (a + tpX (c - a) (e - b) (tpA ra rb (d2 a b c e)) (tpR ra rb (d2 a b c e) l) (d2 a b c e)) (b + tpY (c - a) (e - b) (tpA ra rb (d2 a b c e)) (tpR ra rb (d2 a b c e) l) (d2 a b c e)) = true := by simpa using h4
  simp only [Prod.mk.injEq, and_true] at h
  obtain ⟨hp, hq⟩ := h
  have hD : d2 a b c e = (c - a) * (c - a) + (e - b) * (e - b) := by rw [d2_comm]; rfl
  have hS : tpS ra rb (d2 a b c e) = 4 * d2 a b c e * ra * ra - tpA ra rb (d2 a b c e) * tpA ra rb (d2 a b c e) := rfl
  have hrr := rt_is (n := tpS ra rb (d2 a b c e)) (by omega)
  have hR1 : tpR ra rb (d2 a b c e) l * tpR ra rb (d2 a b c e) l = rt (tpS ra rb (d2 a b c e)) * rt (tpS ra rb (d2 a b c e)) := by
    unfold tpR; cases l
    · simp only [Bool.false_eq_true, if_false]; rw [Int.neg_mul_neg]
    · simp only [if_true]
  have hR2 : ((tpR ra rb (d2 a b c e) l).natAbs : Int) = rt (tpS ra rb (d2 a b c e)) := by
    unfold tpR; cases l
    · simp only [Bool.false_eq_true, if_false]; omega
    · simp only [if_true]; omega
  have hR3 : tpR ra rb (d2 a b c e) l = if l then rt (tpS ra rb (d2 a b c e)) else -rt (tpS ra rb (d2 a b c e)) := rfl
  have e1' := near_half (n := tpA ra rb (d2 a b c e) * (c - a) - tpR ra rb (d2 a b c e) l * (e - b)) (d := d2 a b c e) (by omega)
  have e2' := near_half (n := tpA ra rb (d2 a b c e) * (e - b) + tpR ra rb (d2 a b c e) l * (c - a)) (d := d2 a b c e) (by omega)
  have hX : near (tpA ra rb (d2 a b c e) * (c - a) - tpR ra rb (d2 a b c e) l * (e - b)) (2 * d2 a b c e) = p - a := by rw [← hp]; unfold tpX; omega
  have hY : near (tpA ra rb (d2 a b c e) * (e - b) + tpR ra rb (d2 a b c e) l * (c - a)) (2 * d2 a b c e) = q - b := by rw [← hq]; unfold tpY; omega
  rw [hX] at e1'
  rw [hY] at e2'
  rw [hp, hq] at h5
  have hsq : rt (tpS ra rb (d2 a b c e)) * rt (tpS ra rb (d2 a b c e)) + 2 * rt (tpS ra rb (d2 a b c e)) + 1 = (rt (tpS ra rb (d2 a b c e)) + 1) * (rt (tpS ra rb (d2 a b c e)) + 1) := by grind
  refine ⟨hb.1, hb.2, h5, k3, k4, ?_, ?_⟩
  · have := tp_dist (X := p - a) (Y := q - b) hD (by omega) k3.1 hS (by rw [hR1]; exact hrr.2.1) (by rw [hR1, hR2]; omega) e1' e2'
    have e : d2 a b p q = (p - a) * (p - a) + (q - b) * (q - b) := by rw [d2_comm]; rfl
    rw [e]; exact this
  · cases l
    · simp only [Bool.false_eq_true, if_false] at hR3 ⊢
      rw [hR3] at e1' e2'
      have := tp_side (dx := c - a) (dy := -(e - b)) (X := p - a) (Y := -(q - b)) (A := tpA ra rb (d2 a b c e)) (R := rt (tpS ra rb (d2 a b c e))) (d := d2 a b c e) (by rw [hD]; grind) (by omega) hrr.1
        (by
          have : tpA ra rb (d2 a b c e) * (c - a) - rt (tpS ra rb (d2 a b c e)) * -(e - b) = tpA ra rb (d2 a b c e) * (c - a) - -rt (tpS ra rb (d2 a b c e)) * (e - b) := by grind
          rw [this]; exact e1')
        (by
          have : tpA ra rb (d2 a b c e) * -(e - b) + rt (tpS ra rb (d2 a b c e)) * (c - a) = -(tpA ra rb (d2 a b c e) * (e - b) + -rt (tpS ra rb (d2 a b c e)) * (c - a)) := by grind
          rw [this]
          have : 2 * d2 a b c e * -(q - b) = -(2 * d2 a b c e * (q - b)) := by grind
          rw [this]; omega)
      have ec : (c - a) * -(q - b) - -(e - b) * (p - a) = -crs a b c e p q := by unfold crs; grind
      rw [ec] at this
      exact this
    · simp only [if_true] at hR3 ⊢
      rw [hR3] at e1' e2'
      exact tp_side hD (by omega) hrr.1 e1' e2'
end Go.Proofs.Ytclefibjmnabbaa

/-
  Drifts, worst segments, best bases: the plain words (no program).
-/
import Derived.Test.YtclefibjmnabbaaRaM
import Derived.Test.YtclefibjmnabbaaNear
import Derived.Test.YtclefibjmnabbaaEsA
namespace Go.Proofs.Ytclefibjmnabbaa

theorem rnK_at {f : Int × Int → Int} {ps : List (Int × Int)} {k i : Nat} (h : i < k) : at0 (rnK f ps k) i = smF f (ps.take (i + 1)) := by
  unfold at0 rnK; rw [List.getElem?_map, List.getElem?_range h]; rfl
/-- The last of some numbers, or 0. -/
def lastI (ts : List Int) : Int := if ts.length = 0 then 0 else at0 ts (ts.length - 1)
theorem lastI_0 {ts : List Int} (h : ts.length = 0) : lastI ts = 0 := by simp [lastI, h]
theorem lastI_1 {ts : List Int} (h : ¬ ts.length = 0) : lastI ts = at0 ts (ts.length - 1) := by
  unfold lastI; rw [if_neg h]
theorem last_rn (f : Int × Int → Int) (ps : List (Int × Int)) : lastI (rnK f ps ps.length) = smF f ps := by
  by_cases h : ps.length = 0
  · rw [lastI_0 (by rw [rnK_len]; exact h), List.length_eq_zero_iff.1 h]; rfl
  · rw [lastI_1 (by rw [rnK_len]; exact h), rnK_len, rnK_at (by omega), Nat.sub_add_cancel (by omega), List.take_of_length_le (Nat.le_refl _)]
theorem rn_bd {b l c m : Int} (h : Rte b l c m) {ps : List (Int × Int)} (hp : okSl ps = true) {i k : Nat} (hi : i < k) : -28800000000000 ≤ at0 (rnK (drS b l c m) ps k) i ∧ at0 (rnK (drS b l c m) ps k) i ≤ 28800000000000 := by
  rw [rnK_at hi]; exact sumD_bd h hp _
/-- The drifts behind the first k of some sums. -/
def daK (ts : List Int) (k : Nat) : List Int := (ts.take k).map fun s => near s 24
theorem daK_len {ts : List Int} {k : Nat} (h : k ≤ ts.length) : (daK ts k).length = k := by unfold daK; rw [List.length_map, List.length_take]; omega
theorem daK_succ {ts : List Int} {k : Nat} (h : k < ts.length) : daK ts (k + 1) = daK ts k ++ [near (at0 ts k) 24] := by
  unfold daK at0
  rw [List.take_succ_eq_append_getElem h, List.map_append, List.getElem?_eq_getElem h]; rfl
theorem daK_set {ts : List Int} {k : Nat} (h : k < ts.length) : (daK ts k ++ ts.drop k).set k (near (at0 ts k) 24) = daK ts (k + 1) ++ ts.drop (k + 1) := by
  have hl := daK_len (Nat.le_of_lt h)
  rw [List.set_append_right _ _ (by omega), hl, Nat.sub_self, List.drop_eq_getElem_cons h, List.set_cons_zero, daK_succ h]
  simp
theorem daK_mid {ts : List Int} {k : Nat} (h : k < ts.length) : at0 (daK ts k ++ ts.drop k) k = at0 ts k := by
  have hl := daK_len (Nat.le_of_lt h)
  unfold at0
  rw [List.getElem?_append_right (by omega), hl, Nat.sub_self, List.getElem?_drop, Nat.add_zero]
def daL (b l c m : Int) (ps : List (Int × Int)) : List Int × Int := if okRt b l c m = true ∧ okSl ps = true then (daK (rnK (drS b l c m) ps ps.length) ps.length, 0) else ([], 1)
theorem daL_1 {b l c m : Int} {ps : List (Int × Int)} (h : okRt b l c m = false) : daL b l c m ps = ([], 1) := by simp [daL, h]
theorem daL_2 {b l c m : Int} {ps : List (Int × Int)} (h : okSl ps = false) : daL b l c m ps = ([], 1) := by simp [daL, h]
theorem daL_0 {b l c m : Int} {ps : List (Int × Int)} (h : okRt b l c m = true) (h2 : okSl ps = true) : daL b l c m ps = (daK (rnK (drS b l c m) ps ps.length) ps.length, 0) := by simp [daL, h, h2]
theorem daL_len (b l c m : Int) (ps : List (Int × Int)) : (daL b l c m ps).1.length ≤ 1000000 := by
  by_cases h : okRt b l c m = true ∧ okSl ps = true
  · rw [daL_0 h.1 h.2]
    have := (okSl_iff.1 h.2).1
    show (daK (rnK (drS b l c m) ps ps.length) ps.length).length ≤ 1000000
    rw [daK_len (by rw [rnK_len]; exact Nat.le_refl _)]
    omega
  · unfold daL; rw [if_neg h]; simp
/-- The first of the greatest among the first k numbers, by size. -/
def wsK (ts : List Int) : Nat → Nat
  | 0 => 0
  | k + 1 => if (at0 ts (wsK ts k)).natAbs < (at0 ts k).natAbs then k else wsK ts k
theorem wsK_up {ts : List Int} {k : Nat} (h : (at0 ts (wsK ts k)).natAbs < (at0 ts k).natAbs) : wsK ts (k + 1) = k := by simp [wsK, h]
theorem wsK_stay {ts : List Int} {k : Nat} (h : ¬ (at0 ts (wsK ts k)).natAbs < (at0 ts k).natAbs) : wsK ts (k + 1) = wsK ts k := by simp [wsK, h]
theorem wsK_one (ts : List Int) : wsK ts 1 = 0 := by simp [wsK]
theorem wsK_le (ts : List Int) : ∀ k : Nat, wsK ts k ≤ k
  | 0 => Nat.le_refl _
  | k + 1 => by
    have := wsK_le ts k
    unfold wsK
    split <;> omega
theorem wsK_lt (ts : List Int) : ∀ {k : Nat}, 0 < k → wsK ts k < k
  | 0, h => absurd h (Nat.lt_irrefl _)
  | 1, _ => by rw [wsK_one]; omega
  | k + 2, _ => by
    have := wsK_lt ts (k := k + 1) (by omega)
    unfold wsK
    split <;> omega
def wsE (b l c m : Int) (ps : List (Int × Int)) : Int × Int := if okRt b l c m = true ∧ okSl ps = true then (if ps.length = 0 then (0, 6) else ((wsK (rnK (drS b l c m) ps ps.length) ps.length : Int), 0)) else (0, 1)
theorem wsE_1 {b l c m : Int} {ps : List (Int × Int)} (h : okRt b l c m = false) : wsE b l c m ps = (0, 1) := by simp [wsE, h]
theorem wsE_2 {b l c m : Int} {ps : List (Int × Int)} (h : okSl ps = false) : wsE b l c m ps = (0, 1) := by simp [wsE, h]
theorem wsE_6 {b l c m : Int} {ps : List (Int × Int)} (h : okRt b l c m = true) (h2 : okSl ps = true) (h3 : ps.length = 0) : wsE b l c m ps = (0, 6) := by simp only [wsE, h, h2, h3, and_self, if_true]
theorem wsE_0 {b l c m : Int} {ps : List (Int × Int)} (h : okRt b l c m = true) (h2 : okSl ps = true) (h3 : ¬ ps.length = 0) : wsE b l c m ps = ((wsK (rnK (drS b l c m) ps ps.length) ps.length : Int), 0) := by simp only [wsE, h, h2, and_self, if_true]; rw [if_neg h3]
/-- The base at which s + base * h is least in size, the lesser one of two; that within the limits. -/
def bbN (s h : Int) : Int := if h < 2 * ((-s) % h) then (-s) / h + 1 else (-s) / h
def bbC (x : Int) : Int := max (-100000000) (min 100000000 x)
theorem bbN_near {s h : Int} (hh : 1 ≤ h) : -near s h = bbN s h := by
  have := near_neg (m := -s) hh
  rw [Int.neg_neg] at this
  unfold bbN
  split
  · next e => rw [this.2 e]; omega
  · next e => rw [this.1 (by omega)]; omega
theorem bb_step {s h : Int} (hh : 1 ≤ h) : (((((-s) / h + 1) * h + s).natAbs < ((-s) / h * h + s).natAbs) ↔ h < 2 * ((-s) % h)) ∧ ((-s) / h * h + s) = -((-s) % h) ∧ (((-s) / h + 1) * h + s) = h - (-s) % h ∧ 0 ≤ (-s) % h ∧ (-s) % h < h := by
  have e := Int.mul_ediv_add_emod (-s) h
  have r0 := Int.emod_nonneg (-s) (show h ≠ 0 by omega)
  have r1 := Int.emod_lt_of_pos (-s) (show 0 < h by omega)
  generalize (-s) / h = q at *
  generalize (-s) % h = r at *
  have e2 : (q + 1) * h = h * q + h := by rw [Int.add_mul, Int.mul_comm]; omega
  have e3 : q * h = h * q := Int.mul_comm _ _
  omega
theorem bbQ_bd {s h : Int} (hh : 1 ≤ h) (hs : -28800000000000 ≤ s ∧ s ≤ 28800000000000) : -28800000000000 ≤ (-s) / h ∧ (-s) / h ≤ 28800000000000 := by
  refine ⟨Int.le_ediv_of_mul_le (by omega) ?_, Int.ediv_le_of_le_mul (by omega) ?_⟩
  · have := Int.mul_le_mul_of_nonneg_left hh (show (0 : Int) ≤ 28800000000000 by omega)
    rw [Int.neg_mul]; omega
  · have := Int.mul_le_mul_of_nonneg_left hh (show (0 : Int) ≤ 28800000000000 by omega)
    omega
theorem bbN_bd {s h : Int} (hh : 1 ≤ h) (hs : -28800000000000 ≤ s ∧ s ≤ 28800000000000) : -28800000000001 ≤ bbN s h ∧ bbN s h ≤ 28800000000001 := by
  have := bbQ_bd hh hs
  unfold bbN
  split <;> omega
theorem bbC_eq (x : Int) : max (-100000000) (min 100000000 x) = bbC x := rfl
theorem bbC_eq2 (x : Int) : min (max x (-100000000)) 100000000 = bbC x := by unfold bbC; omega
def bbE (b l c m : Int) (ps : List (Int × Int)) : Int × Int := if okRt b l c m = true ∧ okSl ps = true then (if ps.length = 0 then (0, 6) else (bbC (bbN (smF (drS 0 l c m) ps) (smF hrS ps)), 0)) else (0, 1)
theorem bbE_1 {b l c m : Int} {ps : List (Int × Int)} (h : okRt b l c m = false) : bbE b l c m ps = (0, 1) := by simp [bbE, h]
theorem bbE_2 {b l c m : Int} {ps : List (Int × Int)} (h : okSl ps = false) : bbE b l c m ps = (0, 1) := by simp [bbE, h]
theorem bbE_6 {b l c m : Int} {ps : List (Int × Int)} (h : okRt b l c m = true) (h2 : okSl ps = true) (h3 : ps.length = 0) : bbE b l c m ps = (0, 6) := by simp only [bbE, h, h2, h3, and_self, if_true]
theorem bbE_0 {b l c m : Int} {ps : List (Int × Int)} (h : okRt b l c m = true) (h2 : okSl ps = true) (h3 : ¬ ps.length = 0) : bbE b l c m ps = (bbC (bbN (smF (drS 0 l c m) ps) (smF hrS ps)), 0) := by simp only [bbE, h, h2, and_self, if_true]; rw [if_neg h3]
end Go.Proofs.Ytclefibjmnabbaa

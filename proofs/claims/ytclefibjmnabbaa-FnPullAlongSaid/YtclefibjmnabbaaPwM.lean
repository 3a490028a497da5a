/-
  Torque along trains, weights and days: the plain words (no program).
-/
import Derived.Test.YtclefibjmnabbaaRaM
import Derived.Test.YtclefibjmnabbaaTrI
import Derived.Test.YtclefibjmnabbaaBs
namespace Go.Proofs.Ytclefibjmnabbaa

/-- A pair's part of the torque: through the wheels; behind the loss. -/
def paG (q : Int) (p : Int × Int) : Int := q * p.2 / p.1
def paS (l q : Int) (p : Int × Int) : Int := paG q p * (1000 - l) / 1000
/-- The torque behind all pairs; behind the first k of them; all of them. -/
def paV (l q : Int) (ps : List (Int × Int)) : Int := ps.foldl (paS l) q
def paK (l q : Int) (ps : List (Int × Int)) (k : Nat) : List Int := (List.range (k + 1)).map fun i => paV l q (ps.take i)
theorem paV_take {l q : Int} {ps : List (Int × Int)} {k : Nat} (h : k < ps.length) : paV l q (ps.take (k + 1)) = paS l (paV l q (ps.take k)) (pat ps k) := by
  unfold paV; rw [pat_take h, List.foldl_append]; rfl
theorem paK_zero (l q : Int) (ps : List (Int × Int)) : paK l q ps 0 = [q] := by simp [paK, paV]
theorem paK_succ (l q : Int) (ps : List (Int × Int)) (k : Nat) : paK l q ps (k + 1) = paK l q ps k ++ [paV l q (ps.take (k + 1))] := by
  unfold paK; rw [List.range_succ]; simp
theorem paK_len (l q : Int) (ps : List (Int × Int)) (k : Nat) : (paK l q ps k).length = k + 1 := by simp [paK]
theorem paK_at {l q : Int} {ps : List (Int × Int)} {k i : Nat} (h : i ≤ k) : at0 (paK l q ps k) i = paV l q (ps.take i) := by
  unfold at0 paK; rw [List.getElem?_map, List.getElem?_range (by omega)]; rfl
theorem paG_bd {q M : Int} {p : Int × Int} (hq : 0 ≤ q) (hM : q ≤ M) (h : 6 ≤ p.1 ∧ p.1 ≤ 240 ∧ 6 ≤ p.2 ∧ p.2 ≤ 240) : (0 ≤ q * p.2 ∧ q * p.2 ≤ 240 * M) ∧ 0 ≤ paG q p ∧ paG q p ≤ 40 * M := by
  have h0 := Int.mul_nonneg hq (show 0 ≤ p.2 by omega)
  have h1 := Int.mul_le_mul hM h.2.2.2 (show 0 ≤ p.2 by omega) (show 0 ≤ M by omega)
  have h2 : 0 ≤ paG q p := Int.ediv_nonneg h0 (by omega)
  have h3 : paG q p ≤ 40 * M := by
    unfold paG
    refine Int.ediv_le_of_le_mul (by omega) ?_
    have := Int.mul_le_mul_of_nonneg_left h.1 (show 0 ≤ 40 * M by omega)
    omega
  omega
theorem paS_bd {l q M : Int} {p : Int × Int} (hl : 0 ≤ l ∧ l ≤ 1000) (hq : 0 ≤ q) (hM : q ≤ M) (h : 6 ≤ p.1 ∧ p.1 ≤ 240 ∧ 6 ≤ p.2 ∧ p.2 ≤ 240) : (0 ≤ paG q p * (1000 - l) ∧ paG q p * (1000 - l) ≤ 40000 * M) ∧ 0 ≤ paS l q p ∧ paS l q p ≤ 40 * M := by
  obtain ⟨_, h2, h3⟩ := paG_bd hq hM h
  have h4 := Int.mul_nonneg h2 (show 0 ≤ 1000 - l by omega)
  have h5 := Int.mul_le_mul h3 (show 1000 - l ≤ 1000 by omega) (by omega) (show 0 ≤ 40 * M by omega)
  unfold paS
  omega
/-- The greatest torque behind k pairs. -/
def paM : Nat → Int
  | 0 => 1000000
  | k + 1 => 40 * paM k
theorem paM_le : ∀ {k : Nat}, k ≤ 5 → 1000000 ≤ paM k ∧ paM k ≤ 102400000000000
  | 0, _ => by decide
  | 1, _ => by decide
  | 2, _ => by decide
  | 3, _ => by decide
  | 4, _ => by decide
  | 5, _ => by decide
  | k + 6, h => by omega
theorem paV_bd {l q : Int} {ps : List (Int × Int)} (hp : okT ps = true) (hl : 0 ≤ l ∧ l ≤ 1000) (hq : 0 ≤ q ∧ q ≤ 1000000) : ∀ {k : Nat}, k ≤ ps.length → 0 ≤ paV l q (ps.take k) ∧ paV l q (ps.take k) ≤ paM k
  | 0, _ => by simpa [paV, paM] using hq
  | k + 1, h => by
    have h1 := paV_bd hp hl hq (k := k) (by omega)
    rw [paV_take (by omega)]
    exact (paS_bd hl h1.1 h1.2 (okT_at hp (by omega))).2
theorem paV_lim {l q : Int} {ps : List (Int × Int)} (hp : okT ps = true) (hl : 0 ≤ l ∧ l ≤ 1000) (hq : 0 ≤ q ∧ q ≤ 1000000) {k : Nat} (hk : k < ps.length) : 0 ≤ paV l q (ps.take k) ∧ paV l q (ps.take k) ≤ 2560000000000 := by
  have h1 := paV_bd hp hl hq (k := k) (by omega)
  have h2 := (okT_iff.1 hp).1
  have h3 := paM_le (k := k + 1) (by omega)
  simp only [paM] at h3
  omega
theorem paV_end {l q : Int} {ps : List (Int × Int)} (hp : okT ps = true) (hl : 0 ≤ l ∧ l ≤ 1000) (hq : 0 ≤ q ∧ q ≤ 1000000) {k : Nat} (hk : k ≤ ps.length) : 0 ≤ paV l q (ps.take k) ∧ paV l q (ps.take k) ≤ 102400000000000 := by
  have h1 := paV_bd hp hl hq hk
  have h2 := (okT_iff.1 hp).1
  have h3 := paM_le (k := k) (by omega)
  omega
theorem paS_mono {l q q' : Int} {p : Int × Int} (hl : 0 ≤ l ∧ l ≤ 1000) (hp : 1 ≤ p.1 ∧ 0 ≤ p.2) (h : q ≤ q') : paS l q p ≤ paS l q' p := by
  have h1 := Int.mul_le_mul_of_nonneg_right h hp.2
  have h2 : paG q p ≤ paG q' p := Int.ediv_le_ediv (by omega) h1
  have h3 := Int.mul_le_mul_of_nonneg_right h2 (show 0 ≤ 1000 - l by omega)
  unfold paS
  exact Int.ediv_le_ediv (by omega) h3
/-- More torque never leads to less. -/
theorem paV_mono {l : Int} (hl : 0 ≤ l ∧ l ≤ 1000) : ∀ {ps : List (Int × Int)} {q q' : Int}, (∀ p ∈ ps, okP p = true) → q ≤ q' → paV l q ps ≤ paV l q' ps
  | [], _, _, _, h => h
  | p :: ps, q, q', hp, h => by
    have h1 := okP_bd (hp p (by simp))
    exact paV_mono hl (ps := ps) (fun r hr => hp r (by simp [hr])) (paS_mono hl (by omega) h)
/-- What PullAlong returns: torques and code. -/
def paC (ps : List (Int × Int)) (q l : Int) : Int := if okT ps = true then (if inB q 0 1000000 = true then (if inB l 0 1000 = true then 0 else 2) else 2) else 1
theorem paC_1 {ps : List (Int × Int)} {q l : Int} (h : okT ps = false) : paC ps q l = 1 := by simp [paC, h]
theorem paC_2 {ps : List (Int × Int)} {q l : Int} (h : okT ps = true) (h2 : inB q 0 1000000 = false) : paC ps q l = 2 := by simp [paC, h, h2]
theorem paC_3 {ps : List (Int × Int)} {q l : Int} (h : okT ps = true) (h2 : inB q 0 1000000 = true) (h3 : inB l 0 1000 = false) : paC ps q l = 2 := by simp [paC, h, h2, h3]
theorem paC_0 {ps : List (Int × Int)} {q l : Int} (h : okT ps = true) (h2 : inB q 0 1000000 = true) (h3 : inB l 0 1000 = true) : paC ps q l = 0 := by simp [paC, h, h2, h3]
theorem paC_cases (ps : List (Int × Int)) (q l : Int) : (paC ps q l = 0 ∧ okT ps = true ∧ inB q 0 1000000 = true ∧ inB l 0 1000 = true) ∨ (paC ps q l ≠ 0 ∧ (paC ps q l = 1 ∨ paC ps q l = 2)) := by
  unfold paC
  cases h : okT ps
  · right; simp
  · cases h2 : inB q 0 1000000
    · right; simp
    · cases h3 : inB l 0 1000
      · right; simp
      · left; simp
def paL (ps : List (Int × Int)) (q l : Int) : List Int := if paC ps q l = 0 then paK l q ps ps.length else []
theorem paL_no {ps : List (Int × Int)} {q l : Int} (h : paC ps q l ≠ 0) : paL ps q l = [] := by simp [paL, h]
theorem paL_yes {ps : List (Int × Int)} {q l : Int} (h : paC ps q l = 0) : paL ps q l = paK l q ps ps.length := by simp [paL, h]
theorem paL_len (ps : List (Int × Int)) (q l : Int) : (paL ps q l).length ≤ 1000000 := by
  rcases paC_cases ps q l with ⟨h0, h1, _⟩ | ⟨h0, _⟩
  · rw [paL_yes h0, paK_len]
    have := (okT_iff.1 h1).1
    omega
  · rw [paL_no h0]; simp
/-- Whether a torque is enough. -/
def enQ (ps : List (Int × Int)) (n l : Int) (q : Nat) : Bool := decide (n ≤ paV l q ps)
theorem enQ_mono {ps : List (Int × Int)} {n l : Int} (hp : okT ps = true) (hl : 0 ≤ l ∧ l ≤ 1000) {x y : Nat} (h : x ≤ y) (hx : enQ ps n l x = true) : enQ ps n l y = true := by
  have h1 := paV_mono hl (ps := ps) (q := (x : Int)) (q' := (y : Int)) (okT_iff.1 hp).2 (by omega)
  simp only [enQ, decide_eq_true_eq] at hx ⊢
  omega
/-- Least torque, and code. -/
def leE (ps : List (Int × Int)) (n l : Int) : Int × Int := if paC ps n l = 0 then luP (enQ ps n l) 1000000 else (0, paC ps n l)
theorem leE_1 {ps : List (Int × Int)} {n l : Int} (h : paC ps n l ≠ 0) : leE ps n l = (0, paC ps n l) := by simp [leE, h]
theorem leE_0 {ps : List (Int × Int)} {n l : Int} (h : paC ps n l = 0) : leE ps n l = luP (enQ ps n l) 1000000 := by simp [leE, h]
/-- Weights and days. -/
def weE (m r : Int) : Int × Int := if inB m 0 1000000000 = true then (if inB r 1 10000 = true then ((m + r - 1) / r, 0) else (0, 2)) else (0, 2)
theorem weE_1 {m r : Int} (h : inB m 0 1000000000 = false) : weE m r = (0, 2) := by simp [weE, h]
theorem weE_2 {m r : Int} (h : inB m 0 1000000000 = true) (h2 : inB r 1 10000 = false) : weE m r = (0, 2) := by simp [weE, h, h2]
theorem weE_0 {m r : Int} (h : inB m 0 1000000000 = true) (h2 : inB r 1 10000 = true) : weE m r = ((m + r - 1) / r, 0) := by simp [weE, h, h2]
def dyE (x n d : Int) : Int × Int := if okR n d = true then (if inB x 0 2000 = true then (if n ≤ 0 then (0, 6) else (x * d / (100 * n), 0)) else (0, 2)) else (0, 1)
theorem dyE_1 {x n d : Int} (h : okR n d = false) : dyE x n d = (0, 1) := by simp [dyE, h]
theorem dyE_2 {x n d : Int} (h : okR n d = true) (h2 : inB x 0 2000 = false) : dyE x n d = (0, 2) := by simp [dyE, h, h2]
theorem dyE_6 {x n d : Int} (h : okR n d = true) (h2 : inB x 0 2000 = true) (h3 : n ≤ 0) : dyE x n d = (0, 6) := by simp [dyE, h, h2, h3]
theorem dyE_0 {x n d : Int} (h : okR n d = true) (h2 : inB x 0 2000 = true) (h3 : ¬ n ≤ 0) : dyE x n d = (x * d / (100 * n), 0) := by simp [dyE, h, h2, h3]
end Go.Proofs.Ytclefibjmnabbaa

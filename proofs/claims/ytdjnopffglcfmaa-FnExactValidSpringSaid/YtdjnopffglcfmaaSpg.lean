/-
  Springs: the plain words (no program).
-/
import Derived.Test.YtdjnopffglcfmaaRaM
import Derived.Test.YtdjnopffglcfmaaEs
import Derived.Test.YtdjnopffglcfmaaNear
namespace Go.Proofs.Ytdjnopffglcfmaa

/-- A bend within the limits; beside the one before it. -/
def okBd (p : Int × Int) : Bool := inB p.1 0 2000 && inB p.2 0 1000000
def upBd (p q : Int × Int) : Bool := decide (p.1 < q.1) && decide (p.2 ≤ q.2)
def bdAt (ps : List (Int × Int)) (i : Nat) : Bool := okBd (pat ps i) && (decide (i = 0) || upBd (pat ps (i - 1)) (pat ps i))
def okSp (ps : List (Int × Int)) : Bool := decide (2 ≤ ps.length ∧ ps.length ≤ 20) && (List.range ps.length).all (bdAt ps)
/-- The first k bends are right. -/
def bdK (ps : List (Int × Int)) (k : Nat) : Prop := ∀ i, i < k → bdAt ps i = true
theorem bdK_zero (ps : List (Int × Int)) : bdK ps 0 := fun _ h => absurd h (Nat.not_lt_zero _)
theorem bdK_succ {ps : List (Int × Int)} {k : Nat} (h : bdK ps k) (h2 : bdAt ps k = true) : bdK ps (k + 1) := by
  intro i hi
  by_cases e : i = k
  · rw [e]; exact h2
  · exact h i (by omega)
theorem okSp_len {ps : List (Int × Int)} (h : ¬ (2 ≤ ps.length ∧ ps.length ≤ 20)) : okSp ps = false := by simp only [okSp, h, decide_false, Bool.false_and]
theorem okSp_no {ps : List (Int × Int)} {k : Nat} (hk : k < ps.length) (h : bdAt ps k = false) : okSp ps = false := by
  cases hc : okSp ps
  · rfl
  · simp only [okSp, Bool.and_eq_true, List.all_eq_true] at hc
    rw [hc.2 k (by simpa using hk)] at h; cases h
theorem okSp_yes {ps : List (Int × Int)} (hl : 2 ≤ ps.length ∧ ps.length ≤ 20) (h : bdK ps ps.length) : okSp ps = true := by
  simp only [okSp, Bool.and_eq_true, List.all_eq_true, decide_eq_true_eq]
  exact ⟨hl, fun i hi => h i (by simpa using hi)⟩
theorem bdAt_n1 {ps : List (Int × Int)} {i : Nat} (h : okBd (pat ps i) = false) : bdAt ps i = false := by simp [bdAt, h]
theorem bdAt_0 {ps : List (Int × Int)} (h : okBd (pat ps 0) = true) : bdAt ps 0 = true := by simp [bdAt, h]
theorem bdAt_go {ps : List (Int × Int)} {i : Nat} (h : okBd (pat ps i) = true) (hi : 0 < i) : bdAt ps i = upBd (pat ps (i - 1)) (pat ps i) := by
  have : ¬ i = 0 := by omega
  simp [bdAt, h, this]
theorem okBd_n1 {x y : Int} (h : inB x 0 2000 = false) : okBd (x, y) = false := by simp [okBd, h]
theorem okBd_go {x y : Int} (h : inB x 0 2000 = true) : okBd (x, y) = inB y 0 1000000 := by simp [okBd, h]
/-- The numbers of a valid spring. -/
structure Spr (ps : List (Int × Int)) : Prop where
  hl : 2 ≤ ps.length ∧ ps.length ≤ 20
  hb : ∀ i, i < ps.length → (0 ≤ (pat ps i).1 ∧ (pat ps i).1 ≤ 2000) ∧ 0 ≤ (pat ps i).2 ∧ (pat ps i).2 ≤ 1000000
  up : ∀ i, i + 1 < ps.length → (pat ps i).1 < (pat ps (i + 1)).1 ∧ (pat ps i).2 ≤ (pat ps (i + 1)).2
theorem spr_of {ps : List (Int × Int)} (h : okSp ps = true) : Spr ps := by
  simp only [okSp, Bool.and_eq_true, List.all_eq_true, decide_eq_true_eq] at h
  refine ⟨h.1, fun i hi => ?_, fun i hi => ?_⟩
  · have := h.2 i (by simpa using hi)
    simp only [bdAt, okBd, Bool.and_eq_true, inB_true] at this
    exact this.1
  · have := h.2 (i + 1) (by simpa using hi)
    simp only [bdAt, upBd, Bool.and_eq_true, Bool.or_eq_true, decide_eq_true_eq, Nat.add_sub_cancel] at this
    rcases this.2 with e | e
    · omega
    · exact e
theorem Spr.lt {ps : List (Int × Int)} (H : Spr ps) {i : Nat} : ∀ {j : Nat}, i < j → j < ps.length → (pat ps i).1 < (pat ps j).1 ∧ (pat ps i).2 ≤ (pat ps j).2
  | 0, h, _ => absurd h (Nat.not_lt_zero _)
  | j + 1, h, hj => by
    have h1 := H.up j hj
    by_cases e : i = j
    · rw [e]; exact h1
    · have h2 := H.lt (i := i) (j := j) (by omega) (by omega)
      omega
theorem Spr.le {ps : List (Int × Int)} (H : Spr ps) {i j : Nat} (h : i ≤ j) (hj : j < ps.length) : (pat ps i).1 ≤ (pat ps j).1 ∧ (pat ps i).2 ≤ (pat ps j).2 := by
  by_cases e : i = j
  · rw [e]; omega
  · have := H.lt (show i < j by omega) hj; omega
/-- The first and the last position. -/
def spA (ps : List (Int × Int)) : Int := (pat ps 0).1
def spZ (ps : List (Int × Int)) : Int := (pat ps (ps.length - 1)).1
theorem Spr.ends {ps : List (Int × Int)} (H : Spr ps) : 0 ≤ spA ps ∧ spA ps < spZ ps ∧ spZ ps ≤ 2000 := by
  have h1 := H.hl
  have h2 := (H.hb 0 (by omega)).1
  have h3 := (H.hb (ps.length - 1) (by omega)).1
  have h4 := (H.lt (show 0 < ps.length - 1 by omega) (by omega)).1
  unfold spA spZ; omega
/-- The part of the curve on which a position lies. -/
def ixS (ps : List (Int × Int)) (t : Int) : Nat := lstU (fun j => decide (t ≤ (pat ps (j + 1)).1)) (ps.length - 1)
theorem ixS_only {ps : List (Int × Int)} {t : Int} {r : Nat} (H : Spr ps) (h1 : r + 1 < ps.length) (h2 : t ≤ (pat ps (r + 1)).1) (h3 : ∀ j, j < r → (pat ps (j + 1)).1 < t) : ixS ps t = r := by
  refine lstU_only (by omega) (fun j hj => ?_) (fun j h4 h5 => ?_)
  · have := h3 j hj; simp; omega
  · have := H.le (show r + 1 ≤ j + 1 by omega) (by omega)
    simp; omega
theorem ixS_spec {ps : List (Int × Int)} {t : Int} (H : Spr ps) (h : t ≤ spZ ps) : ixS ps t + 1 < ps.length ∧ t ≤ (pat ps (ixS ps t + 1)).1 ∧ (0 < ixS ps t → (pat ps (ixS ps t)).1 < t) := by
  have h1 := H.hl
  have hle : ixS ps t ≤ ps.length - 1 := lstU_le _
  have hlt : ixS ps t < ps.length - 1 := by
    rcases Nat.lt_or_ge (ixS ps t) (ps.length - 1) with e | e
    · exact e
    · exfalso
      have e2 : ixS ps t = ps.length - 1 := by omega
      have := lstU_pred (p := fun j => decide (t ≤ (pat ps (j + 1)).1)) (n := ps.length - 1) (by unfold ixS at e2; rw [e2]; omega)
      unfold ixS at e2
      rw [e2] at this
      rw [show ps.length - 1 - 1 + 1 = ps.length - 1 by omega] at this
      unfold spZ at h
      simp at this; omega
  refine ⟨by omega, ?_, fun h0 => ?_⟩
  · have := lstU_at (p := fun j => decide (t ≤ (pat ps (j + 1)).1)) (n := ps.length - 1) hlt
    simpa [ixS] using this
  · have := lstU_pred (p := fun j => decide (t ≤ (pat ps (j + 1)).1)) (n := ps.length - 1) h0
    have e : lstU (fun j => decide (t ≤ (pat ps (j + 1)).1)) (ps.length - 1) = ixS ps t := rfl
    rw [e, Nat.sub_add_cancel h0] at this
    simpa using this
/-- The torque between two bends, and that at a position. -/
def segT (p q : Int × Int) (t : Int) : Int := p.2 + near ((q.2 - p.2) * (t - p.1)) (q.1 - p.1)
def spT (ps : List (Int × Int)) (t : Int) : Int := segT (pat ps (ixS ps t)) (pat ps (ixS ps t + 1)) t
theorem near_mono {n n' d : Int} (hd : 1 ≤ d) (h : n ≤ n') : near n d ≤ near n' d := by
  unfold near
  exact Int.ediv_le_ediv (by omega) (by omega)
theorem near_le {n d k : Int} (hd : 1 ≤ d) (h : n ≤ k * d) : near n d ≤ k := by
  unfold near
  refine Int.lt_add_one_iff.1 (Int.ediv_lt_of_lt_mul (by omega) ?_)
  have e : (k + 1) * (2 * d) = 2 * (k * d) + 2 * d := by grind
  omega
theorem near_ge {n d k : Int} (hd : 1 ≤ d) (h : k * d ≤ n) : k ≤ near n d := by
  unfold near
  refine Int.le_ediv_of_mul_le (by omega) ?_
  have e : k * (2 * d) = 2 * (k * d) := by grind
  omega
theorem near_0 {d : Int} (hd : 1 ≤ d) : near 0 d = 0 := by
  have h1 := near_le (n := 0) (d := d) (k := 0) hd (by omega)
  have h2 := near_ge (n := 0) (d := d) (k := 0) hd (by omega)
  omega
theorem near_mul {k d : Int} (hd : 1 ≤ d) : near (k * d) d = k := by
  have h1 := near_le (n := k * d) (d := d) (k := k) hd (Int.le_refl _)
  have h2 := near_ge (n := k * d) (d := d) (k := k) hd (Int.le_refl _)
  omega
/-- What stands between two bends. -/
theorem seg_bd {p q : Int × Int} {t : Int} (h1 : p.1 < q.1) (h2 : p.2 ≤ q.2) (h3 : p.1 ≤ t) (h4 : t ≤ q.1) : (0 ≤ (q.2 - p.2) * (t - p.1) ∧ (q.2 - p.2) * (t - p.1) ≤ (q.2 - p.2) * (q.1 - p.1)) ∧ (0 ≤ near ((q.2 - p.2) * (t - p.1)) (q.1 - p.1) ∧ near ((q.2 - p.2) * (t - p.1)) (q.1 - p.1) ≤ q.2 - p.2) ∧ p.2 ≤ segT p q t ∧ segT p q t ≤ q.2 := by
  have a0 := Int.mul_nonneg (show 0 ≤ q.2 - p.2 by omega) (show 0 ≤ t - p.1 by omega)
  have a1 := Int.mul_le_mul_of_nonneg_left (show t - p.1 ≤ q.1 - p.1 by omega) (show 0 ≤ q.2 - p.2 by omega)
  have b0 := near_ge (n := (q.2 - p.2) * (t - p.1)) (d := q.1 - p.1) (k := 0) (by omega) (by omega)
  have b1 := near_le (n := (q.2 - p.2) * (t - p.1)) (d := q.1 - p.1) (k := q.2 - p.2) (by omega) a1
  unfold segT
  omega
theorem seg_mono {p q : Int × Int} {t t' : Int} (h1 : p.1 < q.1) (h2 : p.2 ≤ q.2) (h : t ≤ t') : segT p q t ≤ segT p q t' := by
  have a1 := Int.mul_le_mul_of_nonneg_left (show t - p.1 ≤ t' - p.1 by omega) (show 0 ≤ q.2 - p.2 by omega)
  have := near_mono (d := q.1 - p.1) (by omega) a1
  unfold segT; omega
theorem seg_end {p q : Int × Int} (h1 : p.1 < q.1) : segT p q q.1 = q.2 := by
  unfold segT; rw [near_mul (by omega)]; omega
theorem seg_start {p q : Int × Int} (h1 : p.1 < q.1) : segT p q p.1 = p.2 := by
  unfold segT; rw [Int.sub_self, Int.mul_zero, near_0 (by omega)]; omega
/-- Where a position lies between its two bends. -/
theorem ix_in {ps : List (Int × Int)} {t : Int} (H : Spr ps) (h0 : spA ps ≤ t) (h : t ≤ spZ ps) : ixS ps t + 1 < ps.length ∧ (pat ps (ixS ps t)).1 ≤ t ∧ t ≤ (pat ps (ixS ps t + 1)).1 ∧ (pat ps (ixS ps t)).1 < (pat ps (ixS ps t + 1)).1 ∧ (pat ps (ixS ps t)).2 ≤ (pat ps (ixS ps t + 1)).2 := by
  obtain ⟨a, b, c⟩ := ixS_spec H h
  have u := H.up _ a
  refine ⟨a, ?_, b, u.1, u.2⟩
  by_cases e : ixS ps t = 0
  · rw [e]; exact h0
  · have := c (by omega); omega
theorem spT_in {ps : List (Int × Int)} {t : Int} (H : Spr ps) (h0 : spA ps ≤ t) (h : t ≤ spZ ps) : (pat ps (ixS ps t)).2 ≤ spT ps t ∧ spT ps t ≤ (pat ps (ixS ps t + 1)).2 := by
  obtain ⟨a, b, c, d, e⟩ := ix_in H h0 h
  exact (seg_bd d e b c).2.2
theorem spT_bd {ps : List (Int × Int)} {t : Int} (H : Spr ps) (h0 : spA ps ≤ t) (h : t ≤ spZ ps) : 0 ≤ spT ps t ∧ spT ps t ≤ 1000000 := by
  have a := (ix_in H h0 h).1
  have b := spT_in H h0 h
  have c := H.hb (ixS ps t) (by omega)
  have d := H.hb (ixS ps t + 1) a
  omega
/-- The torque never falls when the spring is wound. -/
theorem spT_mono {ps : List (Int × Int)} {t t' : Int} (H : Spr ps) (h0 : spA ps ≤ t) (h : t ≤ t') (h' : t' ≤ spZ ps) : spT ps t ≤ spT ps t' := by
  obtain ⟨a, b, c, d, e⟩ := ix_in H h0 (show t ≤ spZ ps by omega)
  obtain ⟨a', b', c', d', e'⟩ := ix_in H (show spA ps ≤ t' by omega) h'
  rcases Nat.lt_trichotomy (ixS ps t) (ixS ps t') with k | k | k
  · have h1 := (spT_in H h0 (show t ≤ spZ ps by omega)).2
    have h2 := (spT_in H (show spA ps ≤ t' by omega) h').1
    have h3 := (H.le (show ixS ps t + 1 ≤ ixS ps t' by omega) (by omega)).2
    omega
  · unfold spT
    rw [← k]
    exact seg_mono d e h
  · exfalso
    have := (ixS_spec H (show t ≤ spZ ps by omega)).2.2 (by omega)
    have h3 := (H.le (show ixS ps t' + 1 ≤ ixS ps t by omega) (by omega)).1
    omega
/-- The torque at a bend. -/
theorem spT_bend {ps : List (Int × Int)} {i : Nat} (H : Spr ps) (hi : i < ps.length) : spT ps (pat ps i).1 = (pat ps i).2 := by
  have hl := H.hl
  by_cases e : i = 0
  · subst e
    have hx : ixS ps (pat ps 0).1 = 0 := ixS_only H (by omega) (by have := H.up 0 (by omega); omega) (fun j hj => by omega)
    unfold spT
    rw [hx]
    exact seg_start (H.up 0 (by omega)).1
  · obtain ⟨r, rfl⟩ : ∃ r, i = r + 1 := ⟨i - 1, by omega⟩
    have hx : ixS ps (pat ps (r + 1)).1 = r := ixS_only H hi (Int.le_refl _) (fun j hj => (H.lt (show j + 1 < r + 1 by omega) hi).1)
    unfold spT
    rw [hx]
    exact seg_end (H.up r hi).1
theorem bend_in {ps : List (Int × Int)} {i : Nat} (H : Spr ps) (hi : i < ps.length) : spA ps ≤ (pat ps i).1 ∧ (pat ps i).1 ≤ spZ ps := by
  have h1 := (H.le (Nat.zero_le i) hi).1
  have h2 := (H.le (show i ≤ ps.length - 1 by omega) (by have := H.hl; omega)).1
  unfold spA spZ; omega
/-- Is a position one of the spring's? -/
def inS (ps : List (Int × Int)) (t : Int) : Bool := inB t (spA ps) (spZ ps)
/-- Torque and code at a position. -/
def puE (ps : List (Int × Int)) (t : Int) : Int × Int := if okSp ps = true then (if inS ps t = true then (spT ps t, 0) else (0, 2)) else (0, 1)
theorem puE_1 {ps : List (Int × Int)} {t : Int} (h : okSp ps = false) : puE ps t = (0, 1) := by simp [puE, h]
theorem puE_2 {ps : List (Int × Int)} {t : Int} (h : okSp ps = true) (h2 : inS ps t = false) : puE ps t = (0, 2) := by simp [puE, h, h2]
theorem puE_0 {ps : List (Int × Int)} {t : Int} (h : okSp ps = true) (h2 : inS ps t = true) : puE ps t = (spT ps t, 0) := by simp [puE, h, h2]
/-- Twice the energy of n steps from a position on. -/
def enF (f : Int → Int) (a : Int) : Nat → Int
  | 0 => 0
  | n + 1 => enF f a n + (f (a + n) + f (a + n + 1))
theorem enF_bd {f : Int → Int} {a : Int} : ∀ {n : Nat}, (∀ j : Nat, j ≤ n → 0 ≤ f (a + j) ∧ f (a + j) ≤ 1000000) → 0 ≤ enF f a n ∧ enF f a n ≤ 2000000 * n
  | 0, _ => by simp [enF]
  | n + 1, h => by
    have h1 := enF_bd (n := n) (fun j hj => h j (by omega))
    have h2 := h n (by omega)
    have h3 := h (n + 1) (by omega)
    simp only [enF, Int.natCast_add, Int.natCast_one] at h3 ⊢
    rw [← Int.add_assoc] at h3
    omega
/-- The first of the least values of a function. -/
def mnK (f : Nat → Int) : Nat → Nat
  | 0 => 0
  | n + 1 => if f n < f (mnK f n) then n else mnK f n
theorem mnK_lt {f : Nat → Int} : ∀ {n : Nat}, 0 < n → mnK f n < n
  | 0, h => absurd h (Nat.lt_irrefl _)
  | n + 1, _ => by
    unfold mnK
    split
    · omega
    · by_cases e : n = 0
      · subst e; simp [mnK]
      · have := mnK_lt (f := f) (n := n) (by omega); omega
theorem mnK_one (f : Nat → Int) : mnK f 1 = 0 := by simp [mnK]
theorem mnK_up {f : Nat → Int} {n : Nat} (h : f n < f (mnK f n)) : mnK f (n + 1) = n := by simp [mnK, h]
theorem mnK_stay {f : Nat → Int} {n : Nat} (h : ¬ f n < f (mnK f n)) : mnK f (n + 1) = mnK f n := by simp [mnK, h]
theorem mnK_least {f : Nat → Int} : ∀ {n j : Nat}, j < n → f (mnK f n) ≤ f j ∧ (f (mnK f n) = f j → mnK f n ≤ j)
  | 0, j, h => absurd h (Nat.not_lt_zero _)
  | n + 1, j, h => by
    unfold mnK
    split
    · next e =>
      by_cases k : j = n
      · subst k; omega
      · have := mnK_least (f := f) (n := n) (j := j) (by omega); omega
    · next e =>
      by_cases k : j = n
      · subst k
        by_cases z : j = 0
        · subst z; simp [mnK] at e ⊢
        · have := mnK_lt (f := f) (n := j) (by omega); omega
      · exact mnK_least (f := f) (n := n) (j := j) (by omega)
end Go.Proofs.Ytdjnopffglcfmaa

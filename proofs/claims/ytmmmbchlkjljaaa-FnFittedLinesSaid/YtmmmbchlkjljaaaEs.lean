/-
  Escapements: the plain words (no program).
-/
import Derived.Test.YtmmmbchlkjljaaaNum
namespace Go.Proofs.Ytmmmbchlkjljaaa

/-- A valid escapement: teeth, unlock, impulse, loss, most. -/
def okEs (t u i l m : Int) : Bool := inB t 6 120 && inB u 1 100000 && inB i 0 100000 && inB l 0 1000 && inB m u 100000
/-- A valid state. -/
def okBt (t u i l m e k : Int) : Bool := okEs t u i l m && inB e 0 m && inB k 0 1000000000
theorem okEs_n1 {t u i l m : Int} (e : inB t 6 120 = false) : okEs t u i l m = false := by simp [okEs, e]
theorem okEs_n2 {t u i l m : Int} (e : inB u 1 100000 = false) : okEs t u i l m = false := by simp [okEs, e]
theorem okEs_n3 {t u i l m : Int} (e : inB i 0 100000 = false) : okEs t u i l m = false := by simp [okEs, e]
theorem okEs_n4 {t u i l m : Int} (e : inB l 0 1000 = false) : okEs t u i l m = false := by simp [okEs, e]
theorem okEs_go {t u i l m : Int} (e1 : inB t 6 120 = true) (e2 : inB u 1 100000 = true) (e3 : inB i 0 100000 = true) (e4 : inB l 0 1000 = true) : okEs t u i l m = inB m u 100000 := by simp [okEs, e1, e2, e3, e4]
theorem okBt_n1 {t u i l m e k : Int} (h : okEs t u i l m = false) : okBt t u i l m e k = false := by simp [okBt, h]
theorem okBt_n2 {t u i l m e k : Int} (h : inB e 0 m = false) : okBt t u i l m e k = false := by simp [okBt, h]
theorem okBt_go {t u i l m e k : Int} (h : okEs t u i l m = true) (h2 : inB e 0 m = true) : okBt t u i l m e k = inB k 0 1000000000 := by simp [okBt, h, h2]
theorem okBt_yes {t u i l m e k : Int} (h : okEs t u i l m = true) (h2 : inB e 0 m = true) (h3 : inB k 0 1000000000 = true) : okBt t u i l m e k = true := by simp [okBt, h, h2, h3]
/-- The numbers of a valid escapement. -/
structure Esc (t u i l m : Int) : Prop where
  ht : 6 ≤ t ∧ t ≤ 120
  hu : 1 ≤ u ∧ u ≤ 100000
  hi : 0 ≤ i ∧ i ≤ 100000
  hl : 0 ≤ l ∧ l ≤ 1000
  hm : u ≤ m ∧ m ≤ 100000
theorem esc_of {t u i l m : Int} (h : okEs t u i l m = true) : Esc t u i l m := by
  simp only [okEs, Bool.and_eq_true, inB_true] at h
  exact ⟨h.1.1.1.1, h.1.1.1.2, h.1.1.2, h.1.2, h.2⟩
theorem okBt_bd {t u i l m e k : Int} (h : okBt t u i l m e k = true) : Esc t u i l m ∧ (0 ≤ e ∧ e ≤ m) ∧ (0 ≤ k ∧ k ≤ 1000000000) := by
  simp only [okBt, Bool.and_eq_true, inB_true] at h
  exact ⟨esc_of h.1.1, h.1.2, h.2⟩
theorem okBt_es {t u i l m e k : Int} (h : okBt t u i l m e k = true) : okEs t u i l m = true := by
  simp only [okBt, Bool.and_eq_true] at h
  exact h.1.1
/-- What the loss leaves. -/
def leS (l e : Int) : Int := e - (e * l + 999) / 1000
/-- Whether a swing ticks. -/
def tkS (u l q e : Int) : Bool := decide (q ≠ 0) && decide (u ≤ leS l e)
/-- The energy behind a swing. -/
def nxS (u i l m q e : Int) : Int := if tkS u l q e = true then min m (leS l e - u + i * q / 1000) else leS l e
theorem nxS_no {u i l m q e : Int} (h : tkS u l q e = false) : nxS u i l m q e = leS l e := by simp [nxS, h]
theorem nxS_yes {u i l m q e : Int} (h : tkS u l q e = true) : nxS u i l m q e = min m (leS l e - u + i * q / 1000) := by simp [nxS, h]
theorem tkS_0 {u l e : Int} : tkS u l 0 e = false := by simp [tkS]
theorem tkS_low {u l q e : Int} (h : ¬ u ≤ leS l e) : tkS u l q e = false := by simp [tkS, h]
theorem tkS_up {u l q e : Int} (h0 : q ≠ 0) (h : u ≤ leS l e) : tkS u l q e = true := by simp [tkS, h, h0]
theorem tkS_bd {u l q e : Int} (h : tkS u l q e = true) : q ≠ 0 ∧ u ≤ leS l e := by
  simpa [tkS] using h
theorem el_bd {l e : Int} (hl : 0 ≤ l ∧ l ≤ 1000) (he : 0 ≤ e ∧ e ≤ 100000) : 0 ≤ e * l ∧ e * l ≤ 1000 * e := by
  refine ⟨Int.mul_nonneg he.1 hl.1, ?_⟩
  have := Int.mul_le_mul_of_nonneg_left hl.2 he.1
  omega
theorem iq_bd {i q : Int} (hi : 0 ≤ i ∧ i ≤ 100000) (hq : 0 ≤ q ∧ q ≤ 1000) : 0 ≤ i * q ∧ i * q ≤ 1000 * i := by
  refine ⟨Int.mul_nonneg hi.1 hq.1, ?_⟩
  have := Int.mul_le_mul_of_nonneg_left hq.2 hi.1
  omega
theorem leS_bd {l e : Int} (hl : 0 ≤ l ∧ l ≤ 1000) (he : 0 ≤ e ∧ e ≤ 100000) : 0 ≤ leS l e ∧ leS l e ≤ e := by
  have := el_bd hl he
  unfold leS
  generalize e * l = p at *
  omega
theorem leS_mono {l e e' : Int} (hl : 0 ≤ l ∧ l ≤ 1000) (h : e ≤ e') : leS l e ≤ leS l e' := by
  have h1 : (e' - e) * l ≤ (e' - e) * 1000 := Int.mul_le_mul_of_nonneg_left hl.2 (by omega)
  rw [Int.sub_mul] at h1
  unfold leS
  generalize e * l = p at *
  generalize e' * l = p' at *
  omega
theorem nxS_bd {t u i l m q e : Int} (H : Esc t u i l m) (hq : 0 ≤ q ∧ q ≤ 1000) (he : 0 ≤ e ∧ e ≤ m) : 0 ≤ nxS u i l m q e ∧ nxS u i l m q e ≤ m := by
  have h1 := leS_bd H.hl (e := e) ⟨he.1, by have := H.hm; omega⟩
  have h2 := iq_bd H.hi hq
  have h3 := H.hm
  have h4 := H.hu
  cases ht : tkS u l q e
  · rw [nxS_no ht]; omega
  · have h5 := tkS_bd ht
    rw [nxS_yes ht]
    generalize i * q = p at *
    omega
/-- More energy and more torque keep a tick. -/
theorem tkS_mono {u l q q' e e' : Int} (hl : 0 ≤ l ∧ l ≤ 1000) (hq : 0 ≤ q) (hqq : q ≤ q') (h : e ≤ e') (ht : tkS u l q e = true) : tkS u l q' e' = true := by
  obtain ⟨h1, h2⟩ := tkS_bd ht
  have := leS_mono hl h
  exact tkS_up (by omega) (by omega)
/-- More energy and more torque lead to more energy, where both tick. -/
theorem nxS_mono {u i l m q q' e e' : Int} (hl : 0 ≤ l ∧ l ≤ 1000) (hi : 0 ≤ i) (hq : 0 ≤ q) (hqq : q ≤ q') (h : e ≤ e') (ht : tkS u l q e = true) : nxS u i l m q e ≤ nxS u i l m q' e' := by
  have h2 := tkS_mono hl hq hqq h ht
  have h3 := leS_mono hl h
  have h4 := Int.mul_le_mul_of_nonneg_left hqq hi
  rw [nxS_yes ht, nxS_yes h2]
  generalize i * q = p at *
  generalize i * q' = p' at *
  omega

/-- Where the swings lead that lower the energy: the energy, the number of ticks, and whether the next one ticks. -/
def stlF (f : Int → Int) (t : Int → Bool) (e : Int) : Int × Nat × Bool :=
  if t e = true then
    if h : 0 ≤ f e ∧ f e < e then ((stlF f t (f e)).1, (stlF f t (f e)).2.1 + 1, (stlF f t (f e)).2.2) else (e, 0, true)
  else (e, 0, false)
termination_by e.toNat
decreasing_by all_goals omega
theorem stlF_no {f : Int → Int} {t : Int → Bool} {e : Int} (h : t e = false) : stlF f t e = (e, 0, false) := by
  rw [stlF]; simp [h]
theorem stlF_end {f : Int → Int} {t : Int → Bool} {e : Int} (h : t e = true) (h2 : ¬ f e < e) : stlF f t e = (e, 0, true) := by
  rw [stlF]; simp [h, h2]
theorem stlF_go {f : Int → Int} {t : Int → Bool} {e : Int} (h : t e = true) (h2 : 0 ≤ f e ∧ f e < e) : stlF f t e = ((stlF f t (f e)).1, (stlF f t (f e)).2.1 + 1, (stlF f t (f e)).2.2) := by
  rw [stlF]; simp [h, h2]
/-- Swings at which the energy does not fall tick for ever. -/
theorem stlF_rise {f : Int → Int} {t : Int → Bool} {e : Int} (hm : ∀ a b, a ≤ b → t a = true → t b = true ∧ f a ≤ f b) (h : t e = true) (h2 : e ≤ f e) : t (f e) = true ∧ f e ≤ f (f e) := hm _ _ h2 h
/-- The ticks before the first swing without one are at most the energy. -/
theorem stlF_stay {f : Int → Int} {t : Int → Bool} {e : Int} (h : ¬ (0 ≤ f e ∧ f e < e)) : (stlF f t e).2.1 = 0 := by
  cases h1 : t e
  · rw [stlF_no h1]
  · rw [stlF]; simp [h1, h]
theorem stlF_len {f : Int → Int} {t : Int → Bool} : ∀ (n : Nat) (e : Int), e.toNat ≤ n → (stlF f t e).2.1 ≤ e.toNat
  | 0, e, h => by rw [stlF_stay (by omega)]; omega
  | n + 1, e, h => by
    by_cases h2 : 0 ≤ f e ∧ f e < e
    · cases h1 : t e
      · rw [stlF_no h1]; simp
      · rw [stlF_go h1 h2]
        have := stlF_len (f := f) (t := t) n (f e) (by omega)
        simp only
        omega
    · rw [stlF_stay h2]; omega
/-- Whether n swings all tick. -/
def allF (f : Int → Int) (t : Int → Bool) : Nat → Int → Bool
  | 0, _ => true
  | n + 1, e => t e && allF f t n (f e)
theorem allF_0 {f : Int → Int} {t : Int → Bool} {e : Int} : allF f t 0 e = true := rfl
theorem allF_no {f : Int → Int} {t : Int → Bool} {n : Nat} {e : Int} (h : t e = false) : allF f t (n + 1) e = false := by simp [allF, h]
theorem allF_go {f : Int → Int} {t : Int → Bool} {n : Nat} {e : Int} (h : t e = true) : allF f t (n + 1) e = allF f t n (f e) := by simp [allF, h]
theorem allF_mono {f f' : Int → Int} {t t' : Int → Bool} (hm : ∀ a b, a ≤ b → t a = true → t' b = true ∧ f a ≤ f' b) : ∀ (n : Nat) (e e' : Int), e ≤ e' → allF f t n e = true → allF f' t' n e' = true
  | 0, _, _, _, _ => rfl
  | n + 1, e, e', h, ha => by
    cases h1 : t e
    · rw [allF_no h1] at ha; cases ha
    · rw [allF_go h1] at ha
      obtain ⟨h2, h3⟩ := hm e e' h h1
      rw [allF_go h2]
      exact allF_mono hm n _ _ h3 ha

/-- The least number below n for which p is true, and so for all greater ones; n if there is none. -/
def lstU (p : Nat → Bool) : Nat → Nat
  | 0 => 0
  | n + 1 => if p n = true then lstU p n else n + 1
theorem lstU_only {p : Nat → Bool} : ∀ {n r : Nat}, r ≤ n → (∀ j, j < r → p j = false) → (∀ j, r ≤ j → j < n → p j = true) → lstU p n = r
  | 0, r, h, _, _ => by simp [lstU]; omega
  | n + 1, r, h, h1, h2 => by
    by_cases e : r = n + 1
    · subst e
      have := h1 n (by omega)
      simp [lstU, this]
    · have := h2 n (by omega) (by omega)
      unfold lstU
      rw [if_pos this]
      exact lstU_only (by omega) h1 (fun j a b => h2 j a (by omega))
theorem lstU_le {p : Nat → Bool} : ∀ n : Nat, lstU p n ≤ n
  | 0 => by simp [lstU]
  | n + 1 => by
    have := lstU_le (p := p) n
    unfold lstU
    split <;> omega
/-- One less is not enough. -/
theorem lstU_pred {p : Nat → Bool} : ∀ {n : Nat}, 0 < lstU p n → p (lstU p n - 1) = false
  | 0, h => by simp [lstU] at h
  | n + 1, h => by
    unfold lstU at h ⊢
    split
    · next e => rw [if_pos e] at h; exact lstU_pred h
    · next e => simpa using e
theorem lstU_at {p : Nat → Bool} : ∀ {n : Nat}, lstU p n < n → p (lstU p n) = true
  | 0, h => by omega
  | n + 1, h => by
    unfold lstU at h ⊢
    split
    · next e =>
      rw [if_pos e] at h
      by_cases q : lstU p n < n
      · exact lstU_at q
      · have := lstU_le (p := p) n
        rw [show lstU p n = n by omega]; exact e
    · next e => rw [if_neg e] at h; omega
end Go.Proofs.Ytmmmbchlkjljaaa

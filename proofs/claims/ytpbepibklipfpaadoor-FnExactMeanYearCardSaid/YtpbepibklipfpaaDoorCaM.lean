/-
  Calendars: the plain words.
-/
import Derived.Test.YtpbepibklipfpaaDoorNameI
import Derived.Test.YtpbepibklipfpaaDoorBl
import Derived.Test.YtpbepibklipfpaaDoorPr
namespace Go.Proofs.YtpbepibklipfpaaDoor
open Go.RowKit

/-- A month; a rule; a calendar. -/
structure Mo where
  nm : ByteArray
  d : Int
  l : Int
structure Ru where
  e : Int
  r : Int
  b : Bool
structure Cal where
  nm : ByteArray
  ms : List Mo
  rs : List Ru
  wk : Int
instance : Inhabited Mo := ⟨⟨⟨#[]⟩, 0, 0⟩⟩
instance : Inhabited Ru := ⟨⟨0, 0, false⟩⟩
def moAt (ms : List Mo) (i : Nat) : Mo := ms[i]?.getD ⟨⟨#[]⟩, 0, 0⟩
def ruAt (rs : List Ru) (i : Nat) : Ru := rs[i]?.getD ⟨0, 0, false⟩
theorem moAt_get {ms : List Mo} {i : Nat} (h : i < ms.length) : ms[i] = moAt ms i := by unfold moAt; rw [List.getElem?_eq_getElem h]; rfl
theorem ruAt_get {rs : List Ru} {i : Nat} (h : i < rs.length) : rs[i] = ruAt rs i := by unfold ruAt; rw [List.getElem?_eq_getElem h]; rfl
theorem moAt_take {ms : List Mo} {i k : Nat} (h : i < k) : moAt (ms.take k) i = moAt ms i := by unfold moAt; rw [List.getElem?_take, if_pos h]
/-- Two names are the same. -/
def eqN (x y : ByteArray) : Bool := x.toList == y.toList
theorem eqN_refl (x : ByteArray) : eqN x x = true := by simp [eqN]
theorem eqN_comm (x y : ByteArray) : eqN x y = eqN y x := by unfold eqN; rw [Bool.eq_iff_iff]; simp; exact eq_comm

/-! ### Months -/
def moB (m : Mo) : Bool := nameB m.nm && (inB m.d 1 60 && inB m.l 1 60)
theorem moB_n1 {m : Mo} (h : nameB m.nm = false) : moB m = false := by simp [moB, h]
theorem moB_n2 {m : Mo} (h : inB m.d 1 60 = false) : moB m = false := by simp [moB, h]
theorem moB_n3 {m : Mo} (h : inB m.l 1 60 = false) : moB m = false := by simp [moB, h]
theorem moB_go {m : Mo} (h1 : nameB m.nm = true) (h2 : inB m.d 1 60 = true) (h3 : inB m.l 1 60 = true) : moB m = true := by simp [moB, h1, h2, h3]
/-- None of the first k months has the name. -/
def mnK (ms : List Mo) (n : ByteArray) (k : Nat) : Prop := ∀ i, i < k → eqN (moAt ms i).nm n = false
theorem mnK_zero (ms : List Mo) (n : ByteArray) : mnK ms n 0 := fun _ h => absurd h (Nat.not_lt_zero _)
theorem mnK_succ {ms : List Mo} {n : ByteArray} {k : Nat} (h : mnK ms n k) (h2 : eqN (moAt ms k).nm n = false) : mnK ms n (k + 1) := by
  intro i hi
  by_cases e : i = k
  · rw [e]; exact h2
  · exact h i (by omega)
/-- One of a list of months has the name. -/
def hasM (ms : List Mo) (n : ByteArray) : Bool := ms.any fun m => eqN m.nm n
theorem hasM_no {ms : List Mo} {n : ByteArray} (h : mnK ms n ms.length) : hasM ms n = false := by
  unfold hasM
  rw [List.any_eq_false]
  intro s hs
  obtain ⟨i, hi, e⟩ := List.getElem_of_mem hs
  have := h i hi
  rw [← moAt_get hi, e] at this
  rw [this]; simp
theorem hasM_yes {ms : List Mo} {n : ByteArray} {k : Nat} (hk : k < ms.length) (h : eqN (moAt ms k).nm n = true) : hasM ms n = true := by
  unfold hasM
  rw [List.any_eq_true]
  exact ⟨ms[k], List.getElem_mem hk, by rw [moAt_get hk]; exact h⟩
def monB (ms : List Mo) (i : Nat) : Bool := moB (moAt ms i) && !hasM (ms.take i) (moAt ms i).nm
def okMs (ms : List Mo) : Bool := (List.range ms.length).all fun i => monB ms i
def okMo (ms : List Mo) : Bool := okMs ms && inB (ms.length : Int) 1 20
def moK (ms : List Mo) (k : Nat) : Prop := ∀ i, i < k → monB ms i = true
theorem moK_zero (ms : List Mo) : moK ms 0 := fun _ h => absurd h (Nat.not_lt_zero _)
theorem moK_succ {ms : List Mo} {k : Nat} (h : moK ms k) (h1 : moB (moAt ms k) = true) (h2 : hasM (ms.take k) (moAt ms k).nm = false) : moK ms (k + 1) := by
  intro i hi
  by_cases e : i = k
  · rw [e]; unfold monB; rw [h1, h2]; rfl
  · exact h i (by omega)
theorem moK_all {ms : List Mo} (h : moK ms ms.length) : okMs ms = true := by
  unfold okMs; rw [List.all_eq_true]; intro i hi; exact h i (List.mem_range.1 hi)
theorem okMo_go {ms : List Mo} (h : moK ms ms.length) : okMo ms = inB (ms.length : Int) 1 20 := by unfold okMo; rw [moK_all h]; rfl
theorem okMo_all {ms : List Mo} (h : moK ms ms.length) (h2 : inB (ms.length : Int) 1 20 = true) : okMo ms = true := by rw [okMo_go h, h2]
theorem okMo_s {ms : List Mo} {k : Nat} (hk : k < ms.length) (h : moB (moAt ms k) = false ∨ hasM (ms.take k) (moAt ms k).nm = true) : okMo ms = false := by
  have h1 : monB ms k = false := by unfold monB; rcases h with h | h <;> simp [h]
  have : okMs ms = false := by
    cases hc : okMs ms
    · rfl
    · rw [List.all_eq_true.1 hc k (List.mem_range.2 hk)] at h1; cases h1
  simp [okMo, this]
theorem okMo_len {ms : List Mo} (h : inB (ms.length : Int) 1 20 = false) : okMo ms = false := by unfold okMo; rw [h]; simp
theorem okMo_parts {ms : List Mo} (h : okMo ms = true) : 1 ≤ ms.length ∧ ms.length ≤ 20 ∧ ∀ i, i < ms.length → nameB (moAt ms i).nm = true ∧ (1 ≤ (moAt ms i).d ∧ (moAt ms i).d ≤ 60) ∧ (1 ≤ (moAt ms i).l ∧ (moAt ms i).l ≤ 60) := by
  simp only [okMo, Bool.and_eq_true, inB_true] at h
  obtain ⟨h1, h2, h3⟩ := h
  refine ⟨by omega, by omega, fun i hi => ?_⟩
  have := List.all_eq_true.1 h1 i (List.mem_range.2 hi)
  simp only [monB, moB, Bool.and_eq_true, inB_true] at this
  exact ⟨this.1.1, this.1.2.1, this.1.2.2⟩

/-! ### Rules -/
def ruB (r : Ru) : Bool := inB r.e 1 1000 && inB r.r 0 (r.e - 1)
theorem ruB_n1 {r : Ru} (h : inB r.e 1 1000 = false) : ruB r = false := by simp [ruB, h]
theorem ruB_n2 {r : Ru} (h : inB r.r 0 (r.e - 1) = false) : ruB r = false := by simp [ruB, h]
theorem ruB_go {r : Ru} (h1 : inB r.e 1 1000 = true) (h2 : inB r.r 0 (r.e - 1) = true) : ruB r = true := by simp [ruB, h1, h2]
theorem ruB_bd {r : Ru} (h : ruB r = true) : (1 ≤ r.e ∧ r.e ≤ 1000) ∧ 0 ≤ r.r ∧ r.r < r.e := by
  simp only [ruB, Bool.and_eq_true, inB_true] at h; omega
/-- The years of the cycle of the first k rules. -/
def lcK (rs : List Ru) : Nat → Int
  | 0 => 1
  | k + 1 => lcK rs k / (Int.gcd (lcK rs k) (ruAt rs k).e : Int) * (ruAt rs k).e
def lcA (rs : List Ru) : Int := lcK rs rs.length
def ruK (rs : List Ru) (k : Nat) : Prop := ∀ i, i < k → ruB (ruAt rs i) = true
theorem ruK_zero (rs : List Ru) : ruK rs 0 := fun _ h => absurd h (Nat.not_lt_zero _)
theorem ruK_succ {rs : List Ru} {k : Nat} (h : ruK rs k) (h1 : ruB (ruAt rs k) = true) : ruK rs (k + 1) := by
  intro i hi
  by_cases e : i = k
  · rw [e]; exact h1
  · exact h i (by omega)
theorem lc_form {y e : Int} (hy : 1 ≤ y) (he : 1 ≤ e) : y / (Int.gcd y e : Int) * e = y * (e / (Int.gcd y e : Int)) ∧ y ≤ y / (Int.gcd y e : Int) * e ∧ y / (Int.gcd y e : Int) * e ≤ y * e ∧ y ∣ y / (Int.gcd y e : Int) * e ∧ e ∣ y / (Int.gcd y e : Int) * e ∧ 1 ≤ (Int.gcd y e : Int) ∧ 1 ≤ e / (Int.gcd y e : Int) ∧ e / (Int.gcd y e : Int) ≤ e := by
  have hg : 0 < Int.gcd y e := Int.gcd_pos_of_ne_zero_left _ (by omega)
  have hg' : (0 : Int) < (Int.gcd y e : Int) := by omega
  obtain ⟨p, hp⟩ := Int.gcd_dvd_left (a := y) (b := e)
  obtain ⟨q, hq⟩ := Int.gcd_dvd_right (a := y) (b := e)
  clear hg
  generalize (Int.gcd y e : Int) = g at *
  have e1 : y / g = p := by rw [hp, Int.mul_ediv_cancel_left _ (by omega)]
  have e2 : e / g = q := by rw [hq, Int.mul_ediv_cancel_left _ (by omega)]
  rw [e1, e2]
  have hp1 : 1 ≤ p := by
    by_cases h : 1 ≤ p
    · exact h
    · have := Int.mul_le_mul_of_nonneg_left (show p ≤ 0 by omega) (show 0 ≤ g by omega); omega
  have hq1 : 1 ≤ q := by
    by_cases h : 1 ≤ q
    · exact h
    · have := Int.mul_le_mul_of_nonneg_left (show q ≤ 0 by omega) (show 0 ≤ g by omega); omega
  have hpq : p * e = y * q := by rw [hp, hq]; grind
  have hqe : q ≤ e := by
    have := Int.mul_le_mul_of_nonneg_right (show 1 ≤ g by omega) (show 0 ≤ q by omega)
    omega
  refine ⟨hpq, ?_, ?_, ⟨q, hpq⟩, ⟨p, by grind⟩, by omega, hq1, hqe⟩
  · rw [hpq]
    have := Int.mul_le_mul_of_nonneg_left hq1 (show 0 ≤ y by omega)
    omega
  · rw [hpq]
    exact Int.mul_le_mul_of_nonneg_left hqe (by omega)
theorem lcK_pos {rs : List Ru} : ∀ {k : Nat}, ruK rs k → 1 ≤ lcK rs k
  | 0, _ => by simp [lcK]
  | k + 1, h => by
    have ih := lcK_pos (k := k) (fun i hi => h i (by omega))
    have hb := ruB_bd (h k (by omega))
    have := (lc_form ih hb.1.1).2.1
    unfold lcK; omega
theorem lcK_step {rs : List Ru} {k : Nat} (h : ruK rs (k + 1)) : lcK rs k ≤ lcK rs (k + 1) ∧ lcK rs (k + 1) ≤ lcK rs k * 1000 := by
  have ih := lcK_pos (k := k) (fun i hi => h i (by omega))
  have hb := ruB_bd (h k (by omega))
  obtain ⟨_, h2, h3, _⟩ := lc_form ih hb.1.1
  have := Int.mul_le_mul_of_nonneg_left hb.1.2 (show 0 ≤ lcK rs k by omega)
  rw [show lcK rs (k + 1) = lcK rs k / (Int.gcd (lcK rs k) (ruAt rs k).e : Int) * (ruAt rs k).e from rfl]
  exact ⟨h2, by omega⟩
theorem lcK_mono {rs : List Ru} {n : Nat} : ∀ {k : Nat}, ruK rs n → k ≤ n → lcK rs k ≤ lcK rs n := by
  induction n with
  | zero => intro k _ hk; obtain rfl : k = 0 := (by omega); exact Int.le_refl _
  | succ n ih =>
    intro k h hk
    by_cases e : k = n + 1
    · subst e; exact Int.le_refl _
    · have h1 := ih (k := k) (fun i hi => h i (by omega)) (by omega)
      have h2 := (lcK_step h).1
      omega
theorem lcK_bd {rs : List Ru} {k : Nat} (h : ruK rs k) (hk : k ≤ 6) : lcK rs k ≤ 1000000000000000000 := by
  have s : ∀ j, j < k → lcK rs (j + 1) ≤ lcK rs j * 1000 := fun j hj => (lcK_step (fun i hi => h i (by omega))).2
  have h0 : lcK rs 0 = 1 := rfl
  rcases (show k = 0 ∨ k = 1 ∨ k = 2 ∨ k = 3 ∨ k = 4 ∨ k = 5 ∨ k = 6 by omega) with rfl | rfl | rfl | rfl | rfl | rfl | rfl
  · omega
  · have s0 : lcK rs 1 ≤ lcK rs 0 * 1000 := s 0 (by omega); omega
  · have s0 : lcK rs 1 ≤ lcK rs 0 * 1000 := s 0 (by omega); have s1 : lcK rs 2 ≤ lcK rs 1 * 1000 := s 1 (by omega); omega
  · have s0 : lcK rs 1 ≤ lcK rs 0 * 1000 := s 0 (by omega); have s1 : lcK rs 2 ≤ lcK rs 1 * 1000 := s 1 (by omega); have s2 : lcK rs 3 ≤ lcK rs 2 * 1000 := s 2 (by omega); omega
  · have s0 : lcK rs 1 ≤ lcK rs 0 * 1000 := s 0 (by omega); have s1 : lcK rs 2 ≤ lcK rs 1 * 1000 := s 1 (by omega); have s2 : lcK rs 3 ≤ lcK rs 2 * 1000 := s 2 (by omega); have s3 : lcK rs 4 ≤ lcK rs 3 * 1000 := s 3 (by omega); omega
  · have s0 : lcK rs 1 ≤ lcK rs 0 * 1000 := s 0 (by omega); have s1 : lcK rs 2 ≤ lcK rs 1 * 1000 := s 1 (by omega); have s2 : lcK rs 3 ≤ lcK rs 2 * 1000 := s 2 (by omega); have s3 : lcK rs 4 ≤ lcK rs 3 * 1000 := s 3 (by omega); have s4 : lcK rs 5 ≤ lcK rs 4 * 1000 := s 4 (by omega); omega
  · have s0 : lcK rs 1 ≤ lcK rs 0 * 1000 := s 0 (by omega); have s1 : lcK rs 2 ≤ lcK rs 1 * 1000 := s 1 (by omega); have s2 : lcK rs 3 ≤ lcK rs 2 * 1000 := s 2 (by omega); have s3 : lcK rs 4 ≤ lcK rs 3 * 1000 := s 3 (by omega); have s4 : lcK rs 5 ≤ lcK rs 4 * 1000 := s 4 (by omega); have s5 : lcK rs 6 ≤ lcK rs 5 * 1000 := s 5 (by omega); omega
theorem lcK_dvd {rs : List Ru} {n : Nat} : ∀ {k : Nat}, ruK rs n → k < n → (ruAt rs k).e ∣ lcK rs n := by
  induction n with
  | zero => intro k _ hk; omega
  | succ n ih =>
    intro k h hk
    have hp := lcK_pos (k := n) (fun i hi => h i (by omega))
    obtain ⟨_, _, _, h4, h5, _⟩ := lc_form hp (ruB_bd (h n (by omega))).1.1
    by_cases e : k = n
    · subst e; exact h5
    · exact Int.dvd_trans (ih (k := k) (fun i hi => h i (by omega)) (by omega)) h4
/-- Valid rules. -/
def okRu (rs : List Ru) : Bool := rs.all ruB && (decide (rs.length ≤ 6) && decide (lcA rs ≤ 2000))
theorem ruK_iff {rs : List Ru} : rs.all ruB = true ↔ ruK rs rs.length := by
  rw [List.all_eq_true]
  constructor
  · intro h i hi
    rw [← ruAt_get hi]; exact h _ (List.getElem_mem hi)
  · intro h r hr
    obtain ⟨i, hi, e⟩ := List.getElem_of_mem hr
    rw [← e, ruAt_get hi]; exact h i hi
theorem okRu_go {rs : List Ru} (h : ruK rs rs.length) : okRu rs = (decide (rs.length ≤ 6) && decide (lcA rs ≤ 2000)) := by unfold okRu; rw [ruK_iff.2 h]; rfl
theorem okRu_r {rs : List Ru} {k : Nat} (hk : k < rs.length) (h : ruB (ruAt rs k) = false) : okRu rs = false := by
  cases hc : okRu rs
  · rfl
  · simp only [okRu, Bool.and_eq_true] at hc
    rw [ruK_iff.1 hc.1 k hk] at h; cases h
theorem okRu_c {rs : List Ru} {k : Nat} (hk : k ≤ rs.length) (h : 2000 < lcK rs k) : okRu rs = false := by
  cases hc : okRu rs
  · rfl
  · simp only [okRu, Bool.and_eq_true, decide_eq_true_eq] at hc
    have := lcK_mono (ruK_iff.1 hc.1) hk
    unfold lcA at hc; omega
theorem okRu_len {rs : List Ru} (h : ¬ rs.length ≤ 6) : okRu rs = false := by simp [okRu, h]
theorem okRu_parts {rs : List Ru} (h : okRu rs = true) : ruK rs rs.length ∧ rs.length ≤ 6 ∧ 1 ≤ lcA rs ∧ lcA rs ≤ 2000 := by
  simp only [okRu, Bool.and_eq_true, decide_eq_true_eq] at h
  exact ⟨ruK_iff.1 h.1, h.2.1, lcK_pos (ruK_iff.1 h.1), h.2.2⟩

/-! ### Calendars -/
def okC (c : Cal) : Bool := okRu c.rs && (nameB c.nm && (okMo c.ms && inB c.wk 1 12))
theorem okC_parts {c : Cal} (h : okC c = true) : okRu c.rs = true ∧ nameB c.nm = true ∧ okMo c.ms = true ∧ 1 ≤ c.wk ∧ c.wk ≤ 12 := by
  simp only [okC, Bool.and_eq_true, inB_true] at h
  exact ⟨h.1, h.2.1, h.2.2.1, h.2.2.2⟩
end Go.Proofs.YtpbepibklipfpaaDoor

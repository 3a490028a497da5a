/-
  Works of arbors and meshes: the plain words.
-/
import Derived.Test.YtclefibjmnabbaaTrS
import Derived.Test.YtclefibjmnabbaaNameI
namespace Go.Proofs.Ytclefibjmnabbaa
open Go.RowKit

abbrev Arb := ByteArray × List Int
abbrev Msh := Int × Int × Int × Int
def arAt (rs : List Arb) (i : Nat) : Arb := rs[i]?.getD (⟨#[]⟩, [])
def msAt (ms : List Msh) (i : Nat) : Msh := ms[i]?.getD (0, 0, 0, 0)
theorem arAt_get {rs : List Arb} {i : Nat} (h : i < rs.length) : rs[i] = arAt rs i := by unfold arAt; rw [List.getElem?_eq_getElem h]; rfl
theorem msAt_get {ms : List Msh} {i : Nat} (h : i < ms.length) : ms[i] = msAt ms i := by unfold msAt; rw [List.getElem?_eq_getElem h]; rfl
theorem arAt_take {rs : List Arb} {i k : Nat} (h : i < k) : arAt (rs.take k) i = arAt rs i := by unfold arAt; rw [List.getElem?_take, if_pos h]
theorem msAt_take {ms : List Msh} {i k : Nat} (h : i < k) : msAt (ms.take k) i = msAt ms i := by unfold msAt; rw [List.getElem?_take, if_pos h]
/-- Two names are the same. -/
def eqS (x y : ByteArray) : Bool := x.toList == y.toList
theorem eqS_refl (x : ByteArray) : eqS x x = true := by simp [eqS]
theorem eqS_comm (x y : ByteArray) : eqS x y = eqS y x := by unfold eqS; rw [Bool.eq_iff_iff]; simp; exact eq_comm
/-- The place of the first arbor with a name; -1 if there is none. -/
def idxN (rs : List Arb) (n : ByteArray) : Int := match rs.findIdx? (fun a => eqS a.1 n) with
  | some i => (i : Int)
  | none => -1
/-- None of the first k arbors has the name. -/
def noneK (rs : List Arb) (n : ByteArray) (k : Nat) : Prop := ∀ i, i < k → eqS (arAt rs i).1 n = false
theorem noneK_zero (rs : List Arb) (n : ByteArray) : noneK rs n 0 := fun _ h => absurd h (Nat.not_lt_zero _)
theorem noneK_succ {rs : List Arb} {n : ByteArray} {k : Nat} (h : noneK rs n k) (h2 : eqS (arAt rs k).1 n = false) : noneK rs n (k + 1) := by
  intro i hi
  by_cases e : i = k
  · rw [e]; exact h2
  · exact h i (by omega)
theorem idx_hit {rs : List Arb} {n : ByteArray} {k : Nat} (hk : k < rs.length) (h : noneK rs n k) (h2 : eqS (arAt rs k).1 n = true) : idxN rs n = (k : Int) := by
  have : rs.findIdx? (fun a => eqS a.1 n) = some k := by
    rw [List.findIdx?_eq_some_iff_getElem]
    refine ⟨hk, by rw [arAt_get hk]; exact h2, fun j hj => ?_⟩
    have := h j hj
    rw [arAt_get (by omega), this]; simp
  unfold idxN; rw [this]
theorem idx_none {rs : List Arb} {n : ByteArray} (h : noneK rs n rs.length) : idxN rs n = -1 := by
  have : rs.findIdx? (fun a => eqS a.1 n) = none := by
    rw [List.findIdx?_eq_none_iff]
    intro a ha
    obtain ⟨i, hi, e⟩ := List.getElem_of_mem ha
    have := h i hi
    rw [← arAt_get hi, e] at this
    exact this
  unfold idxN; rw [this]
theorem idx_cases (rs : List Arb) (n : ByteArray) : (noneK rs n rs.length ∧ idxN rs n = -1) ∨ ∃ k, k < rs.length ∧ noneK rs n k ∧ eqS (arAt rs k).1 n = true ∧ idxN rs n = (k : Int) := by
  by_cases h : noneK rs n rs.length
  · exact .inl ⟨h, idx_none h⟩
  · right
    cases hc : rs.findIdx? (fun a => eqS a.1 n) with
    | none =>
      exfalso; apply h
      intro i hi
      have := List.findIdx?_eq_none_iff.1 hc _ (List.getElem_mem hi)
      rw [arAt_get hi] at this
      exact this
    | some k =>
      obtain ⟨hk, h1, h2⟩ := List.findIdx?_eq_some_iff_getElem.1 hc
      have hn : noneK rs n k := fun j hj => by
        have := h2 j hj
        rw [arAt_get (by omega)] at this
        simpa using this
      rw [arAt_get hk] at h1
      exact ⟨k, hk, hn, h1, idx_hit hk hn h1⟩
theorem idx_bd (rs : List Arb) (n : ByteArray) : -1 ≤ idxN rs n ∧ idxN rs n < rs.length := by
  rcases idx_cases rs n with ⟨_, e⟩ | ⟨k, hk, _, _, e⟩ <;> rw [e] <;> omega
/-- The arbor's name is its own. -/
def ownN (rs : List Arb) (i : Nat) : Bool := decide (idxN rs (arAt rs i).1 = (i : Int))
theorem own_take {rs : List Arb} {i : Nat} (hi : i < rs.length) : decide (0 ≤ idxN (rs.take i) (arAt rs i).1) = !ownN rs i := by
  have hl : (rs.take i).length = i := by simp; omega
  by_cases h : noneK rs (arAt rs i).1 i
  · have e1 : idxN rs (arAt rs i).1 = (i : Int) := idx_hit hi h (eqS_refl _)
    have e2 : idxN (rs.take i) (arAt rs i).1 = -1 := idx_none (by rw [hl]; intro j hj; rw [arAt_take hj]; exact h j hj)
    rw [e2]; simp [ownN, e1]
  · have e2 : ownN rs i = false := by
      unfold ownN
      rw [decide_eq_false_iff_not]
      intro e
      rcases idx_cases rs (arAt rs i).1 with ⟨_, e'⟩ | ⟨k, hk, hn, _, e'⟩
      · omega
      · have : k = i := by omega
        subst this; exact h hn
    rcases idx_cases (rs.take i) (arAt rs i).1 with ⟨hn, _⟩ | ⟨k, hk, _, _, e'⟩
    · exfalso; apply h; intro j hj
      have := hn j (by omega)
      rwa [arAt_take hj] at this
    · rw [e2, e']; simp
/-- An arbor within the limits. -/
def whB (ts : List Int) : Bool := ts.all fun t => inB t 6 240
def arbB (a : Arb) : Bool := nameB a.1 && decide (a.2.length ≤ 5) && whB a.2
/-- The first k wheels are within the limits. -/
def whK (ts : List Int) (k : Nat) : Prop := ∀ i, i < k → inB (at0 ts i) 6 240 = true
theorem whK_zero (ts : List Int) : whK ts 0 := fun _ h => absurd h (Nat.not_lt_zero _)
theorem whK_succ {ts : List Int} {k : Nat} (h : whK ts k) (h2 : inB (at0 ts k) 6 240 = true) : whK ts (k + 1) := by
  intro i hi
  by_cases e : i = k
  · rw [e]; exact h2
  · exact h i (by omega)
theorem at0_get {ts : List Int} {i : Nat} (h : i < ts.length) : ts[i] = at0 ts i := by unfold at0; rw [List.getElem?_eq_getElem h]; rfl
theorem whK_all {ts : List Int} (h : whK ts ts.length) : whB ts = true := by
  unfold whB
  rw [List.all_eq_true]
  intro p hp
  obtain ⟨i, hi, e⟩ := List.getElem_of_mem hp
  have := h i hi
  rw [← at0_get hi, e] at this
  exact this
theorem wh_no {ts : List Int} {k : Nat} (hk : k < ts.length) (h : inB (at0 ts k) 6 240 = false) : whB ts = false := by
  cases hc : whB ts
  · rfl
  · have := List.all_eq_true.1 hc _ (List.getElem_mem hk)
    rw [at0_get hk, h] at this; cases this
theorem arb_name {a : Arb} (h : nameB a.1 = false) : arbB a = false := by simp [arbB, h]
theorem arb_wh {a : Arb} (h : whB a.2 = false) : arbB a = false := by simp [arbB, h]
theorem arb_go {a : Arb} (h : whB a.2 = true) (h2 : nameB a.1 = true) : arbB a = decide (a.2.length ≤ 5) := by simp [arbB, h, h2]
/-- A mesh is of wheels that exist. -/
def whlB (rs : List Arb) (a k : Int) : Bool := inB a 0 ((rs.length : Int) - 1) && inB k 0 (((arAt rs a.toNat).2.length : Int) - 1)
def mshB (rs : List Arb) (m : Msh) : Bool := decide (m.1 ≠ m.2.2.1) && whlB rs m.1 m.2.1 && whlB rs m.2.2.1 m.2.2.2
/-- Two meshes are the same. -/
def swM (m : Msh) : Msh := (m.2.2.1, m.2.2.2, m.1, m.2.1)
def eqM (a b : Msh) : Bool := decide (a = b) || decide (a = swM b)
theorem eqM_comm (a b : Msh) : eqM a b = eqM b a := by
  obtain ⟨a1, a2, a3, a4⟩ := a
  obtain ⟨b1, b2, b3, b4⟩ := b
  unfold eqM swM
  rw [Bool.eq_iff_iff]
  simp only [Bool.or_eq_true, decide_eq_true_eq, Prod.mk.injEq]
  constructor <;> rintro (⟨h1, h2, h3, h4⟩ | ⟨h1, h2, h3, h4⟩) <;> simp_all
/-- One of the first k meshes is the same. -/
def knM (ms : List Msh) (m : Msh) (k : Nat) : Bool := (ms.take k).any fun n => eqM n m
/-- None of the first k is. -/
def nomK (ms : List Msh) (m : Msh) (k : Nat) : Prop := ∀ i, i < k → eqM (msAt ms i) m = false
theorem nomK_zero (ms : List Msh) (m : Msh) : nomK ms m 0 := fun _ h => absurd h (Nat.not_lt_zero _)
theorem nomK_succ {ms : List Msh} {m : Msh} {k : Nat} (h : nomK ms m k) (h2 : eqM (msAt ms k) m = false) : nomK ms m (k + 1) := by
  intro i hi
  by_cases e : i = k
  · rw [e]; exact h2
  · exact h i (by omega)
theorem kn_no {ms : List Msh} {m : Msh} {k : Nat} (h : nomK ms m k) : knM ms m k = false := by
  unfold knM
  rw [List.any_eq_false]
  intro n hn
  obtain ⟨i, hi, e⟩ := List.getElem_of_mem hn
  rw [List.length_take] at hi
  have := h i (by omega)
  rw [List.getElem_take, msAt_get (by omega)] at e
  rw [← e, this]; simp
theorem kn_yes {ms : List Msh} {m : Msh} {i k : Nat} (hi : i < k) (hk : i < ms.length) (h : eqM (msAt ms i) m = true) : knM ms m k = true := by
  unfold knM
  rw [List.any_eq_true]
  refine ⟨msAt ms i, ?_, h⟩
  rw [← msAt_get hk, List.mem_take_iff_getElem]
  exact ⟨i, by omega, rfl⟩
/-- Works within the limits. -/
def okA (rs : List Arb) : Bool := (List.range rs.length).all fun i => arbB (arAt rs i) && ownN rs i
def okM (rs : List Arb) (ms : List Msh) : Bool := (List.range ms.length).all fun i => mshB rs (msAt ms i) && !knM ms (msAt ms i) i
def okW (rs : List Arb) (ms : List Msh) : Bool := okA rs && okM rs ms && decide (rs.length ≤ 16) && decide (ms.length ≤ 24)
def arbK (rs : List Arb) (k : Nat) : Prop := ∀ i, i < k → (arbB (arAt rs i) && ownN rs i) = true
def mshK (rs : List Arb) (ms : List Msh) (k : Nat) : Prop := ∀ i, i < k → (mshB rs (msAt ms i) && !knM ms (msAt ms i) i) = true
theorem arbK_zero (rs : List Arb) : arbK rs 0 := fun _ h => absurd h (Nat.not_lt_zero _)
theorem mshK_zero (rs : List Arb) (ms : List Msh) : mshK rs ms 0 := fun _ h => absurd h (Nat.not_lt_zero _)
theorem arbK_succ {rs : List Arb} {k : Nat} (h : arbK rs k) (h1 : arbB (arAt rs k) = true) (h2 : ownN rs k = true) : arbK rs (k + 1) := by
  intro i hi
  by_cases e : i = k
  · rw [e, h1, h2]; rfl
  · exact h i (by omega)
theorem mshK_succ {rs : List Arb} {ms : List Msh} {k : Nat} (h : mshK rs ms k) (h1 : mshB rs (msAt ms k) = true) (h2 : knM ms (msAt ms k) k = false) : mshK rs ms (k + 1) := by
  intro i hi
  by_cases e : i = k
  · rw [e, h1, h2]; rfl
  · exact h i (by omega)
theorem arbK_all {rs : List Arb} (h : arbK rs rs.length) : okA rs = true := by
  unfold okA; rw [List.all_eq_true]; intro i hi; exact h i (List.mem_range.1 hi)
theorem mshK_all {rs : List Arb} {ms : List Msh} (h : mshK rs ms ms.length) : okM rs ms = true := by
  unfold okM; rw [List.all_eq_true]; intro i hi; exact h i (List.mem_range.1 hi)
theorem okA_no {rs : List Arb} {k : Nat} (hk : k < rs.length) (h : (arbB (arAt rs k) && ownN rs k) = false) : okA rs = false := by
  cases hc : okA rs
  · rfl
  · rw [List.all_eq_true.1 hc k (List.mem_range.2 hk)] at h; cases h
theorem okM_no {rs : List Arb} {ms : List Msh} {k : Nat} (hk : k < ms.length) (h : (mshB rs (msAt ms k) && !knM ms (msAt ms k) k) = false) : okM rs ms = false := by
  cases hc : okM rs ms
  · rfl
  · rw [List.all_eq_true.1 hc k (List.mem_range.2 hk)] at h; cases h
theorem okW_a {rs : List Arb} {ms : List Msh} {k : Nat} (hk : k < rs.length) (h : arbB (arAt rs k) = false ∨ ownN rs k = false) : okW rs ms = false := by
  have : okA rs = false := okA_no hk (by rcases h with h | h <;> simp [h])
  simp [okW, this]
theorem okW_m {rs : List Arb} {ms : List Msh} {k : Nat} (hk : k < ms.length) (h : mshB rs (msAt ms k) = false ∨ knM ms (msAt ms k) k = true) : okW rs ms = false := by
  have : okM rs ms = false := okM_no hk (by rcases h with h | h <;> simp [h])
  simp [okW, this]
theorem okW_go {rs : List Arb} {ms : List Msh} (h : arbK rs rs.length) (h2 : mshK rs ms ms.length) : okW rs ms = (decide (rs.length ≤ 16) && decide (ms.length ≤ 24)) := by
  simp [okW, arbK_all h, mshK_all h2]
theorem okW_len {rs : List Arb} {ms : List Msh} (h : ¬ (rs.length ≤ 16 ∧ ms.length ≤ 24)) : okW rs ms = false := by
  cases hc : okW rs ms
  · rfl
  · simp only [okW, Bool.and_eq_true, decide_eq_true_eq] at hc; omega
theorem okW_parts {rs : List Arb} {ms : List Msh} (h : okW rs ms = true) : (∀ i, i < rs.length → arbB (arAt rs i) = true ∧ ownN rs i = true) ∧ (∀ i, i < ms.length → mshB rs (msAt ms i) = true ∧ knM ms (msAt ms i) i = false) ∧ rs.length ≤ 16 ∧ ms.length ≤ 24 := by
  simp only [okW, Bool.and_eq_true, decide_eq_true_eq] at h
  obtain ⟨⟨⟨h1, h2⟩, h3⟩, h4⟩ := h
  refine ⟨fun i hi => ?_, fun i hi => ?_, h3, h4⟩
  · have := List.all_eq_true.1 h1 i (List.mem_range.2 hi); simpa using this
  · have := List.all_eq_true.1 h2 i (List.mem_range.2 hi); simpa using this
end Go.Proofs.Ytclefibjmnabbaa

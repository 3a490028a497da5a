/-
  Plates: the plain words.
-/
import Derived.Test.YtclefibjmnabbaaWkM
import Derived.Test.YtclefibjmnabbaaRt
namespace Go.Proofs.Ytclefibjmnabbaa
open Go.RowKit

/-- A site. -/
structure Sit where
  nm : ByteArray
  x : Int
  y : Int
  wh : Int
  st : Int
instance : Inhabited Sit := ⟨⟨⟨#[]⟩, 0, 0, 0, 0⟩⟩
def siAt (ss : List Sit) (i : Nat) : Sit := ss[i]?.getD ⟨⟨#[]⟩, 0, 0, 0, 0⟩
theorem siAt_get {ss : List Sit} {i : Nat} (h : i < ss.length) : ss[i] = siAt ss i := by unfold siAt; rw [List.getElem?_eq_getElem h]; rfl
theorem siAt_take {ss : List Sit} {i k : Nat} (h : i < k) : siAt (ss.take k) i = siAt ss i := by unfold siAt; rw [List.getElem?_take, if_pos h]
theorem siAt_some {ss : List Sit} {i : Nat} (h : i < ss.length) : ss[i]? = some (siAt ss i) := by unfold siAt; rw [List.getElem?_eq_getElem h]; rfl
/-- A valid point; a valid site of a plate. -/
def ptB (x y : Int) : Bool := inB x 0 10000 && inB y 0 10000
theorem ptB_bd {x y : Int} (h : ptB x y = true) : 0 ≤ x ∧ x ≤ 10000 ∧ 0 ≤ y ∧ y ≤ 10000 := by
  simp only [ptB, Bool.and_eq_true, inB_true] at h; omega
def siB (W H : Int) (s : Sit) : Bool := nameB s.nm && (inB s.x 0 W && (inB s.y 0 H && (inB s.st 1 1000 && inB s.wh s.st 10000)))
/-- None of the first k sites has the name. -/
def snK (ss : List Sit) (n : ByteArray) (k : Nat) : Prop := ∀ i, i < k → eqS (siAt ss i).nm n = false
theorem snK_zero (ss : List Sit) (n : ByteArray) : snK ss n 0 := fun _ h => absurd h (Nat.not_lt_zero _)
theorem snK_succ {ss : List Sit} {n : ByteArray} {k : Nat} (h : snK ss n k) (h2 : eqS (siAt ss k).nm n = false) : snK ss n (k + 1) := by
  intro i hi
  by_cases e : i = k
  · rw [e]; exact h2
  · exact h i (by omega)
/-- One of a list of sites has the name. -/
def hasN (ss : List Sit) (n : ByteArray) : Bool := ss.any fun s => eqS s.nm n
theorem hasN_no {ss : List Sit} {n : ByteArray} (h : snK ss n ss.length) : hasN ss n = false := by
  unfold hasN
  rw [List.any_eq_false]
  intro s hs
  obtain ⟨i, hi, e⟩ := List.getElem_of_mem hs
  have := h i hi
  rw [← siAt_get hi, e] at this
  rw [this]; simp
theorem hasN_yes {ss : List Sit} {n : ByteArray} {k : Nat} (hk : k < ss.length) (h : eqS (siAt ss k).nm n = true) : hasN ss n = true := by
  unfold hasN
  rw [List.any_eq_true]
  exact ⟨ss[k], List.getElem_mem hk, by rw [siAt_get hk]; exact h⟩
/-- The sites within the limits. -/
def siteB (W H : Int) (ss : List Sit) (i : Nat) : Bool := siB W H (siAt ss i) && !hasN (ss.take i) (siAt ss i).nm
def okSi (W H : Int) (ss : List Sit) : Bool := (List.range ss.length).all fun i => siteB W H ss i
def okPl (W H M G : Int) (ss : List Sit) : Bool := inB W 1 10000 && (inB H 1 10000 && (inB M 0 1000 && (inB G 0 1000 && (decide (ss.length ≤ 20) && okSi W H ss))))
def siK (W H : Int) (ss : List Sit) (k : Nat) : Prop := ∀ i, i < k → siteB W H ss i = true
theorem siK_zero (W H : Int) (ss : List Sit) : siK W H ss 0 := fun _ h => absurd h (Nat.not_lt_zero _)
theorem siK_succ {W H : Int} {ss : List Sit} {k : Nat} (h : siK W H ss k) (h1 : siB W H (siAt ss k) = true) (h2 : hasN (ss.take k) (siAt ss k).nm = false) : siK W H ss (k + 1) := by
  intro i hi
  by_cases e : i = k
  · rw [e]; unfold siteB; rw [h1, h2]; rfl
  · exact h i (by omega)
theorem siK_all {W H : Int} {ss : List Sit} (h : siK W H ss ss.length) : okSi W H ss = true := by
  unfold okSi; rw [List.all_eq_true]; intro i hi; exact h i (List.mem_range.1 hi)
theorem okSi_no {W H : Int} {ss : List Sit} {k : Nat} (hk : k < ss.length) (h : siteB W H ss k = false) : okSi W H ss = false := by
  cases hc : okSi W H ss
  · rfl
  · rw [List.all_eq_true.1 hc k (List.mem_range.2 hk)] at h; cases h
theorem okPl_s {W H M G : Int} {ss : List Sit} {k : Nat} (hk : k < ss.length) (h : siB W H (siAt ss k) = false ∨ hasN (ss.take k) (siAt ss k).nm = true) : okPl W H M G ss = false := by
  have : okSi W H ss = false := okSi_no hk (by unfold siteB; rcases h with h | h <;> simp [h])
  simp [okPl, this]
theorem okPl_go {W H M G : Int} {ss : List Sit} (h1 : inB W 1 10000 = true) (h2 : inB H 1 10000 = true) (h3 : inB M 0 1000 = true) (h4 : inB G 0 1000 = true) (h5 : ss.length ≤ 20) (h6 : siK W H ss ss.length) : okPl W H M G ss = true := by
  simp [okPl, h1, h2, h3, h4, h5, siK_all h6]
theorem okPl_n1 {W H M G : Int} {ss : List Sit} (h : inB W 1 10000 = false) : okPl W H M G ss = false := by simp [okPl, h]
theorem okPl_n2 {W H M G : Int} {ss : List Sit} (h : inB H 1 10000 = false) : okPl W H M G ss = false := by simp [okPl, h]
theorem okPl_n3 {W H M G : Int} {ss : List Sit} (h : inB M 0 1000 = false) : okPl W H M G ss = false := by simp [okPl, h]
theorem okPl_n4 {W H M G : Int} {ss : List Sit} (h : inB G 0 1000 = false) : okPl W H M G ss = false := by simp [okPl, h]
theorem okPl_n5 {W H M G : Int} {ss : List Sit} (h : ¬ ss.length ≤ 20) : okPl W H M G ss = false := by simp [okPl, h]
theorem okPl_parts {W H M G : Int} {ss : List Sit} (h : okPl W H M G ss = true) : (1 ≤ W ∧ W ≤ 10000) ∧ (1 ≤ H ∧ H ≤ 10000) ∧ (0 ≤ M ∧ M ≤ 1000) ∧ (0 ≤ G ∧ G ≤ 1000) ∧ ss.length ≤ 20 ∧ ∀ i, i < ss.length → siteB W H ss i = true := by
  simp only [okPl, Bool.and_eq_true, decide_eq_true_eq, inB_true] at h
  obtain ⟨h1, h2, h3, h4, h5, h6⟩ := h
  exact ⟨h1, h2, h3, h4, h5, fun i hi => List.all_eq_true.1 h6 i (List.mem_range.2 hi)⟩
theorem siB_bd {W H : Int} {s : Sit} (h : siB W H s = true) : nameB s.nm = true ∧ (0 ≤ s.x ∧ s.x ≤ W) ∧ (0 ≤ s.y ∧ s.y ≤ H) ∧ (1 ≤ s.st ∧ s.st ≤ 1000) ∧ s.st ≤ s.wh ∧ s.wh ≤ 10000 := by
  simp only [siB, Bool.and_eq_true, inB_true] at h
  obtain ⟨h1, h2, h3, h4, h5⟩ := h
  exact ⟨h1, h2, h3, h4, h5⟩
theorem okPl_site {W H M G : Int} {ss : List Sit} (h : okPl W H M G ss = true) {i : Nat} (hi : i < ss.length) : siB W H (siAt ss i) = true := by
  have := (okPl_parts h).2.2.2.2.2 i hi
  unfold siteB at this
  rw [Bool.and_eq_true] at this
  exact this.1
/-- The square of a distance. -/
def d2 (a b c d : Int) : Int := (a - c) * (a - c) + (b - d) * (b - d)
theorem d2_comm (a b c d : Int) : d2 a b c d = d2 c d a b := by
  unfold d2
  rw [show c - a = -(a - c) by omega, show d - b = -(b - d) by omega, Int.neg_mul_neg, Int.neg_mul_neg]
theorem d2_bd {a b c d : Int} (h1 : 0 ≤ a ∧ a ≤ 10000) (h2 : 0 ≤ b ∧ b ≤ 10000) (h3 : 0 ≤ c ∧ c ≤ 10000) (h4 : 0 ≤ d ∧ d ≤ 10000) : 0 ≤ d2 a b c d ∧ d2 a b c d ≤ 200000000 := by
  have p := sq_bd (x := a - c) (m := 10000) (by omega) (by omega)
  have q := sq_bd (x := b - d) (m := 10000) (by omega) (by omega)
  unfold d2; omega
/-- The clearance of a wheel and a staff. -/
def clS (s t : Sit) : Int := rt (d2 s.x s.y t.x t.y) - s.wh - t.st
end Go.Proofs.Ytclefibjmnabbaa

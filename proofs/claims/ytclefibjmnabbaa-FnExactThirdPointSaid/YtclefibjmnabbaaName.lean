/-
  Names: the plain test, and the contracts of spec.l01Small, spec.l01Digit, impl.isLetter, impl.isDigitOrHyphen.
-/
import Derived.Test.YtclefibjmnabbaaRat
import Derived.Laws.RangeAny
namespace Go.Proofs.Ytclefibjmnabbaa
open Go.RowKit

def smB (c : Int) : Bool := decide (97 ≤ c ∧ c ≤ 122)
def dgB (c : Int) : Bool := decide (48 ≤ c ∧ c ≤ 57)
def dhB (c : Int) : Bool := decide ((48 ≤ c ∧ c ≤ 57) ∨ c = 45)
def at' (s : ByteArray) (j : Nat) : Int := ((s.data.toList.getD j 0).toNat : Int)
def nameB (s : ByteArray) : Bool := decide (s.size ≠ 0 ∧ s.size ≤ 12 ∧ smB (at' s 0) = true ∧ ∀ j, j < s.size → (smB (at' s j) || dhB (at' s j)) = true)
theorem at_eq {s : ByteArray} {j : Nat} (h : j < s.size) : at' s j = ((s[j].toNat : Nat) : Int) := by
  unfold at'
  rw [List.getD_eq_getElem?_getD, List.getElem?_eq_getElem (by simpa using h)]
  rfl

theorem empty_yes {s : ByteArray} (h : s.size = 0) : s.toList.isEmpty = true := by
  rw [ByteArray.toList_eq]
  have : s.data.toList.length = 0 := h
  rw [List.isEmpty_iff]
  exact List.length_eq_zero_iff.1 this
theorem empty_no {s : ByteArray} (h : s.size ≠ 0) : s.toList.isEmpty = false := by
  rw [ByteArray.toList_eq]
  have : s.data.toList.length ≠ 0 := h
  rw [List.isEmpty_eq_false_iff]
  exact fun e => this (by rw [e]; rfl)
theorem nameB_no (s : ByteArray) (h : s.size = 0 ∨ 12 < s.size ∨ smB (at' s 0) = false ∨ ∃ j, j < s.size ∧ (smB (at' s j) || dhB (at' s j)) = false) : false = nameB s := by
  symm
  unfold nameB
  rw [decide_eq_false_iff_not]
  rintro ⟨h1, h2, h3, h4⟩
  rcases h with h | h | h | ⟨j, hj, h⟩
  · exact h1 h
  · omega
  · rw [h] at h3; cases h3
  · rw [h4 j hj] at h; cases h
theorem nameB_yes (s : ByteArray) (h1 : s.size ≠ 0) (h2 : s.size ≤ 12) (h3 : smB (at' s 0) = true) (h4 : ∀ j, j < s.size → (smB (at' s j) || dhB (at' s j)) = true) : true = nameB s := by
  symm
  unfold nameB
  rw [decide_eq_true_iff]
  exact ⟨h1, h2, h3, h4⟩
theorem dh_of {c : Int} (h1 : dgB c = false) (h2 : (c != 45) = true) : dhB c = false := by
  simp [dgB, dhB] at *; omega
theorem dh_of1 {c : Int} (h1 : dgB c = true) : dhB c = true := by simp [dgB, dhB] at *; omega
theorem dh_of2 {c : Int} (h1 : (c != 45) = false) : dhB c = true := by simp [dhB] at *; omega

end Go.Proofs.Ytclefibjmnabbaa

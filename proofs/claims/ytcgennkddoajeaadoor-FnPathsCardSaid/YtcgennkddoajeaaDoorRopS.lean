/-
  The contract of spec.RatioOfPath.
-/
import Derived.Test.YtcgennkddoajeaaDoorRopM
import Derived.Test.YtcgennkddoajeaaDoorBox
import Derived.Laws.BytesArg
namespace Go.Proofs.YtcgennkddoajeaaDoor
open Go.RowKit

def RopRet (w : World) (l : List UInt8) (e : Ending) (w' : World) : Prop := e = .returned (.tuple #[.agg #[.int .i64 (rpN l), .int .i64 (rpD l)], .int .i64 (rpC l)]) ∧ Below w.heap.size w w'
theorem at_get (s : ByteArray) (k : Nat) (h : k < s.size) : s.data.toList[k]? = some s[k] := by
  have h' : k < s.data.toList.length := by simpa using h
  rw [List.getElem?_eq_getElem h']; rfl
theorem at_drop (s : ByteArray) (k : Nat) (h : k < s.size) : s.data.toList.drop k = s[k] :: s.data.toList.drop (k + 1) := by
  have h' : k < s.data.toList.length := by simpa using h
  rw [List.drop_eq_getElem_cons h']; rfl
theorem sz_eq (s : ByteArray) : s.data.toList.length = s.size := Array.length_toList
/-- The three kinds of letters. -/
theorem letter (c : UInt8) : (((c.toNat : Nat) : Int) = 76 ∧ c = 76) ∨ (¬ ((c.toNat : Nat) : Int) = 76 ∧ ((c.toNat : Nat) : Int) = 82 ∧ c = 82) ∨ (¬ ((c.toNat : Nat) : Int) = 76 ∧ ¬ ((c.toNat : Nat) : Int) = 82 ∧ c ≠ 76 ∧ c ≠ 82) := by
  by_cases h1 : c = 76
  · subst h1; left; exact ⟨rfl, rfl⟩
  · have e1 : ¬ ((c.toNat : Nat) : Int) = 76 := fun e => h1 (UInt8.toNat_inj.1 (show c.toNat = 76 by omega))
    by_cases h2 : c = 82
    · subst h2; right; left; exact ⟨e1, rfl, rfl⟩
    · have e2 : ¬ ((c.toNat : Nat) : Int) = 82 := fun e => h2 (UInt8.toNat_inj.1 (show c.toNat = 82 by omega))
      right; right; exact ⟨e1, e2, h1, h2⟩
theorem lr_bad {s : ByteArray} {k : Nat} (h : k < s.size) (h1 : s[k] ≠ 76) (h2 : s[k] ≠ 82) : lr s.data.toList = false := by
  cases hl : lr s.data.toList
  · rfl
  · unfold lr at hl
    rw [List.all_eq_true] at hl
    have := hl s[k] (List.mem_of_getElem? (at_get s k h))
    simp [h1, h2] at this
theorem lr_good {s : ByteArray} (h : ∀ k (hk : k < s.size), s[k] = 76 ∨ s[k] = 82) : lr s.data.toList = true := by
  unfold lr
  rw [List.all_eq_true]
  intro b hb
  obtain ⟨k, hk⟩ := List.mem_iff_getElem?.1 hb
  have hl : k < s.size := by have := (List.getElem?_eq_some_iff.1 hk).1; rw [sz_eq] at this; exact this
  rw [at_get s k hl] at hk
  have := h k hl
  rw [← Option.some.inj hk]
  rcases this with e | e <;> rw [e] <;> rfl
def OkTo (s : ByteArray) (k : Nat) : Prop := ∀ j (hj : j < s.size), j < k → s[j] = 76 ∨ s[j] = 82
def RpRel (s : ByteArray) (va vb vc vd vi : Value) : Prop :=
  ∃ (k : Nat) (a b c d : Int), k ≤ s.size ∧ vi = .int .i64 k ∧ va = .int .i64 a ∧ vb = .int .i64 b ∧ vc = .int .i64 c ∧ vd = .int .i64 d ∧ RpI ⟨a, b, c, d⟩ ∧ rp s.data.toList rp0 = rp (s.data.toList.drop k) ⟨a, b, c, d⟩
end Go.Proofs.YtcgennkddoajeaaDoor

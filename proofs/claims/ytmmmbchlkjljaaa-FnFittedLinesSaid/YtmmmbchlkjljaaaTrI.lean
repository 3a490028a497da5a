/-
  Trains: the plain words, and the contracts of impl.toothCount.valid, impl.isNoPair, slices.IndexFunc and slices.ContainsFunc at pairs with it, impl.isTrain; spec.l05Teeth, l05Pair, l05Ok.
-/
import Derived.Test.YtmmmbchlkjljaaaEqP
namespace Go.Proofs.Ytmmmbchlkjljaaa
open Go.RowKit

/-- A pair of wheels within the limits, and a train. -/
def okP (p : Int × Int) : Bool := inB p.1 6 240 && inB p.2 6 240
def okT (ps : List (Int × Int)) : Bool := decide (ps.length ≤ 5) && ps.all okP
theorem okP_bd {p : Int × Int} (h : okP p = true) : 6 ≤ p.1 ∧ p.1 ≤ 240 ∧ 6 ≤ p.2 ∧ p.2 ≤ 240 := by
  simp only [okP, Bool.and_eq_true, inB_true] at h; omega
theorem okT_iff {ps : List (Int × Int)} : okT ps = true ↔ ps.length ≤ 5 ∧ ∀ p ∈ ps, okP p = true := by simp [okT]
theorem okT_at {ps : List (Int × Int)} (h : okT ps = true) {i : Nat} (hi : i < ps.length) : 6 ≤ (pat ps i).1 ∧ (pat ps i).1 ≤ 240 ∧ 6 ≤ (pat ps i).2 ∧ (pat ps i).2 ≤ 240 :=
  okP_bd ((okT_iff.1 h).2 _ (pat_mem hi))
theorem okP_no1 {x y : Int} (h : inB x 6 240 = false) : okP (x, y) = false := by simp [okP, h]
theorem okP_no2 {x y : Int} (h : inB y 6 240 = false) : okP (x, y) = false := by simp [okP, h]
theorem okP_yes {x y : Int} (h : inB x 6 240 = true) (h2 : inB y 6 240 = true) : okP (x, y) = true := by simp [okP, h, h2]
/-- The first k pairs are within the limits. -/
def okK (ps : List (Int × Int)) (k : Nat) : Prop := ∀ i, i < k → okP (pat ps i) = true
theorem okK_zero (ps : List (Int × Int)) : okK ps 0 := fun _ h => absurd h (Nat.not_lt_zero _)
theorem okK_succ {ps : List (Int × Int)} {k : Nat} (h : okK ps k) (h2 : okP (pat ps k) = true) : okK ps (k + 1) := by
  intro i hi
  by_cases e : i = k
  · rw [e]; exact h2
  · exact h i (by omega)
theorem okK_all {ps : List (Int × Int)} (h : okK ps ps.length) : ps.all okP = true := by
  rw [List.all_eq_true]
  intro p hp
  obtain ⟨i, hi, e⟩ := List.getElem_of_mem hp
  have := h i hi
  rw [← pat_get hi, e] at this
  exact this
theorem all_no {ps : List (Int × Int)} {k : Nat} (hk : k < ps.length) (h : okP (pat ps k) = false) : ps.all okP = false := by
  cases hc : ps.all okP
  · rfl
  · rw [List.all_eq_true.1 hc _ (pat_mem hk)] at h; cases h

/-- What IndexFunc returns: the place of the first pair that is out of the limits. -/
def IdxRet (ps : List (Int × Int)) (w : World) (e : Ending) (w' : World) : Prop := ∃ r : Int, e = .returned (.int .i64 r) ∧ decide (0 ≤ r) = !ps.all okP ∧ r ≤ ps.length ∧ -1 ≤ r ∧ Below w.heap.size w w'
end Go.Proofs.Ytmmmbchlkjljaaa

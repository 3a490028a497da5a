/-
  The contract of spec.RatioOfTerms.
-/
import Derived.Test.YtldjplopglpgfaaTo64
import Derived.Test.YtldjplopglpgfaaMkC
namespace Go.Proofs.Ytldjplopglpgfaa
open Go.RowKit

/-- All terms behind the first one are positive, and there is one. -/
def rtOk (ts : List Int) : Bool := decide (1 ≤ ts.length) && ts.tail.all fun u => decide (1 ≤ u)
def rtA (ts : List Int) : Int := if rtOk ts then cfA ts else 0
def rtB (ts : List Int) : Int := if rtOk ts then cfB ts else 0
def rtC (ts : List Int) : Int := if rtOk ts then (if cfK ts then 0 else 2) else 1
theorem rt_no {ts : List Int} (h : rtOk ts = false) : rtA ts = 0 ∧ rtB ts = 0 ∧ rtC ts = 1 := by simp [rtA, rtB, rtC, h]
theorem rt_yes {ts : List Int} (h : rtOk ts = true) : rtA ts = cfA ts ∧ rtB ts = cfB ts ∧ rtC ts = (if cfK ts then 0 else 2) := by simp [rtA, rtB, rtC, h]
theorem rt_code (ts : List Int) : (if cfK ts then cfA ts else 0) = cfA ts ∧ (if cfK ts then cfB ts else 0) = cfB ts := by
  unfold cfK cfA cfB; cases cfR ts <;> simp
theorem at0_tail {ts : List Int} {j : Nat} (h : j + 1 < ts.length) : at0 ts (j + 1) ∈ ts.tail := by
  cases ts with
  | nil => simp at h
  | cons t ts => simp at h; unfold at0; rw [List.getElem?_cons_succ, List.getElem?_eq_getElem h]; simp
theorem rtOk_bad {ts : List Int} {j : Nat} (h1 : 1 ≤ j) (h : j < ts.length) (hb : at0 ts j < 1) : rtOk ts = false := by
  obtain ⟨k, rfl⟩ : ∃ k, j = k + 1 := ⟨j - 1, by omega⟩
  have hm := at0_tail h
  cases hr : rtOk ts
  · rfl
  · unfold rtOk at hr
    rw [Bool.and_eq_true] at hr
    have := List.all_eq_true.1 hr.2 _ hm
    simp at this
    omega
theorem rtOk_good {ts : List Int} (h0 : 1 ≤ ts.length) (h : ∀ j, 1 ≤ j → j < ts.length → 1 ≤ at0 ts j) : rtOk ts = true := by
  unfold rtOk
  rw [Bool.and_eq_true]
  refine ⟨by simpa using h0, List.all_eq_true.2 fun u hu => ?_⟩
  cases ts with
  | nil => simp at hu
  | cons t ts =>
    obtain ⟨i, hi, rfl⟩ := List.getElem_of_mem (show u ∈ ts from hu)
    have := h (i + 1) (by omega) (by simp; omega)
    unfold at0 at this
    rw [List.getElem?_cons_succ, List.getElem?_eq_getElem hi] at this
    simpa using this
theorem rtOk_pos {ts : List Int} (h : rtOk ts = true) : 1 ≤ ts.length ∧ ∀ u ∈ ts.tail, 1 ≤ u := by
  unfold rtOk at h
  rw [Bool.and_eq_true] at h
  exact ⟨by simpa using h.1, fun u hu => by simpa using List.all_eq_true.1 h.2 u hu⟩
def RtRet (w : World) (ts : List Int) (e : Ending) (w' : World) : Prop := e = .returned (.tuple #[.agg #[.int .i64 (rtA ts), .int .i64 (rtB ts)], .int .i64 (rtC ts)]) ∧ Below w.heap.size w w'
end Go.Proofs.Ytldjplopglpgfaa

/-
  The contract of spec.l03Ratio: the ratio of terms.
-/
import Derived.Test.YtpbepibklipfpaaDoorBox
import Derived.Test.YtpbepibklipfpaaDoorAr1
namespace Go.Proofs.YtpbepibklipfpaaDoor
open Go.RowKit

/-- A number of a list. -/
def at0 (ts : List Int) (i : Nat) : Int := ts[i]?.getD 0
theorem at0_mem {ts : List Int} {i : Nat} (h : i < ts.length) : at0 ts i ∈ ts := by unfold at0; rw [List.getElem?_eq_getElem h]; simp
/-- A list of numbers lies in a block, from its first cell on. -/
def IntsAt (w : World) (g : Nat) (ts : List Int) : Prop := ∀ i, i < ts.length → w.cell? ⟨g, i, none⟩ = some (.int .i64 (at0 ts i))
theorem IntsAt.keep {w w' : World} {g : Nat} {ts : List Int} (h : IntsAt w g ts) (hg : g < w.heap.size) (hb : Below w.heap.size w w') : IntsAt w' g ts := fun i hi => (hb.cell (p := ⟨g, i, none⟩) hg).trans (h i hi)
theorem mk_one (t : Int) : lowOk t 1 = inT t ∧ mkA t 1 = (if inT t then t else 0) ∧ mkB t 1 = (if inT t then 1 else 0) := by
  have h := mk_cop (n := t) (d := 1) (by omega) (by simp)
  have h1 : inT 1 = true := by decide
  simpa [h1] using h
theorem mk_one_yes {t : Int} (h : inT t = true) : lowOk t 1 = true ∧ mkA t 1 = t ∧ mkB t 1 = 1 := by have := mk_one t; simpa [h] using this
theorem mk_one_no {t : Int} (h : inT t = false) : lowOk t 1 = false ∧ mkA t 1 = 0 ∧ mkB t 1 = 0 := by have := mk_one t; simpa [h] using this
theorem mk_next {t x y : Int} (hx : 1 ≤ x) (hx2 : x ≤ 1000000000) (hg : Int.gcd x y = 1) : lowOk (addX t 1 y x) (mulX 1 x) = inT (t * x + y) ∧ mkA (addX t 1 y x) (mulX 1 x) = (if inT (t * x + y) then t * x + y else 0) ∧ mkB (addX t 1 y x) (mulX 1 x) = (if inT (t * x + y) then x else 0) := by
  have e1 : addX t 1 y x = t * x + y := by unfold addX; omega
  have e2 : mulX 1 x = x := by unfold mulX; omega
  rw [e1, e2]
  have h := mk_cop (n := t * x + y) (d := x) hx (by rw [Int.gcd_comm, Int.add_comm, Int.gcd_add_mul_right_right]; exact hg)
  have h1 : inT x = true := inT_of (by omega) hx2
  simpa [h1] using h
theorem drop_cons' {ts : List Int} {m : Nat} (h : m < ts.length) : ts.drop m = at0 ts m :: ts.drop (m + 1) := by
  rw [List.drop_eq_getElem_cons h]; simp [at0, h]
theorem cf_next {ts : List Int} {j : Nat} {t x y : Int} (hd : ts.drop j = t :: ts.drop (j + 1)) (hg : cfR (ts.drop (j + 1)) = some (x, y)) (ht : inT t = true) (h1 : 1 ≤ x) (h2 : x ≤ 1000000000) :
    cfK (ts.drop j) = inT (t * x + y) ∧ cfA (ts.drop j) = (if inT (t * x + y) then t * x + y else 0) ∧ cfB (ts.drop j) = (if inT (t * x + y) then x else 0) := by
  rw [hd]
  cases hk : inT (t * x + y)
  · obtain ⟨a, b, c⟩ := cf_none (cfR_cons_no2 hg hk)
    exact ⟨c, by rw [a]; rfl, by rw [b]; rfl⟩
  · obtain ⟨a, b, c⟩ := cf_some (cfR_cons_yes hg ht hk (inT_of (by omega) h2))
    exact ⟨c, by rw [a]; rfl, by rw [b]; rfl⟩
/-- What the loop of l03Ratio keeps. -/
def CfRel (w : World) (ts : List Int) (b : Nat) (ok i : Value) (wr : World) : Prop :=
  ∃ (m : Nat) (iv : Int), m < ts.length ∧ ok = .bool (cfK (ts.drop m)) ∧ i = .int .i64 iv ∧ iv = (m : Int) - 1 ∧ Box2 wr b (cfA (ts.drop m)) (cfB (ts.drop m)) ∧ Box2 wr w.heap.size 0 0 ∧ Below w.heap.size w wr
def CfRet (w : World) (ts : List Int) (e : Ending) (w' : World) : Prop := e = .returned (.tuple #[.agg #[.int .i64 (cfA ts), .int .i64 (cfB ts)], .bool (cfK ts)]) ∧ Below w.heap.size w w'

theorem cf_last {ts : List Int} {k : Nat} (h : ts.length = k + 1) : cfK (ts.drop k) = lowOk (at0 ts k) 1 ∧ cfA (ts.drop k) = mkA (at0 ts k) 1 ∧ cfB (ts.drop k) = mkB (at0 ts k) 1 := by
  have e : ts.drop k = [at0 ts k] := by
    rw [drop_cons' (by omega), List.drop_of_length_le (by omega)]
  rw [e]
  generalize at0 ts k = t
  have h1 : inT 1 = true := by decide
  cases ht : inT t
  · obtain ⟨a, b, c⟩ := cf_none (cfR_cons_no1 (ts := []) ht)
    obtain ⟨a', b', c'⟩ := mk_one_no ht
    exact ⟨c.trans a'.symm, a.trans b'.symm, b.trans c'.symm⟩
  · obtain ⟨a, b, c⟩ := cf_some (cfR_cons_yes (ts := []) (x := 1) (y := 0) rfl ht (by simpa using ht) h1)
    obtain ⟨a', b', c'⟩ := mk_one_yes ht
    exact ⟨c.trans a'.symm, by rw [a, b']; omega, b.trans c'.symm⟩
theorem cf_bad {ts : List Int} {m : Nat} (h : cfK (ts.drop m) = false) : cfA (ts.drop m) = 0 ∧ cfB (ts.drop m) = 0 ∧ cfA ts = 0 ∧ cfB ts = 0 ∧ cfK ts = false := by
  have h1 : cfR (ts.drop m) = none := by
    unfold cfK at h; cases hc : cfR (ts.drop m) with
    | none => rfl
    | some r => rw [hc] at h; cases h
  obtain ⟨a, b, _⟩ := cf_none h1
  obtain ⟨a', b', c'⟩ := cf_none (cfR_none m ts h1)
  exact ⟨a, b, a', b', c'⟩
theorem tail_pos {ts : List Int} {m : Nat} (hp : ∀ u ∈ ts.tail, 1 ≤ u) (hm : 1 ≤ m) : ∀ u ∈ ts.drop m, 1 ≤ u := by
  intro u hu
  apply hp
  obtain ⟨k, rfl⟩ : ∃ k, m = k + 1 := ⟨m - 1, by omega⟩
  cases ts with
  | nil => simp at hu
  | cons t ts => simp at hu ⊢; exact List.mem_of_mem_drop hu
theorem cf_good {ts : List Int} {m : Nat} (h : cfK (ts.drop m) = true) : cfR (ts.drop m) = some (cfA (ts.drop m), cfB (ts.drop m)) := by
  unfold cfK at h; unfold cfA cfB; cases hc : cfR (ts.drop m) with
    | none => rw [hc] at h; cases h
    | some r => rfl
end Go.Proofs.YtpbepibklipfpaaDoor

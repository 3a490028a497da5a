/-
  A region that draws its order, by what stands when a set of its operations has come up: one step an operation, whatever the order.
-/
import Derived.Test.YtldjplopglpgfaaRin
namespace Go.Proofs.Ytldjplopglpgfaa
open Go.RowKit

/-- How many have not come up. -/
def nf (l : Array Bool) : Nat := l.toList.count false
theorem nf_zero {l : Array Bool} (h : nf l = 0) : ∀ i, i < l.size → l.getD i false = true := by
  intro i hi
  have hm : false ∉ l.toList := List.count_eq_zero.1 h
  have e : l.getD i false = l[i] := by simp [Array.getD, hi]
  rw [e]
  cases hb : l[i] with
  | true => rfl
  | false => exact absurd (by rw [← hb]; simp) hm
theorem nf_set {l : Array Bool} {i : Nat} (hi : i < l.size) (h : l.getD i true = false) : nf (l.setIfInBounds i true) + 1 = nf l := by
  unfold nf
  have e : l[i] = false := by simpa [Array.getD, hi] using h
  have hm : 0 < l.toList.count false := List.count_pos_iff.2 (by rw [← e]; simp)
  rw [Array.toList_setIfInBounds, List.count_set (by simpa using hi)]
  simp [e]
  have e2 : l.toList.count false = Array.count false l := by simp
  omega
theorem getD_up {l : Array Bool} {i : Nat} (hi : i < l.size) : (fun j => (l.setIfInBounds i true).getD j false) = fun j => j == i || l.getD j false := by
  funext j
  rw [Array.getD_eq_getD_getElem?, Array.getD_eq_getD_getElem?, Array.getElem?_setIfInBounds]
  by_cases h : j = i
  · subst h; simp [hi]
  · have h' : i ≠ j := fun e => h e.symm
    simp [h, h']
def backB (ops : Array Oper) : Bool := (List.range ops.size).all fun i => ((ops[i]?).map fun o => o.after.all fun e => decide (e.on < i)).getD true
theorem backB_spec {ops : Array Oper} (h : backB ops = true) {i : Nat} {o : Oper} (ho : ops[i]? = some o) {e : Edge} (he : e ∈ o.after) : e.on < i := by
  have hi := (Array.getElem?_eq_some_iff.1 ho).1
  have := List.all_eq_true.1 h i (by simpa using hi)
  rw [ho] at this
  simp at this
  obtain ⟨k, hk, rfl⟩ := Array.mem_iff_getElem.1 he
  exact this k hk
/-- Its waits are over. -/
def freeB (md : Region.Mode) (f : Nat → Bool) (o : Oper) : Bool := o.after.all fun e => !Region.binds md e || f e.on
theorem mem_ready {md : Region.Mode} {ops : Array Oper} {listed : Array Bool} {i : Nat} : i ∈ Region.ready md ops listed ↔ ∃ o, ops[i]? = some o ∧ listed.getD i true = false ∧ freeB md (fun j => listed.getD j false) o = true := by
  unfold Region.ready freeB
  rw [List.mem_filter, List.mem_range]
  constructor
  · rintro ⟨hi, h⟩
    rw [Array.getElem?_eq_getElem hi] at h ⊢
    simp only [Bool.and_eq_true, Bool.not_eq_true', Option.map_some, Option.getD_some] at h
    exact ⟨_, rfl, h.1, h.2⟩
  · rintro ⟨o, ho, h1, h2⟩
    refine ⟨(Array.getElem?_eq_some_iff.1 ho).1, ?_⟩
    rw [ho]
    simp only [Bool.and_eq_true, Bool.not_eq_true', Option.map_some, Option.getD_some]
    exact ⟨h1, h2⟩
theorem all_of_none {md : Region.Mode} {ops : Array Oper} {listed : Array Bool} (hb : backB ops = true) (hs : listed.size = ops.size) (h : Region.ready md ops listed = []) : ∀ k i, i < k → i < ops.size → listed.getD i false = true := by
  intro k
  induction k with
  | zero => intro i hi; omega
  | succ k ih =>
    intro i hik hi
    by_cases hlt : i < k
    · exact ih i hlt hi
    · cases hv : listed.getD i false with
      | true => rfl
      | false =>
        exfalso
        have hm : i ∈ Region.ready md ops listed := mem_ready.2 ⟨ops[i], Array.getElem?_eq_getElem hi, ?_, ?_⟩
        · rw [h] at hm; cases hm
        · have : i < listed.size := by omega
          simp [Array.getD, this] at hv ⊢
          exact hv
        · unfold freeB
          rw [Array.all_eq_true']
          intro e he
          have := backB_spec hb (Array.getElem?_eq_getElem hi) he
          simp only [Bool.or_eq_true]
          exact .inr (ih e.on (by omega) (by omega))
theorem wpAny_inv {P : Program} {md : Region.Mode} {ops : Array Oper} {Q : Exit → Act → World → Prop} (I : (Nat → Bool) → Act → World → Prop) (hb : backB ops = true)
    (hstep : ∀ (f : Nat → Bool) (a : Act) (w : World) (i : Nat) (o : Oper), I f a w → f i = false → ops[i]? = some o → freeB md f o = true → wpOp P ops Q i (fun a' w' => I (fun j => j == i || f j) a' w') a w)
    (hend : ∀ (f : Nat → Bool) (a : Act) (w : World), (∀ i, i < ops.size → f i = true) → I f a w → Q .normal a w) :
    ∀ (fuel : Nat) (listed : Array Bool) (a : Act) (w : World), listed.size = ops.size → nf listed ≤ fuel → I (fun j => listed.getD j false) a w → wpAny P md ops Q fuel listed a w
  | 0, listed, a, w, hs, hn, hI => by
    have hall := nf_zero (show nf listed = 0 by omega)
    refine ⟨?_, hend _ a w (fun i hi => hall i (by omega)) hI⟩
    cases hr : Region.ready md ops listed with
    | nil => rfl
    | cons i r =>
      exfalso
      obtain ⟨o, ho, h1, _⟩ := mem_ready.1 (show i ∈ Region.ready md ops listed by rw [hr]; simp)
      have hi := (Array.getElem?_eq_some_iff.1 ho).1
      have h2 := hall i (by omega)
      have : i < listed.size := by omega
      simp [Array.getD, this] at h1 h2
      rw [h1] at h2; cases h2
  | fuel + 1, listed, a, w, hs, hn, hI => by
    refine ⟨fun h0 => hend _ a w (fun i hi => all_of_none hb hs h0 (i + 1) i (by omega) hi) hI, fun i hi => ?_⟩
    obtain ⟨o, ho, h1, h2⟩ := mem_ready.1 hi
    have hlt := (Array.getElem?_eq_some_iff.1 ho).1
    have hlt' : i < listed.size := by omega
    have h1' : listed.getD i false = false := by simpa [Array.getD, hlt'] using h1
    refine wpOp_mono (fun a' w' hI' => ?_) (hstep _ a w i o hI h1' ho h2)
    refine wpAny_inv I hb hstep hend fuel _ a' w' (by simpa using hs) (by have := nf_set hlt' h1; omega) ?_
    rw [getD_up hlt']; exact hI'
theorem nf_start (n : Nat) : nf (Array.replicate n false) ≤ n := by
  unfold nf
  refine Nat.le_trans List.count_le_length ?_
  simp
theorem start_f (n : Nat) : (fun j => (Array.replicate n false).getD j false) = fun _ => false := by
  funext j
  by_cases h : j < n <;> simp [Array.getD, h]
theorem stOp_one {P : Program} {ops : Array Oper} {w : World} {K : Act → Prop} {a : Act} {i : Nat} {o : Oper} (hi : ops[i]? = some o) (h : wpStill P ops w K [o] a) : stOp P ops w i K a := by
  unfold stOp
  simp only [hi]
  exact h
/-- An operation that only reads. -/
theorem inv_read {P : Program} {ops : Array Oper} {Q : Exit → Act → World → Prop} {w : World} {K : Act → World → Prop} {a : Act} {i : Nat} {o : Oper} (hi : ops[i]? = some o) (h : wpStill P ops w (fun a' => K a' w) [o] a) : wpOp P ops Q i K a w :=
  wpOp_of_stOp (fun _ h => h) (stOp_one hi h)
theorem inv_list {P : Program} {ops : Array Oper} {Q : Exit → Act → World → Prop} {w : World} {K : Act → World → Prop} {a : Act} {i : Nat} {o : Oper} (hi : ops[i]? = some o) (hw : Region.wanted o (yielded ops a.tmps) = true) (h : o.wp P a w K Q) : wpOp P ops Q i K a w := by
  unfold wpOp
  simp only [hi, hw, if_true]
  exact .inl h
/-- The region, in a round of a loop over an iterator. -/
theorem region_inv {l n id : Nat} {P : Program} {ls : List Oper} {R : Act → World → Prop} {Q : Exit → Act → World → Prop} {a : Act} {w : World} (I : (Nat → Bool) → Act → World → Prop) (hnd : noDefer ls = true) (hm : P.follows .mixedOrders = true) (hb : backB ls.toArray = true) (hQ : ∀ a w, R a w → Q .normal a w)
    (h0 : I (fun _ => false) a w.drew)
    (hstep : ∀ (f : Nat → Bool) (a : Act) (w : World) (i : Nat) (o : Oper), I f a w → f i = false → ls.toArray[i]? = some o → freeB .any f o = true → wpOp P ls.toArray (nrm R) i (fun a' w' => I (fun j => j == i || f j) a' w') a w)
    (hend : ∀ (f : Nat → Bool) (a : Act) (w : World), (∀ i, i < ls.length → f i = true) → I f a w → R a w) : (Code.region id ls.toArray true).wpIn (Fence.wide.inRound l) n P Q a w := by
  refine wpIn_mono (Q := nrm R) (wpIn_region_any hm (wpAny_in (noDefer_spec hnd) _ _ _ _ (wpAny_inv I hb hstep (fun f a w hf hI => hend f a w (fun i hi => hf i (by simpa using hi)) hI) _ _ _ _ (by simp) (nf_start _) ?_))) (fun e a w hr => ?_)
  · rw [start_f]; exact h0
  · cases e with
    | normal => exact hQ a w hr
    | _ => exact hr.elim
end Go.Proofs.Ytldjplopglpgfaa

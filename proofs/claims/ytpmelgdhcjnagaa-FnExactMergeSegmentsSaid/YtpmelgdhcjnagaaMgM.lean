/-
  Merged segments: the plain words (no program).
-/
import Derived.Test.YtpmelgdhcjnagaaRaM
namespace Go.Proofs.Ytpmelgdhcjnagaa

/-- One more segment: added to the last one, or behind it. -/
def mgC (out : List (Int × Int)) (p : Int × Int) : Prop := 0 < out.length ∧ (pat out (out.length - 1)).2 = p.2 ∧ (pat out (out.length - 1)).1 + p.1 ≤ 240
instance (out : List (Int × Int)) (p : Int × Int) : Decidable (mgC out p) := by unfold mgC; infer_instance
def mgS (out : List (Int × Int)) (p : Int × Int) : List (Int × Int) := if mgC out p then out.set (out.length - 1) ((pat out (out.length - 1)).1 + p.1, (pat out (out.length - 1)).2) else out ++ [p]
def mgF (ps : List (Int × Int)) : List (Int × Int) := ps.foldl mgS []
theorem mgS_set {out : List (Int × Int)} {p : Int × Int} (h : mgC out p) : mgS out p = out.set (out.length - 1) ((pat out (out.length - 1)).1 + p.1, (pat out (out.length - 1)).2) := by unfold mgS; rw [if_pos h]
theorem mgS_app {out : List (Int × Int)} {p : Int × Int} (h : ¬ mgC out p) : mgS out p = out ++ [p] := by unfold mgS; rw [if_neg h]
theorem mgF_take {ps : List (Int × Int)} {k : Nat} (h : k < ps.length) : mgF (ps.take (k + 1)) = mgS (mgF (ps.take k)) (pat ps k) := by
  unfold mgF; rw [pat_take h, List.foldl_append]; rfl
theorem mgF_zero (ps : List (Int × Int)) : mgF (ps.take 0) = [] := rfl
theorem pat_set_self {ps : List (Int × Int)} {i : Nat} {q : Int × Int} (h : i < ps.length) : pat (ps.set i q) i = q := by
  unfold pat; rw [List.getElem?_set_self h]; rfl
theorem pat_set_ne {ps : List (Int × Int)} {i j : Nat} {q : Int × Int} (h : i ≠ j) : pat (ps.set i q) j = pat ps j := by
  unfold pat; rw [List.getElem?_set_ne h]
theorem pat_app_left {ps : List (Int × Int)} {p : Int × Int} {i : Nat} (h : i < ps.length) : pat (ps ++ [p]) i = pat ps i := by
  unfold pat; rw [List.getElem?_append_left h]
theorem pat_app_last {ps : List (Int × Int)} {p : Int × Int} : pat (ps ++ [p]) ps.length = p := by
  unfold pat; simp
/-- What holds of merged segments: they are valid, as many as the segments at most, and no two neighbours can be merged. -/
structure MgI (out : List (Int × Int)) (n : Nat) : Prop where
  len : out.length ≤ n
  ok : ∀ i, i < out.length → okSg (pat out i) = true
  apart : ∀ i, i + 1 < out.length → (pat out i).2 = (pat out (i + 1)).2 → 240 < (pat out i).1 + (pat out (i + 1)).1
theorem MgI.nil : MgI [] 0 := ⟨Nat.le_refl _, fun i h => by simp at h, fun i h => by simp at h⟩
theorem MgI.step {out : List (Int × Int)} {n : Nat} {p : Int × Int} (H : MgI out n) (hp : okSg p = true) : MgI (mgS out p) (n + 1) := by
  have h1 := H.len
  by_cases hc : mgC out p
  · obtain ⟨c0, c1, c2⟩ := id hc
    rw [mgS_set hc]
    have hx := okSg_bd hp
    have hu := okSg_bd (H.ok (out.length - 1) (by omega))
    refine ⟨by rw [List.length_set]; omega, fun i hi => ?_, fun i hi => ?_⟩
    · rw [List.length_set] at hi
      by_cases e : out.length - 1 = i
      · rw [← e, pat_set_self (by omega)]
        simp only [okSg, Bool.and_eq_true, inB_true]
        omega
      · rw [pat_set_ne e]; exact H.ok i hi
    · rw [List.length_set] at hi
      rw [pat_set_ne (show out.length - 1 ≠ i by omega)]
      by_cases e : out.length - 1 = i + 1
      · rw [← e, pat_set_self (by omega)]
        intro e2
        have := H.apart i hi
        rw [← e] at this
        have := this e2
        simp only
        omega
      · rw [pat_set_ne e]; exact H.apart i hi
  · rw [mgS_app hc]
    refine ⟨by rw [List.length_append]; simp; omega, fun i hi => ?_, fun i hi => ?_⟩
    · rw [List.length_append] at hi
      by_cases e : i < out.length
      · rw [pat_app_left e]; exact H.ok i e
      · obtain rfl : i = out.length := by simp at hi; omega
        rw [pat_app_last]; exact hp
    · rw [List.length_append] at hi
      have hi' : i < out.length := by simp at hi; omega
      rw [pat_app_left hi']
      by_cases e : i + 1 < out.length
      · rw [pat_app_left e]; exact H.apart i e
      · obtain e2 : i + 1 = out.length := by omega
        rw [e2, pat_app_last]
        intro e3
        have hn : ¬ mgC out p := hc
        unfold mgC at hn
        rw [show out.length - 1 = i by omega] at hn
        omega
theorem mgF_inv {ps : List (Int × Int)} (h : ∀ p ∈ ps, okSg p = true) : ∀ {k : Nat}, k ≤ ps.length → MgI (mgF (ps.take k)) k
  | 0, _ => MgI.nil
  | k + 1, hk => by
    rw [mgF_take (by omega)]
    exact (mgF_inv h (k := k) (by omega)).step (h _ (pat_mem (by omega)))
/-- A function of segments that grows with the hours in proportion. -/
def linS (f : Int × Int → Int) : Prop := ∀ a b t, f (a + b, t) = f (a, t) + f (b, t)
theorem smF_set (f : Int × Int → Int) : ∀ (ps : List (Int × Int)) (i : Nat) (q : Int × Int), i < ps.length → smF f (ps.set i q) + f (pat ps i) = smF f ps + f q
  | p :: ps, 0, q, _ => by simp [smF, pat]; omega
  | p :: ps, i + 1, q, h => by
    have := smF_set f ps i q (by simpa using h)
    have e : pat (p :: ps) (i + 1) = pat ps i := rfl
    simp only [List.set_cons_succ, smF, e]
    omega
theorem smF_mgS {f : Int × Int → Int} (hf : linS f) (out : List (Int × Int)) (p : Int × Int) : smF f (mgS out p) = smF f out + f p := by
  by_cases hc : mgC out p
  · obtain ⟨c0, c1, c2⟩ := id hc
    rw [mgS_set hc]
    have h := smF_set f out (out.length - 1) ((pat out (out.length - 1)).1 + p.1, (pat out (out.length - 1)).2) (by omega)
    have h2 := hf (pat out (out.length - 1)).1 p.1 (pat out (out.length - 1)).2
    have e1 : ((pat out (out.length - 1)).1, (pat out (out.length - 1)).2) = pat out (out.length - 1) := rfl
    have e2 : (p.1, (pat out (out.length - 1)).2) = p := by rw [c1]
    rw [e1, e2] at h2
    omega
  · rw [mgS_app hc, smF_append]; simp [smF]
theorem smF_mg {f : Int × Int → Int} (hf : linS f) (ps : List (Int × Int)) : smF f (mgF ps) = smF f ps := by
  have key : ∀ k, k ≤ ps.length → smF f (mgF (ps.take k)) = smF f (ps.take k) := by
    intro k
    induction k with
    | zero => intro _; rfl
    | succ k ih =>
      intro hk
      rw [mgF_take (by omega), smF_mgS hf, ih (by omega), smF_take f (by omega)]
  have := key ps.length (Nat.le_refl _)
  rwa [List.take_of_length_le (Nat.le_refl _)] at this
theorem lin_dr (b l c m : Int) : linS (drS b l c m) := fun x y t => by unfold drS; exact Int.add_mul _ _ _
theorem lin_hr : linS hrS := fun _ _ _ => rfl
theorem lin_dg : linS dgS := fun x y t => by unfold dgS; exact Int.add_mul _ _ _
theorem mgF_ok {ps : List (Int × Int)} (h : okSl ps = true) : okSl (mgF ps) = true ∧ (mgF ps).length ≤ ps.length ∧ ∀ i, i + 1 < (mgF ps).length → (pat (mgF ps) i).2 = (pat (mgF ps) (i + 1)).2 → 240 < (pat (mgF ps) i).1 + (pat (mgF ps) (i + 1)).1 := by
  have H := mgF_inv (okSl_iff.1 h).2 (k := ps.length) (Nat.le_refl _)
  rw [List.take_of_length_le (Nat.le_refl _)] at H
  have hl := (okSl_iff.1 h).1
  refine ⟨okSl_iff.2 ⟨by have := H.len; omega, fun p hp => ?_⟩, H.len, H.apart⟩
  obtain ⟨i, hi, e⟩ := List.getElem_of_mem hp
  have := H.ok i hi
  rw [← pat_get hi, e] at this
  exact this
/-- What MergeSegments returns. -/
def mgL (ps : List (Int × Int)) : List (Int × Int) × Int := if okSl ps = true then (mgF ps, 0) else ([], 1)
theorem mgL_1 {ps : List (Int × Int)} (h : okSl ps = false) : mgL ps = ([], 1) := by simp [mgL, h]
theorem mgL_0 {ps : List (Int × Int)} (h : okSl ps = true) : mgL ps = (mgF ps, 0) := by simp [mgL, h]
theorem mgL_len (ps : List (Int × Int)) : (mgL ps).1.length ≤ 60 := by
  cases h : okSl ps
  · rw [mgL_1 h]; simp
  · rw [mgL_0 h]
    have h1 := (mgF_ok h).2.1
    have h2 := (okSl_iff.1 h).1
    simp only
    omega
end Go.Proofs.Ytpmelgdhcjnagaa

/-
  The convergents as ratios of the first terms.
-/
import Derived.Test.YtldjplopglpgfaaConv
import Derived.Test.YtldjplopglpgfaaCfS
namespace Go.Proofs.Ytldjplopglpgfaa

theorem cfTo_st : ∀ (k : Nat) (ts : List Int), ts.length = k → ∀ x y : Int, cfTo (x, y) ts = ((stOf ts).2.1 * x + (stOf ts).1.1 * y, (stOf ts).2.2 * x + (stOf ts).1.2 * y) := by
  intro k
  induction k with
  | zero =>
    intro ts h x y
    obtain rfl : ts = [] := List.eq_nil_of_length_eq_zero h
    simp [cfTo, stOf]
  | succ k ih =>
    intro ts h x y
    have hne : ts ≠ [] := fun e => by rw [e] at h; simp at h
    obtain ⟨p, t, rfl⟩ : ∃ p t, ts = p ++ [t] := ⟨ts.dropLast, ts.getLast hne, (List.dropLast_concat_getLast hne).symm⟩
    rw [cfTo_snoc, stOf_snoc]
    simp only [cfStep, stNext]
    rw [ih p (by simp at h; exact h)]
    refine Prod.ext ?_ ?_
    · simp only []; grind
    · simp only []; grind
theorem cfTo_one (ts : List Int) : cfTo (1, 0) ts = (stOf ts).2 := by
  rw [cfTo_st _ ts rfl]
  refine Prod.ext ?_ ?_ <;> simp
theorem cf_pre {n d : Int} (hok : okR n d = true) {pre rest : List Int} (h : terms n d = pre ++ rest) (hne : pre ≠ []) : cfR pre = some (stOf pre).2 := by
  obtain ⟨o1, o2, o3, o4⟩ := okR_bd hok
  cases pre with
  | nil => exact absurd rfl hne
  | cons t ts =>
    obtain ⟨t1, t2⟩ := term_bd hok (pre := []) (rest := ts ++ rest) (t := t) (by rw [h]; simp)
    obtain ⟨_, _, _, _, q5, q6, q7, q8⟩ := st_bd hok h
    have hp : ∀ u ∈ ts, 1 ≤ u := by
      intro u hu
      refine terms_ge n d (by omega) (by omega) u ?_
      rw [h]; simp [hu]
    have e := cfTo_one (t :: ts)
    rw [← e]
    rw [← e] at q5 q6 q8
    exact cf_fits t ts hp (inT_of t1 t2) (inT_of q5 q6) q8
theorem cf_pair2 {ts : List Int} {r : Int × Int} (h : cfR ts = some r) : cfA ts = r.1 ∧ cfB ts = r.2 ∧ cfK ts = true := by simp [cfA, cfB, cfK, h]
/-- The convergents. -/
def cvg (n d : Int) : List (Int × Int) := if okR n d then (convL (terms n d)).map Prod.snd else []
theorem cvg_yes {n d : Int} (h : okR n d = true) : cvg n d = (convL (terms n d)).map Prod.snd := by simp [cvg, h]
theorem cvg_no {n d : Int} (h : okR n d = false) : cvg n d = [] := by simp [cvg, h]
theorem cvg_take {ts : List Int} {k : Nat} (h : k < ts.length) : ((convL ts).map Prod.snd).take (k + 1) = ((convL ts).map Prod.snd).take k ++ [(stOf (ts.take (k + 1))).2] := by
  have hl : k < ((convL ts).map Prod.snd).length := by rw [List.length_map, convL_len]; exact h
  rw [List.take_succ_eq_append_getElem hl]
  congr 2
  simp [convL]
end Go.Proofs.Ytldjplopglpgfaa

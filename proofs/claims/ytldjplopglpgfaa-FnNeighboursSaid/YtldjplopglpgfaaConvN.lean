/-
  Neighbours out of the convergents: the plain arithmetic.
-/
import Derived.Test.YtldjplopglpgfaaConv2
import Derived.Test.YtldjplopglpgfaaNearM
namespace Go.Proofs.Ytldjplopglpgfaa

theorem conv_in {ts : List Int} {pre : List PP} {x : PP} (h : pre ++ [x] <+: convL ts) : ∃ tp t rest, ts = tp ++ [t] ++ rest ∧ pre = convL tp ∧ x = stOf (tp ++ [t]) := by
  have hl : pre.length + 1 ≤ ts.length := by have := h.length_le; simpa [convL_len] using this
  have e1 : convL (ts.take (pre.length + 1)) <+: convL ts := convL_prefix (List.take_prefix _ _)
  have e2 : (convL (ts.take (pre.length + 1))).length = (pre ++ [x]).length := by
    rw [convL_len, List.length_take, List.length_append, List.length_singleton]; omega
  have e3 : convL (ts.take (pre.length + 1)) = pre ++ [x] := by
    rw [List.prefix_iff_eq_take.1 e1, e2, ← List.prefix_iff_eq_take.1 h]
  have hne : ts.take (pre.length + 1) ≠ [] := by
    intro e
    have := congrArg List.length e
    rw [List.length_take, List.length_nil] at this
    omega
  obtain ⟨tp, t, htp⟩ : ∃ p t, ts.take (pre.length + 1) = p ++ [t] := ⟨_, _, (List.dropLast_concat_getLast hne).symm⟩
  rw [htp, convL_snoc] at e3
  obtain ⟨r1, r2⟩ := List.append_inj' e3 rfl
  refine ⟨tp, t, ts.drop (pre.length + 1), ?_, r1.symm, ?_⟩
  · rw [← htp, List.take_append_drop]
  · simp at r2; exact r2.symm
theorem stOf_mem {tp : List Int} (h : tp ≠ []) : stOf tp ∈ convL tp := by
  obtain ⟨p, t, rfl⟩ : ∃ p t, tp = p ++ [t] := ⟨_, _, (List.dropLast_concat_getLast h).symm⟩
  rw [convL_snoc]; simp
theorem conv_last {n d : Int} (hok : okR n d = true) : (stOf (terms n d)).2 = (n, d) ∧ terms n d ≠ [] := by
  obtain ⟨o1, o2, o3, o4, o5⟩ := okR_true.1 hok
  refine ⟨?_, by rw [terms_pos o1]; simp⟩
  rw [← cfTo_one, terms_cf n d (by omega) (by omega) o5]
theorem conv_den {n d most : Int} (hok : okR n d = true) (h : ∀ c ∈ convL (terms n d), c.2.2 ≤ most) : d ≤ most := by
  obtain ⟨e, hne⟩ := conv_last hok
  have := h _ (stOf_mem hne)
  rw [e] at this
  exact this
/-- How often the convergent before is taken away. -/
def takes (most b2 l2 : Int) : Int := (l2 - most + b2 - 1) / b2
theorem conv_nb {n d most : Int} (hok : okR n d = true) {pre : List PP} {b1 b2 l1 l2 : Int} (hp : pre ++ [((b1, b2), (l1, l2))] <+: convL (terms n d)) (hm : 1 ≤ most) (hsm : ∀ c ∈ pre, c.2.2 ≤ most) (hbig : most < l2) :
    1 ≤ b2 ∧ b2 ≤ most ∧ 1 ≤ takes most b2 l2 ∧ takes most b2 l2 * b2 < l2 - most + b2 ∧ 0 ≤ takes most b2 l2 * b2 ∧
      (Nb n d most b1 b2 (l1 - takes most b2 l2 * b1) (l2 - takes most b2 l2 * b2) ∨ Nb n d most (l1 - takes most b2 l2 * b1) (l2 - takes most b2 l2 * b2) b1 b2) := by
  obtain ⟨tp, t, rest, hts, hpre, hx⟩ := conv_in hp
  obtain ⟨x, y, hs⟩ := st_inv hok _ (tp ++ [t]) rest rfl hts
  obtain ⟨x1, y0, _⟩ := hs.big (by simp)
  have hcv := hs.cv
  rw [← hx] at hcv
  have htp : tp ≠ [] := by
    rintro rfl
    simp [stOf, stNext] at hx
    omega
  have hst : (stOf tp).2 = (b1, b2) := by rw [stOf_snoc] at hx; exact (congrArg Prod.fst hx).symm
  obtain ⟨_, _, hs2⟩ := st_inv hok _ tp ([t] ++ rest) rfl (by rw [hts]; simp)
  have hb := (hs2.big htp).2.2
  rw [hst] at hb
  have hbm := hsm _ (by rw [hpre]; exact stOf_mem htp)
  rw [hst] at hbm
  simp only [] at hcv hb hbm
  obtain ⟨k1, k2, k3⟩ := up_div (a := l2 - most) (b := b2) hb (by omega)
  refine ⟨hb, hbm, k1, k3, Int.mul_nonneg (by unfold takes; omega) (by omega), ?_⟩
  rcases hcv.det with hd | hd
  · exact .inl (cv_low hcv x1 y0 hb hbm k1 (by unfold takes; omega) (by unfold takes; omega) hd)
  · exact .inr (cv_high hcv x1 y0 hb hbm k1 (by unfold takes; omega) (by unfold takes; omega) hd)
end Go.Proofs.Ytldjplopglpgfaa

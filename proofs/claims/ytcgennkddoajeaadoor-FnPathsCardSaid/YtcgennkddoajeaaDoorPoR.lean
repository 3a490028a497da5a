/-
  A path leads to its ratio, and the path with the letters exchanged to the inverse: the plain arithmetic (for FnPaths).
-/
import Derived.Test.YtcgennkddoajeaaDoorRopM
import Derived.Test.YtcgennkddoajeaaDoorPoM
namespace Go.Proofs.YtcgennkddoajeaaDoor

theorem rp_path {n d x y : Int} {l : List Bool} (h : SB x y l) (hok : okR n d = true) : ∀ a b c e, PathAt n d a b c e x y → ∃ s, rp (l.map ltr) ⟨a, b, c, e⟩ = some s ∧ s.a + s.c = n ∧ s.b + s.d = d := by
  induction h with
  | one =>
    intro a b c e hp
    obtain ⟨h1, h2⟩ := hp.here
    exact ⟨_, rfl, h1.symm, h2.symm⟩
  | @R x y l hx hy h ih =>
    intro a b c e hp
    have hr := hp.right
    obtain ⟨p1, p2, p3, p4⟩ := okR_bd (hr.ok hx hy hok)
    have e1 : rpStep ⟨a, b, c, e⟩ 82 = ⟨a + c, b + e, c, e⟩ := by unfold rpStep; rw [if_neg (by decide)]
    have hb : rpBig (rpStep ⟨a, b, c, e⟩ 82) = false := by
      rw [e1]; unfold rpBig
      rw [Bool.or_eq_false_iff, decide_eq_false_iff_not, decide_eq_false_iff_not]
      exact ⟨by dsimp only; omega, by dsimp only; omega⟩
    obtain ⟨s, h1, h2⟩ := ih _ _ _ _ hr
    refine ⟨s, ?_, h2⟩
    rw [List.map_cons, show ltr true = 82 from rfl, rp_go hb, e1]
    exact h1
  | @L x y l hx hy h ih =>
    intro a b c e hp
    have hr := hp.left
    obtain ⟨p1, p2, p3, p4⟩ := okR_bd (hr.ok hx hy hok)
    have e1 : rpStep ⟨a, b, c, e⟩ 76 = ⟨a, b, a + c, b + e⟩ := by unfold rpStep; rw [if_pos rfl, Int.add_comm c a, Int.add_comm e b]
    have hb : rpBig (rpStep ⟨a, b, c, e⟩ 76) = false := by
      rw [e1]; unfold rpBig
      rw [Bool.or_eq_false_iff, decide_eq_false_iff_not, decide_eq_false_iff_not]
      exact ⟨by dsimp only; omega, by dsimp only; omega⟩
    obtain ⟨s, h1, h2⟩ := ih _ _ _ _ hr
    refine ⟨s, ?_, h2⟩
    rw [List.map_cons, show ltr false = 76 from rfl, rp_go hb, e1]
    exact h1
/-- The path back. -/
theorem path_back {n d : Int} (hok : okR n d = true) (hn : 0 < n) : ∃ s, rp ((runs true (terms n d)).map ltr) rp0 = some s ∧ s.a + s.c = n ∧ s.b + s.d = d := by
  obtain ⟨o1, _⟩ := okR_bd hok
  exact rp_path (sb_terms _ n d (Nat.le_refl _) o1 hn (okR_true.1 hok).2.2.2.2) hok _ _ _ _ (PathAt.start n d)
/-- The path with the letters exchanged. -/
theorem path_swap {n d : Int} (hok : okR n d = true) (hn : 0 < n) (hinv : okR d n = true) : ∃ s, rp (((runs true (terms n d)).map (!·)).map ltr) rp0 = some s ∧ s.a + s.c = d ∧ s.b + s.d = n := by
  obtain ⟨o1, _⟩ := okR_bd hok
  exact rp_path (sb_terms _ n d (Nat.le_refl _) o1 hn (okR_true.1 hok).2.2.2.2).swap hinv _ _ _ _ (PathAt.start d n)
theorem okR_inv {n d : Int} (hok : okR n d = true) (hn : 0 < n) : okR d n = true := by
  obtain ⟨o1, o2, o3, o4, o5⟩ := okR_true.1 hok
  exact okR_true.2 ⟨by omega, o4, by omega, o2, by rw [Int.gcd_comm]; exact o5⟩
end Go.Proofs.YtcgennkddoajeaaDoor

/-
  Steady energies: no greater energy is restored by a tick.
-/
import Derived.Test.YtkagciekoeaijaaEsU
namespace Go.Proofs.Ytkagciekoeaijaa
open Go.RowKit

theorem stl_ge {f : Int → Int} {g : Int → Bool} (hm : ∀ a b, a ≤ b → g a = true → g b = true ∧ f a ≤ f b) {y : Int} (hg : g y = true) (hy : y ≤ f y) : ∀ (n : Nat) (e : Int), e.toNat ≤ n → y ≤ e → y ≤ (stlF f g e).1
  | 0, e, h, hye => by
    cases h1 : g e
    · rw [stlF_no h1]; exact hye
    · rw [stlF]; simp [h1, show ¬ (0 ≤ f e ∧ f e < e) by omega, hye]
  | n + 1, e, h, hye => by
    obtain ⟨h1, h3⟩ := hm y e hye hg
    by_cases h2 : 0 ≤ f e ∧ f e < e
    · rw [stlF_go h1 h2]
      exact stl_ge hm hg hy n (f e) (by omega) (by omega)
    · rw [stlF]; simp [h1, h2, hye]
theorem stl_end {f : Int → Int} {g : Int → Bool} {m : Int} (HF : MonF f g m) : ∀ (n : Nat) (e : Int), e.toNat ≤ n → 0 ≤ e → e ≤ m → (g e = true → f e ≤ e) → (stlF f g e).2.2 = true → (0 ≤ (stlF f g e).1 ∧ (stlF f g e).1 ≤ m) ∧ g (stlF f g e).1 = true ∧ f (stlF f g e).1 = (stlF f g e).1
  | 0, e, h, h0, hem, hfe, ht => by
    cases h1 : g e
    · rw [stlF_no h1] at ht; cases ht
    · have := hfe h1
      have hb := HF.bd e h0 hem
      have e1 := stlF_end (f := f) (t := g) h1 (by omega)
      rw [e1]
      exact ⟨⟨h0, hem⟩, h1, by simp only; omega⟩
  | n + 1, e, h, h0, hem, hfe, ht => by
    cases h1 : g e
    · rw [stlF_no h1] at ht; cases ht
    · have hle := hfe h1
      have hb := HF.bd e h0 hem
      by_cases h2 : f e < e
      · have e1 := stlF_go (f := f) (t := g) h1 ⟨hb.1, h2⟩
        rw [e1] at ht ⊢
        exact stl_end HF n (f e) (by omega) hb.1 hb.2 (fun hg => (HF.mono _ _ hle hg).2) ht
      · have e1 := stlF_end (f := f) (t := g) h1 h2
        rw [e1]
        exact ⟨⟨h0, hem⟩, h1, by simp only; omega⟩
/-- The steady energy of an escapement. -/
theorem steady_of {f : Int → Int} {g : Int → Bool} {m : Int} (HF : MonF f g m) (hm : 0 ≤ m) (h : (stlF f g m).2.2 = true) :
    (0 ≤ (stlF f g m).1 ∧ (stlF f g m).1 ≤ m) ∧ g (stlF f g m).1 = true ∧ f (stlF f g m).1 = (stlF f g m).1 ∧ ∀ y, (stlF f g m).1 < y → y ≤ m → g y = true → f y < y := by
  obtain ⟨h1, h2, h3⟩ := stl_end HF m.toNat m (Nat.le_refl _) hm (Int.le_refl _) (fun _ => (HF.bd m hm (Int.le_refl _)).2) h
  refine ⟨h1, h2, h3, fun y hy hym hg => ?_⟩
  apply Classical.byContradiction
  intro hn
  have := stl_ge HF.mono hg (by omega) m.toNat m (Nat.le_refl _) hym
  omega
end Go.Proofs.Ytkagciekoeaijaa

/-
  The day behind a number: existence is walked, uniqueness is here.
-/
import Derived.Test.YtbkhejideffflaaDyS
namespace Go.Proofs.Ytbkhejideffflaa
open Go.RowKit

theorem cyK_mono {ms : List Mo} (h : okMo ms = true) (rs : List Ru) {i : Nat} : ∀ {k : Nat}, i ≤ k → cyK ms rs i ≤ cyK ms rs k
  | 0, hi => by obtain rfl : i = 0 := by omega
                exact Int.le_refl _
  | k + 1, hi => by
    by_cases hk : i = k + 1
    · subst hk; exact Int.le_refl _
    · have h1 := cyK_mono h rs (i := i) (k := k) (by omega)
      have h2 := cyK_succ ms rs k
      have h3 := (dyY_bd h rs (k : Int)).1
      omega
/-- n is the number of day r + 1 of month k + 1 of year y. -/
def DtR (c : Cal) (n : Int) (y k : Nat) (r : Int) : Prop := y ≤ 9999 ∧ k < c.ms.length ∧ 0 ≤ r ∧ r < dyM (moAt c.ms k) (lpY c.rs (y : Int)) ∧ n = cyK c.ms c.rs y + smD c.ms (lpY c.rs (y : Int)) k + r
theorem DtR.year {c : Cal} {n : Int} {y k : Nat} {r : Int} (ho : okMo c.ms = true) (h : DtR c n y k r) : cyK c.ms c.rs y ≤ n ∧ n < cyK c.ms c.rs (y + 1) := by
  obtain ⟨_, h2, h3, h4, h5⟩ := h
  have b1 := smD_bd ho (lpY c.rs (y : Int)) (k := k) (by omega)
  have b2 := smD_mono ho (lpY c.rs (y : Int)) (i := k + 1) (k := c.ms.length) (by omega) (by omega)
  have b3 := smD_succ c.ms (lpY c.rs (y : Int)) k
  have b4 := cyK_succ c.ms c.rs y
  have b5 : dyY c.ms c.rs (y : Int) = smD c.ms (lpY c.rs (y : Int)) c.ms.length := rfl
  omega
theorem DtR.uniq {c : Cal} {n : Int} {y k y' k' : Nat} {r r' : Int} (ho : okMo c.ms = true) (h : DtR c n y k r) (h' : DtR c n y' k' r') : y = y' ∧ k = k' ∧ r = r' := by
  obtain ⟨a1, a2⟩ := h.year ho
  obtain ⟨b1, b2⟩ := h'.year ho
  have e1 : y = y' := by
    rcases Nat.lt_trichotomy y y' with q | q | q
    · have := cyK_mono ho c.rs (i := y + 1) (k := y') (by omega); omega
    · exact q
    · have := cyK_mono ho c.rs (i := y' + 1) (k := y) (by omega); omega
  subst e1
  obtain ⟨_, h2, h3, h4, h5⟩ := h
  obtain ⟨_, g2, g3, g4, g5⟩ := h'
  have s1 := smD_succ c.ms (lpY c.rs (y : Int)) k
  have s2 := smD_succ c.ms (lpY c.rs (y : Int)) k'
  have e2 : k = k' := by
    rcases Nat.lt_trichotomy k k' with q | q | q
    · have := smD_mono ho (lpY c.rs (y : Int)) (i := k + 1) (k := k') (by omega) (by omega); omega
    · exact q
    · have := smD_mono ho (lpY c.rs (y : Int)) (i := k' + 1) (k := k) (by omega) (by omega); omega
  subst e2
  exact ⟨rfl, rfl, by omega⟩
open Classical in
noncomputable def dtF (c : Cal) (n : Int) : Nat × Nat × Int := if h : ∃ p : Nat × Nat × Int, DtR c n p.1 p.2.1 p.2.2 then Classical.choose h else (0, 0, 0)
theorem dtF_eq {c : Cal} {n : Int} {y k : Nat} {r : Int} (ho : okMo c.ms = true) (h : DtR c n y k r) : dtF c n = (y, k, r) := by
  have hx : ∃ p : Nat × Nat × Int, DtR c n p.1 p.2.1 p.2.2 := ⟨(y, k, r), h⟩
  unfold dtF
  rw [dif_pos hx]
  have hc := Classical.choose_spec hx
  obtain ⟨e1, e2, e3⟩ := DtR.uniq ho hc h
  exact Prod.ext e1 (Prod.ext e2 e3)
/-- The numbers of the day behind n. -/
noncomputable def dtV (c : Cal) (n : Int) : Value := .agg #[.int .i64 ((dtF c n).1 : Int), .int .i64 ((dtF c n).2.1 + 1), .int .i64 ((dtF c n).2.2 + 1)]
theorem dtV_eq {c : Cal} {n : Int} {y k : Nat} {r : Int} (ho : okMo c.ms = true) (h : DtR c n y k r) : dtV c n = .agg #[.int .i64 (y : Int), .int .i64 ((k : Int) + 1), .int .i64 (r + 1)] := by
  unfold dtV
  rw [dtF_eq ho h]
end Go.Proofs.Ytbkhejideffflaa

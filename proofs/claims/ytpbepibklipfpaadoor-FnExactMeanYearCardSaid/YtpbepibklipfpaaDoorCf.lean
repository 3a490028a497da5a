/-
  Continued fractions: the plain arithmetic of terms and of the ratio of terms.
-/
import Derived.Test.YtpbepibklipfpaaDoorNum
namespace Go.Proofs.YtpbepibklipfpaaDoor
set_option linter.unusedVariables false

/-- One step of a continued fraction: t + 1 / (x / y). -/
def cfStep (t : Int) (r : Int × Int) : Int × Int := (t * r.1 + r.2, r.1)
def cfTo (r : Int × Int) (ts : List Int) : Int × Int := ts.foldr cfStep r
theorem cfTo_nil (r : Int × Int) : cfTo r [] = r := rfl
theorem cfTo_cons (r : Int × Int) (t : Int) (ts : List Int) : cfTo r (t :: ts) = cfStep t (cfTo r ts) := rfl
theorem cfTo_snoc (r : Int × Int) (t : Int) (ts : List Int) : cfTo r (ts ++ [t]) = cfTo (cfStep t r) ts := by simp [cfTo]
/-- The terms of n / d. -/
def terms (n d : Int) : List Int := if _h : 1 ≤ d then n / d :: terms d (n % d) else []
termination_by d.toNat
decreasing_by
  have := Int.emod_lt_of_pos n (show 0 < d by omega)
  omega
theorem terms_pos {n d : Int} (h : 1 ≤ d) : terms n d = n / d :: terms d (n % d) := by rw [terms, dif_pos h]
theorem terms_zero {n d : Int} (h : d ≤ 0) : terms n d = [] := by rw [terms, dif_neg (by omega)]
theorem terms_ind {P : Int → Int → Prop} (h0 : ∀ n, 0 ≤ n → P n 0) (h1 : ∀ n d, 1 ≤ d → P d (n % d) → P n d) : ∀ n d, 0 ≤ d → (d = 0 → 0 ≤ n) → P n d := by
  have key : ∀ k : Nat, ∀ n d : Int, d.toNat ≤ k → 0 ≤ d → (d = 0 → 0 ≤ n) → P n d := by
    intro k
    induction k with
    | zero => intro n d hk hd hn; obtain rfl : d = 0 := by omega
              exact h0 n (hn rfl)
    | succ k ih =>
      intro n d hk hd hn
      by_cases hz : d = 0
      · subst hz; exact h0 n (hn rfl)
      · have m1 := Int.emod_nonneg n hz
        have m2 := Int.emod_lt_of_pos n (show 0 < d by omega)
        exact h1 n d (by omega) (ih d (n % d) (by omega) m1 (fun _ => by omega))
  exact fun n d => key d.toNat n d (Nat.le_refl _)
theorem gcd_mod (n d : Int) : Int.gcd d (n % d) = Int.gcd n d := by
  have e : n % d = n + d * (-(n / d)) := by have := Int.emod_add_mul_ediv n d; grind
  rw [e, Int.gcd_add_mul_left_right, Int.gcd_comm]
theorem terms_cf (n d : Int) (hd : 0 ≤ d) (hn : d = 0 → 0 ≤ n) : Int.gcd n d = 1 → cfTo (1, 0) (terms n d) = (n, d) := by
  refine terms_ind (P := fun n d => Int.gcd n d = 1 → cfTo (1, 0) (terms n d) = (n, d)) ?_ ?_ n d hd hn
  · intro n hn hg
    rw [terms_zero (by omega), cfTo_nil]
    simp at hg
    have : n = 1 := by omega
    rw [this]
  · intro n d hd ih hg
    rw [terms_pos hd, cfTo_cons, ih (by rw [gcd_mod]; exact hg)]
    simp only [cfStep]
    have := Int.emod_add_mul_ediv n d
    rw [Int.mul_comm (n / d)]
    congr 1
    omega
/-- All terms behind the first one are positive. -/
theorem terms_ge (n d : Int) (hd : 0 ≤ d) (hn : d = 0 → 0 ≤ n) : ∀ t ∈ (terms n d).tail, 1 ≤ t := by
  have key := terms_ind (P := fun n d => (0 ≤ d → d < n → ∀ t ∈ terms n d, 1 ≤ t) ∧ ∀ t ∈ (terms n d).tail, 1 ≤ t) (by
    intro n _; rw [terms_zero (by omega)]; simp) (by
    intro n d hd ih
    have m1 := Int.emod_nonneg n (show d ≠ 0 by omega)
    have m2 := Int.emod_lt_of_pos n (show 0 < d by omega)
    rw [terms_pos hd]
    refine ⟨fun _ hlt t ht => ?_, fun t ht => ih.1 m1 m2 t ht⟩
    rcases List.mem_cons.1 ht with h | h
    · rw [h]; exact Int.le_ediv_of_mul_le (by omega) (by omega)
    · exact ih.1 m1 m2 t h) n d hd hn
  exact key.2
/-- The length of the terms. -/
theorem terms_len (n d : Int) (hd : 0 ≤ d) (hn : d = 0 → 0 ≤ n) : (terms n d).length ≤ d.toNat := by
  refine terms_ind (P := fun n d => (terms n d).length ≤ d.toNat) ?_ ?_ n d hd hn
  · intro n _; rw [terms_zero (by omega)]; simp
  · intro n d hd ih
    have m1 := Int.emod_nonneg n (show d ≠ 0 by omega)
    have m2 := Int.emod_lt_of_pos n (show 0 < d by omega)
    rw [terms_pos hd]; simp only [List.length_cons]; omega
/-- The ratio of terms, if all ratios of its ends are in range. -/
def inT (t : Int) : Bool := decide (-1000000000 ≤ t ∧ t ≤ 1000000000)
def cfR : List Int → Option (Int × Int)
  | [] => some (1, 0)
  | t :: ts => match cfR ts with
    | none => none
    | some r => if inT t && inT (t * r.1 + r.2) && inT r.1 then some (t * r.1 + r.2, r.1) else none
theorem cf_pos : ∀ (ts : List Int), (∀ u ∈ ts, 1 ≤ u) → 1 ≤ (cfTo (1, 0) ts).1 ∧ 0 ≤ (cfTo (1, 0) ts).2 ∧ (cfTo (1, 0) ts).2 ≤ (cfTo (1, 0) ts).1 ∧ ∀ u ∈ ts, u ≤ (cfTo (1, 0) ts).1
  | [], _ => by simp [cfTo]
  | t :: ts, h => by
    obtain ⟨a, b, c, e⟩ := cf_pos ts (fun u hu => h u (by simp [hu]))
    have ht := h t (by simp)
    rw [cfTo_cons]
    generalize cfTo (1, 0) ts = r at *
    obtain ⟨x, y⟩ := r
    simp only [cfStep] at *
    have m1 : t * 1 ≤ t * x := Int.mul_le_mul_of_nonneg_left a (by omega)
    have m2 : 1 * x ≤ t * x := Int.mul_le_mul_of_nonneg_right ht (by omega)
    refine ⟨by omega, by omega, by omega, fun u hu => ?_⟩
    rcases List.mem_cons.1 hu with hu | hu
    · omega
    · have := e u hu; omega
theorem inT_of {t : Int} (h1 : -1000000000 ≤ t) (h2 : t ≤ 1000000000) : inT t = true := by simp [inT]; omega
theorem cf_fits : ∀ (t : Int) (ts : List Int), (∀ u ∈ ts, 1 ≤ u) → inT t = true → inT (cfTo (1, 0) (t :: ts)).1 = true → (cfTo (1, 0) (t :: ts)).2 ≤ 1000000000 → cfR (t :: ts) = some (cfTo (1, 0) (t :: ts))
  | t, [], _, h1, h2, _ => by
    have h3 : inT 1 = true := by decide
    simp [cfR, cfTo, cfStep, h1, h3]
  | t, u :: us, h, h1, h2, h3 => by
    rw [cfTo_cons] at h2 h3 ⊢
    simp only [cfStep] at h2 h3
    obtain ⟨a, b, c, e⟩ := cf_pos (u :: us) h
    have hu := h u (by simp)
    have ih := cf_fits u us (fun v hv => h v (by simp [hv])) (inT_of (by omega) (by have := e u (by simp); omega)) (inT_of (by omega) (by omega)) (by omega)
    rw [cfR, ih]
    simp only [h1, h2, inT_of (show -1000000000 ≤ (cfTo (1, 0) (u :: us)).1 by omega) h3, Bool.and_self, if_true]
    rfl
end Go.Proofs.YtpbepibklipfpaaDoor

/-
  The convergents of a ratio: the plain arithmetic.
-/
import Derived.Test.YtldjplopglpgfaaNb
import Derived.Test.YtldjplopglpgfaaBox
import Derived.Test.YtldjplopglpgfaaWhole
namespace Go.Proofs.Ytldjplopglpgfaa

/-- Two ratios: a convergent and the one before it, 1 / 0 before the first one. -/
abbrev PP := (Int × Int) × (Int × Int)
def stNext (s : PP) (t : Int) : PP := (s.2, (t * s.2.1 + s.1.1, t * s.2.2 + s.1.2))
def stOf (ts : List Int) : PP := ts.foldl stNext ((0, 1), (1, 0))
theorem stOf_snoc (ts : List Int) (t : Int) : stOf (ts ++ [t]) = stNext (stOf ts) t := by simp [stOf]
/-- All of them, in order. -/
def convL (ts : List Int) : List PP := (List.range ts.length).map fun i => stOf (ts.take (i + 1))
theorem convL_nil : convL [] = [] := rfl
theorem convL_snoc (ts : List Int) (t : Int) : convL (ts ++ [t]) = convL ts ++ [stOf (ts ++ [t])] := by
  unfold convL
  rw [List.length_append, List.length_singleton, List.range_succ, List.map_append]
  congr 1
  · apply List.map_congr_left
    intro i hi
    rw [List.mem_range] at hi
    rw [List.take_append_of_le_length (by omega)]
  · simp
    rw [List.take_of_length_le (by simp)]
theorem convL_len (ts : List Int) : (convL ts).length = ts.length := by simp [convL]
theorem convL_prefix {a b : List Int} (h : a <+: b) : convL a <+: convL b := by
  obtain ⟨c, rfl⟩ := h
  refine ⟨(List.range c.length).map fun i => stOf ((a ++ c).take (a.length + i + 1)), ?_⟩
  unfold convL
  rw [List.length_append, List.range_add, List.map_append, List.map_map]
  congr 1
  apply List.map_congr_left
  intro i hi
  rw [List.mem_range] at hi
  rw [List.take_append_of_le_length (by omega)]
/-- How the numerators stand. -/
def NumOk (n b l : Int) : Prop := (0 ≤ n ∧ 0 ≤ b ∧ 0 ≤ l) ∨ (n < 0 ∧ l ≤ 0 ∧ b ≤ 0) ∨ (n < 0 ∧ l ≤ -1 ∧ b = 1 ∧ -1000000000 ≤ l) ∨ (n < 0 ∧ l = 1 ∧ b = 0)
structure StInv (n d : Int) (pre rest : List Int) (x y : Int) : Prop where
  rest_eq : rest = terms x y
  st : okR x y = true ∨ (y = 0 ∧ x = 1)
  cv : Cv n d x y (stOf pre).1.1 (stOf pre).1.2 (stOf pre).2.1 (stOf pre).2.2
  b0 : 0 ≤ (stOf pre).1.2
  l0 : 0 ≤ (stOf pre).2.2
  big : pre ≠ [] → 1 ≤ x ∧ 0 ≤ y ∧ 1 ≤ (stOf pre).2.2
  start : pre = [] → x = n ∧ y = d
  num : NumOk n (stOf pre).1.1 (stOf pre).2.1
  mid : pre ≠ [] → ¬ ((stOf pre).2.1 = 1 ∧ (stOf pre).1.1 = 0 ∧ n < 0)
theorem st_inv {n d : Int} (hok : okR n d = true) : ∀ (k : Nat) (pre rest : List Int), pre.length = k → terms n d = pre ++ rest → ∃ x y, StInv n d pre rest x y := by
  obtain ⟨o1, o2, o3, o4, o5⟩ := okR_true.1 hok
  intro k
  induction k with
  | zero =>
    intro pre rest hk h
    obtain rfl : pre = [] := List.eq_nil_of_length_eq_zero hk
    refine ⟨n, d, by simpa using h.symm, .inl hok, Cv.start n d, by simp [stOf], by simp [stOf], fun h => absurd rfl h, fun _ => ⟨rfl, rfl⟩, ?_, fun h => absurd rfl h⟩
    by_cases hn : 0 ≤ n
    · exact .inl ⟨hn, by simp [stOf], by simp [stOf]⟩
    · exact .inr (.inr (.inr ⟨by omega, rfl, rfl⟩))
  | succ k ih =>
    intro pre rest hk h
    have hne : pre ≠ [] := fun e => by rw [e] at hk; simp at hk
    obtain ⟨p, t, rfl⟩ : ∃ p t, pre = p ++ [t] := ⟨pre.dropLast, pre.getLast hne, (List.dropLast_concat_getLast hne).symm⟩
    obtain ⟨x, y, hs⟩ := ih p ([t] ++ rest) (by simp at hk; exact hk) (by rw [h]; simp)
    have hy : okR x y = true := by
      rcases hs.st with h1 | ⟨h1, _⟩
      · exact h1
      · have := hs.rest_eq; rw [h1, terms_zero (by omega)] at this; simp at this
    obtain ⟨a1, a2, a3, a4, a5⟩ := okR_true.1 hy
    have hr := hs.rest_eq
    rw [terms_pos a1] at hr
    simp only [List.singleton_append, List.cons.injEq] at hr
    obtain ⟨rfl, hr⟩ := hr
    have e : x - x / y * y = x % y := by have := Int.emod_add_mul_ediv x y; grind
    have m1 := Int.emod_nonneg x (show y ≠ 0 by omega)
    have m2 := Int.emod_lt_of_pos x (show 0 < y by omega)
    have hc := hs.cv.step
    rw [e] at hc
    obtain ⟨q1, q2⟩ := div_lim a1 a3 a4
    have hq : p ≠ [] → 1 ≤ x / y ∨ x / y = 0 ∧ False ∨ True := fun _ => .inr (.inr trivial)
    -- terms behind the first one are positive
    have hpos : p ≠ [] → 1 ≤ x / y := by
      intro hp
      have := terms_ge n d (by omega) (by omega) (x / y)
      apply this
      rw [h]
      cases p with
      | nil => exact absurd rfl hp
      | cons u us => simp
    refine ⟨y, x % y, hr, ?_, by rw [stOf_snoc]; exact hc, by rw [stOf_snoc]; exact hs.l0, ?_, fun _ => ⟨a1, m1, ?_⟩, fun h => by simp at h, ?_, ?_⟩
    · by_cases hz : x % y = 0
      · refine .inr ⟨hz, ?_⟩
        have hg : Int.gcd y (x % y) = 1 := by rw [gcd_mod]; exact a5
        rw [hz] at hg
        simp at hg
        omega
      · exact .inl (okR_true.2 ⟨by omega, by omega, by omega, by omega, by rw [gcd_mod]; exact a5⟩)
    · rw [stOf_snoc]
      show 0 ≤ x / y * (stOf p).2.2 + (stOf p).1.2
      by_cases hp : p = []
      · subst hp; simp [stOf]
      · have := Int.mul_nonneg (show 0 ≤ x / y by have := hpos hp; omega) hs.l0
        have := hs.b0
        omega
    · rw [stOf_snoc]
      show 1 ≤ x / y * (stOf p).2.2 + (stOf p).1.2
      by_cases hp : p = []
      · subst hp; simp [stOf]
      · have := Int.mul_le_mul (hpos hp) (hs.big hp).2.2 (by omega) (by have := hpos hp; omega)
        have := hs.b0
        omega
    · rw [stOf_snoc]
      show NumOk n (stOf p).2.1 (x / y * (stOf p).2.1 + (stOf p).1.1)
      by_cases hp : p = []
      · subst hp
        obtain ⟨rfl, rfl⟩ := hs.start rfl
        by_cases hn : 0 ≤ x
        · refine .inl ⟨hn, by simp [stOf], ?_⟩
          have := Int.ediv_nonneg hn (show 0 ≤ y by omega)
          simp [stOf]; omega
        · have := Int.ediv_neg_of_neg_of_pos (show x < 0 by omega) (show 0 < y by omega)
          exact .inr (.inr (.inl ⟨by omega, by simp [stOf]; omega, by simp [stOf], by simp [stOf]; omega⟩))
      · have hp1 := hpos hp
        rcases hs.num with ⟨h1, h2, h3⟩ | ⟨h1, h2, h3⟩ | ⟨h1, h2, h3, h4⟩ | ⟨h1, h2, h3⟩
        · exact .inl ⟨h1, h3, by have := Int.mul_nonneg (show 0 ≤ x / y by omega) h3; omega⟩
        · refine .inr (.inl ⟨h1, ?_, h2⟩)
          have := Int.mul_nonpos_of_nonneg_of_nonpos (show 0 ≤ x / y by omega) h2
          omega
        · refine .inr (.inl ⟨h1, ?_, by omega⟩)
          have : x / y * (stOf p).2.1 ≤ 1 * (stOf p).2.1 := Int.mul_le_mul_of_nonpos_right hp1 (by omega)
          omega
        · exact absurd ⟨h2, h3, h1⟩ (hs.mid hp)
    · intro _ hbad
      rw [stOf_snoc] at hbad
      obtain ⟨h1, h2, h3⟩ := hbad
      by_cases hp : p = []
      · subst hp; simp [stOf, stNext] at h2
      · rcases hs.num with ⟨g1, g2, g3⟩ | ⟨g1, g2, g3⟩ | ⟨g1, g2, g3, g4⟩ | ⟨g1, g2, g3⟩
        · omega
        · have h1' : x / y * (stOf p).2.1 + (stOf p).1.1 = 1 := h1
          have := Int.mul_nonpos_of_nonneg_of_nonpos (show 0 ≤ x / y by have := hpos hp; omega) g2
          omega
        · have h2' : (stOf p).2.1 = 0 := h2
          omega
        · have h2' : (stOf p).2.1 = 0 := h2
          omega
/-- The bounds of what the convergents are made of. -/
theorem st_bd {n d : Int} (hok : okR n d = true) {pre rest : List Int} (h : terms n d = pre ++ rest) : -1000000000 ≤ (stOf pre).1.1 ∧ (stOf pre).1.1 ≤ 1000000000 ∧ 0 ≤ (stOf pre).1.2 ∧ (stOf pre).1.2 ≤ 1000000000 ∧ -1000000000 ≤ (stOf pre).2.1 ∧ (stOf pre).2.1 ≤ 1000000000 ∧ 0 ≤ (stOf pre).2.2 ∧ (stOf pre).2.2 ≤ 1000000000 := by
  obtain ⟨o1, o2, o3, o4, o5⟩ := okR_true.1 hok
  have last : ∀ (pre rest : List Int), terms n d = pre ++ rest → -1000000000 ≤ (stOf pre).2.1 ∧ (stOf pre).2.1 ≤ 1000000000 ∧ 0 ≤ (stOf pre).2.2 ∧ (stOf pre).2.2 ≤ 1000000000 := by
    intro pre rest h
    obtain ⟨x, y, hs⟩ := st_inv hok _ pre rest rfl h
    by_cases hp : pre = []
    · subst hp; simp [stOf]
    · obtain ⟨x1, y1, l1⟩ := hs.big hp
      have hden := hs.cv.den
      have hnum := hs.cv.num
      have hb0 := hs.b0
      have hl0 := hs.l0
      have hnk := hs.num
      have hmid := hs.mid hp
      generalize (stOf pre).1.1 = b1 at *
      generalize (stOf pre).1.2 = b2 at *
      generalize (stOf pre).2.1 = c1 at *
      generalize (stOf pre).2.2 = c2 at *
      have g1 : 1 * c2 ≤ x * c2 := Int.mul_le_mul_of_nonneg_right x1 hl0
      have g2 : 0 ≤ y * b2 := Int.mul_nonneg y1 hb0
      refine ⟨?_, ?_, hl0, by omega⟩
      · rcases hnk with ⟨h1, h2, h3⟩ | ⟨h1, h2, h3⟩ | ⟨h1, h2, h3, h4⟩ | ⟨h1, h2, h3⟩
        · omega
        · have k1 : x * c1 ≤ 1 * c1 := Int.mul_le_mul_of_nonpos_right x1 h2
          have k2 : y * b1 ≤ 0 := Int.mul_nonpos_of_nonneg_of_nonpos y1 h3
          omega
        · omega
        · exact absurd ⟨h2, h3, h1⟩ hmid
      · rcases hnk with ⟨h1, h2, h3⟩ | ⟨h1, h2, h3⟩ | ⟨h1, h2, h3, h4⟩ | ⟨h1, h2, h3⟩
        · have k1 : 1 * c1 ≤ x * c1 := Int.mul_le_mul_of_nonneg_right x1 h3
          have k2 : 0 ≤ y * b1 := Int.mul_nonneg y1 h2
          omega
        · omega
        · omega
        · omega
  obtain ⟨a1, a2, a3, a4⟩ := last pre rest h
  by_cases hp : pre = []
  · subst hp; simp [stOf]
  · obtain ⟨p, t, rfl⟩ : ∃ p t, pre = p ++ [t] := ⟨pre.dropLast, pre.getLast hp, (List.dropLast_concat_getLast hp).symm⟩
    obtain ⟨b1, b2, b3, b4⟩ := last p ([t] ++ rest) (by rw [h]; simp)
    have e : (stOf (p ++ [t])).1 = (stOf p).2 := by rw [stOf_snoc]; rfl
    rw [e]
    exact ⟨b1, b2, b3, b4, a1, a2, a3, a4⟩
theorem term_bd {n d : Int} (hok : okR n d = true) {pre rest : List Int} {t : Int} (h : terms n d = pre ++ t :: rest) : -1000000000 ≤ t ∧ t ≤ 1000000000 := by
  obtain ⟨x, y, hs⟩ := st_inv hok _ pre (t :: rest) rfl h
  have hy : okR x y = true := by
    rcases hs.st with h1 | ⟨h1, _⟩
    · exact h1
    · have := hs.rest_eq; rw [h1, terms_zero (by omega)] at this; simp at this
  obtain ⟨a1, a2, a3, a4⟩ := okR_bd hy
  have hr := hs.rest_eq
  rw [terms_pos a1] at hr
  injection hr with hr _
  rw [hr]
  exact div_lim a1 a3 a4
end Go.Proofs.Ytldjplopglpgfaa

/-
  The way to the simplest ratio by continued fractions: the plain arithmetic.
-/
import Derived.Test.YthnfkkfonabhkaaSmp
import Derived.Test.YthnfkkfonabhkaaBox
import Derived.Test.YthnfkkfonabhkaaWhole
namespace Go.Proofs.Ythnfkkfonabhkaa

/-- No integer lies between: both lie between two neighbouring ones. -/
theorem no_whole {n d p q : Int} (hd : 1 ≤ d) (hq : 1 ≤ q) (ho : n * q ≤ p * d) (h : p / q < upI n d) : n / d * d < n ∧ n < (n / d + 1) * d ∧ p < (n / d + 1) * q ∧ n / d * q < p := by
  obtain ⟨u1, u2⟩ := up_bd (n := n) hd
  obtain ⟨f1, f2⟩ := div_bd (n := n) hd
  obtain ⟨p1, p2⟩ := div_bd (n := p) hq
  have e : upI n d ≤ n / d + 1 := by
    have : (upI n d - 1) * d < (n / d + 1) * d := by omega
    have := lt_of_mul hd this
    omega
  have hp : p < (n / d + 1) * q := by
    have : (p / q + 1) * q ≤ (n / d + 1) * q := Int.mul_le_mul_of_nonneg_right (by omega) (by omega)
    omega
  have hlt : n / d * d < n := by
    by_cases hz : n / d * d = n
    · exfalso
      have h1 : upI n d ≤ n / d := by
        have : (upI n d - 1) * d < (n / d) * d := by omega
        have := lt_of_mul hd this
        omega
      have h2 : (n / d * q) * d ≤ p * d := by
        have : (n / d * q) * d = (n / d * d) * q := by grind
        rw [this, hz]; exact ho
      have h3 := le_of_mul hd h2
      have h4 : n / d ≤ p / q := Int.le_ediv_of_mul_le (by omega) h3
      omega
    · omega
  refine ⟨hlt, f2, hp, ?_⟩
  have h2 : (n / d * q) * d < p * d := by
    have h3 : (n / d * d) * q < n * q := Int.mul_lt_mul_of_pos_right hlt (by omega)
    have : (n / d * q) * d = (n / d * d) * q := by grind
    omega
  exact lt_of_mul hd h2
theorem step_ok {n d p q : Int} (h1 : okR n d = true) (h2 : okR p q = true) (ho : n * q ≤ p * d) (h : p / q < upI n d) :
    okR q (p - n / d * q) = true ∧ okR d (n - n / d * d) = true ∧ q * (n - n / d * d) ≤ d * (p - n / d * q) ∧ p - n / d * q < q ∧ n - n / d * d < d := by
  obtain ⟨a1, a2, a3, a4, a5⟩ := okR_true.1 h1
  obtain ⟨b1, b2, b3, b4, b5⟩ := okR_true.1 h2
  obtain ⟨c1, c2, c3, c4⟩ := no_whole a1 b1 ho h
  generalize n / d = m at *
  have i1 : (m + 1) * d = m * d + d := by grind
  have i2 : (m + 1) * q = m * q + q := by grind
  have g1 : Int.gcd q (p - m * q) = 1 := by
    have e : p - m * q = p + q * (-m) := by grind
    rw [e, Int.gcd_add_mul_left_right, Int.gcd_comm]; exact b5
  have g2 : Int.gcd d (n - m * d) = 1 := by
    have e : n - m * d = n + d * (-m) := by grind
    rw [e, Int.gcd_add_mul_left_right, Int.gcd_comm]; exact a5
  have o1 : d * (p - m * q) - q * (n - m * d) = p * d - n * q := by grind
  exact ⟨okR_true.2 ⟨by omega, by omega, by omega, by omega, g1⟩, okR_true.2 ⟨by omega, by omega, by omega, by omega, g2⟩, by omega, by omega, by omega⟩

/-- Where the way from n / d and p / q stands: the terms so far, and the two ratios that are left. -/
def Sim (n d p q : Int) (ts : List Int) (n' d' p' q' : Int) : Prop :=
  (ts = [] ∧ n' = n ∧ d' = d ∧ p' = p ∧ q' = q) ∨
  (1 ≤ n' ∧ d' < n' ∧ (∃ t us, ts = t :: us ∧ inT t = true ∧ ∀ u ∈ us, 1 ≤ u) ∧ ∀ x y, SmpP n' d' p' q' x y → Smp n d p q (cfTo (x, y) ts).1 (cfTo (x, y) ts).2)
theorem Sim.start (n d p q : Int) : Sim n d p q [] n d p q := .inl ⟨rfl, rfl, rfl, rfl, rfl⟩
theorem first_step {n d p q x y : Int} (h1 : okR n d = true) (h2 : okR p q = true) (ho : n * q ≤ p * d) (h : p / q < upI n d) (hs : SmpP q (p - n / d * q) d (n - n / d * d) x y) : Smp n d p q (n / d * x + y) x := by
  obtain ⟨a1, a2, a3, a4, a5⟩ := okR_true.1 h1
  obtain ⟨b1, b2, b3, b4, b5⟩ := okR_true.1 h2
  obtain ⟨c1, c2, c3, c4⟩ := no_whole a1 b1 ho h
  by_cases hn : 1 ≤ n
  · exact (smpP_step a1 b1 (Int.ediv_nonneg (by omega) (by omega)) c1 c2 hs).smp a1 hn
  · by_cases hp : p ≤ -1
    · refine smp_step_neg a1 b1 hp c1 c3 hs ?_
      by_cases hm : n / d ≤ -1
      · exact hm
      · exfalso
        have : 0 ≤ n / d * q := Int.mul_nonneg (by omega) (by omega)
        omega
    · exfalso
      obtain ⟨u1, u2⟩ := up_bd (n := n) a1
      have h3 : 0 ≤ p / q := Int.ediv_nonneg (by omega) (by omega)
      have h4 : (upI n d - 1) * d < 0 * d := by omega
      have := lt_of_mul a1 h4
      omega
theorem Sim.step {n d p q n' d' p' q' : Int} {ts : List Int} (hS : Sim n d p q ts n' d' p' q') (h1 : okR n' d' = true) (h2 : okR p' q' = true) (ho : n' * q' ≤ p' * d') (h : p' / q' < upI n' d') :
    Sim n d p q (ts ++ [n' / d']) q' (p' - n' / d' * q') d' (n' - n' / d' * d') := by
  obtain ⟨a1, a2, a3, a4, a5⟩ := okR_true.1 h1
  obtain ⟨b1, b2, b3, b4, b5⟩ := okR_true.1 h2
  obtain ⟨c1, c2, c3, c4⟩ := no_whole a1 b1 ho h
  obtain ⟨s1, s2, s3, s4, s5⟩ := step_ok h1 h2 ho h
  obtain ⟨e1, e2⟩ := div_lim a1 a3 a4
  refine .inr ⟨b1, s4, ?_, ?_⟩
  · rcases hS with ⟨rfl, _⟩ | ⟨g1, g2, ⟨t, us, rfl, ht, hu⟩, _⟩
    · exact ⟨_, [], rfl, inT_of e1 e2, by simp⟩
    · refine ⟨t, us ++ [n' / d'], rfl, ht, ?_⟩
      intro u hu'
      rcases List.mem_append.1 hu' with hu' | hu'
      · exact hu u hu'
      · rw [List.mem_singleton.1 hu']; exact Int.le_ediv_of_mul_le (by omega) (by omega)
  · intro x y hs
    rw [cfTo_snoc]
    rcases hS with ⟨rfl, rfl, rfl, rfl, rfl⟩ | ⟨g1, g2, _, g4⟩
    · exact first_step h1 h2 ho h hs
    · exact g4 _ _ (smpP_step a1 b1 (Int.ediv_nonneg (by omega) (by omega)) c1 c2 hs)
/-- The integer that ends the way. -/
theorem first_last {n d p q : Int} (h1 : okR n d = true) (h2 : okR p q = true) (h : upI n d ≤ p / q) : Smp n d p q (max (upI n d) (min (p / q) 0)) 1 := by
  obtain ⟨a1, a2, a3, a4, a5⟩ := okR_true.1 h1
  obtain ⟨b1, b2, b3, b4, b5⟩ := okR_true.1 h2
  obtain ⟨u1, u2⟩ := up_bd (n := n) a1
  obtain ⟨p1, p2⟩ := div_bd (n := p) b1
  by_cases hn : 1 ≤ n
  · have hu : 1 ≤ upI n d := by
      have h4 : 0 * d < upI n d * d := by omega
      have := lt_of_mul a1 h4
      omega
    have e : max (upI n d) (min (p / q) 0) = upI n d := by omega
    rw [e]
    refine (smpP_int a1 hn u1 u2 ?_).smp a1 hn
    have : upI n d * q ≤ p / q * q := Int.mul_le_mul_of_nonneg_right h (by omega)
    omega
  · by_cases hp : 0 ≤ p
    · have h3 : 0 ≤ p / q := Int.ediv_nonneg hp (by omega)
      have h4 : (upI n d - 1) * d < 0 * d := by omega
      have := lt_of_mul a1 h4
      have e : max (upI n d) (min (p / q) 0) = 0 := by omega
      rw [e]
      exact smp_zero (by omega) hp
    · have h3 : p / q < 0 := Int.ediv_neg_of_neg_of_pos (by omega) (by omega)
      have e : max (upI n d) (min (p / q) 0) = p / q := by omega
      rw [e]
      refine smp_int_neg a1 b1 (by omega) p1 p2 ?_
      have : upI n d * d ≤ p / q * d := Int.mul_le_mul_of_nonneg_right h (by omega)
      omega
theorem later_last {n d p q : Int} (h1 : okR n d = true) (h2 : okR p q = true) (hn : 1 ≤ n) (h : upI n d ≤ p / q) : SmpP n d p q (max (upI n d) (min (p / q) 0)) 1 ∧ 1 ≤ max (upI n d) (min (p / q) 0) := by
  obtain ⟨a1, a2, a3, a4, a5⟩ := okR_true.1 h1
  obtain ⟨b1, b2, b3, b4, b5⟩ := okR_true.1 h2
  obtain ⟨u1, u2⟩ := up_bd (n := n) a1
  obtain ⟨p1, p2⟩ := div_bd (n := p) b1
  have hu : 1 ≤ upI n d := by
    have h4 : 0 * d < upI n d * d := by omega
    have := lt_of_mul a1 h4
    omega
  have e : max (upI n d) (min (p / q) 0) = upI n d := by omega
  rw [e]
  refine ⟨smpP_int a1 hn u1 u2 ?_, hu⟩
  have : upI n d * q ≤ p / q * q := Int.mul_le_mul_of_nonneg_right h (by omega)
  omega
theorem smp_bd {n d p q x y : Int} (hd : 1 ≤ d) (ho : n * q ≤ p * d) (h : Smp n d p q x y) : 1 ≤ y ∧ y ≤ d ∧ x.natAbs ≤ n.natAbs := by
  have hb : Btw n d p q n d := ⟨hd, Int.le_refl _, ho⟩
  exact ⟨h.btw.1, h.den _ _ hb, h.num _ _ hb⟩
theorem Sim.last {n d p q n' d' p' q' : Int} {ts : List Int} (hS : Sim n d p q ts n' d' p' q') (k1 : okR n d = true) (k2 : okR p q = true) (ko : n * q ≤ p * d) (h1 : okR n' d' = true) (h2 : okR p' q' = true) (h : upI n' d' ≤ p' / q') :
    cfR (ts ++ [max (upI n' d') (min (p' / q') 0)]) = some (smpX n d p q) ∧ ∀ u ∈ (ts ++ [max (upI n' d') (min (p' / q') 0)]).tail, 1 ≤ u := by
  obtain ⟨a1, a2, a3, a4, a5⟩ := okR_true.1 k1
  obtain ⟨b1, b2, b3, b4, b5⟩ := okR_true.1 k2
  rcases hS with ⟨rfl, rfl, rfl, rfl, rfl⟩ | ⟨g1, g2, ⟨t, us, rfl, ht, hu⟩, g4⟩
  · have hs := first_last h1 h2 h
    generalize max (upI n' d') (min (p' / q') 0) = c at *
    obtain ⟨c1, c2, c3⟩ := smp_bd a1 ko hs
    obtain ⟨x1, x2⟩ := hs.eqX a1 b1
    have e : smpX n' d' p' q' = (c, 1) := Prod.ext x1.symm x2.symm
    refine ⟨?_, by simp⟩
    rw [e]
    have := cf_fits c [] (by simp) (inT_of (by omega) (by omega)) (by simp [cfTo, cfStep]; exact inT_of (by omega) (by omega)) (by simp [cfTo, cfStep])
    rw [List.nil_append, this]
    simp [cfTo, cfStep]
  · obtain ⟨hs, hc⟩ := later_last h1 h2 g1 h
    generalize max (upI n' d') (min (p' / q') 0) = c at *
    have hS := g4 _ _ hs
    have e0 : cfTo (c, 1) (t :: us) = cfTo (1, 0) (t :: (us ++ [c])) := by
      have : cfTo (1, 0) ((t :: us) ++ [c]) = cfTo (cfStep c (1, 0)) (t :: us) := cfTo_snoc _ _ _
      rw [List.cons_append] at this
      rw [this]; simp [cfStep]
    rw [e0] at hS
    obtain ⟨c1, c2, c3⟩ := smp_bd a1 ko hS
    obtain ⟨x1, x2⟩ := hS.eqX a1 b1
    have hall : ∀ u ∈ us ++ [c], 1 ≤ u := by
      intro u hu'
      rcases List.mem_append.1 hu' with hu' | hu'
      · exact hu u hu'
      · rw [List.mem_singleton.1 hu']; exact hc
    refine ⟨?_, hall⟩
    have := cf_fits t (us ++ [c]) hall ht (inT_of (by omega) (by omega)) (by omega)
    rw [List.cons_append, this]
    congr 1
    exact Prod.ext x1 x2
/-- Between two positive ratios there is a simplest one. -/
theorem smpP_ex : ∀ (k : Nat) (n d p q : Int), (d + q).toNat ≤ k → okR n d = true → okR p q = true → 1 ≤ n → n * q ≤ p * d → ∃ x y, SmpP n d p q x y := by
  intro k
  induction k with
  | zero => intro n d p q hk h1 h2 _ _; have := okR_bd h1; have := okR_bd h2; omega
  | succ k ih =>
    intro n d p q hk h1 h2 hn ho
    obtain ⟨a1, a2, a3, a4⟩ := okR_bd h1
    obtain ⟨b1, b2, b3, b4⟩ := okR_bd h2
    by_cases hw : upI n d ≤ p / q
    · exact ⟨_, _, (later_last h1 h2 hn hw).1⟩
    · obtain ⟨s1, s2, s3, s4, s5⟩ := step_ok h1 h2 ho (by omega)
      obtain ⟨c1, c2, c3, c4⟩ := no_whole a1 b1 ho (by omega)
      obtain ⟨x, y, hs⟩ := ih q (p - n / d * q) d (n - n / d * d) (by omega) s1 s2 (by omega) s3
      exact ⟨_, _, smpP_step a1 b1 (Int.ediv_nonneg (by omega) (by omega)) c1 c2 hs⟩
theorem smpX_P {n d p q : Int} (h1 : okR n d = true) (h2 : okR p q = true) (hn : 1 ≤ n) (ho : n * q ≤ p * d) : SmpP n d p q (smpX n d p q).1 (smpX n d p q).2 := by
  obtain ⟨x, y, hs⟩ := smpP_ex _ n d p q (Nat.le_refl _) h1 h2 hn ho
  obtain ⟨e1, e2⟩ := (hs.smp (okR_bd h1).1 hn).eqX (okR_bd h1).1 (okR_bd h2).1
  rw [← e1, ← e2]; exact hs
theorem smpX_int {n d p q : Int} (h1 : okR n d = true) (h2 : okR p q = true) (hn : 1 ≤ n) (h : upI n d ≤ p / q) : (smpX n d p q).1 = upI n d ∧ (smpX n d p q).2 = 1 := by
  obtain ⟨e1, e2⟩ := (first_last h1 h2 h).eqX (okR_bd h1).1 (okR_bd h2).1
  obtain ⟨a1, a2, a3, a4⟩ := okR_bd h1
  obtain ⟨u1, u2⟩ := up_bd (n := n) a1
  have hu : 1 ≤ upI n d := by
    have h4 : 0 * d < upI n d * d := by omega
    have := lt_of_mul a1 h4
    omega
  exact ⟨by rw [← e1]; omega, e2.symm⟩
theorem smpX_step {n d p q : Int} (h1 : okR n d = true) (h2 : okR p q = true) (_hn : 1 ≤ n) (ho : n * q ≤ p * d) (h : p / q < upI n d) :
    (smpX n d p q).1 = n / d * (smpX q (p - n / d * q) d (n - n / d * d)).1 + (smpX q (p - n / d * q) d (n - n / d * d)).2 ∧ (smpX n d p q).2 = (smpX q (p - n / d * q) d (n - n / d * d)).1 := by
  obtain ⟨a1, a2, a3, a4⟩ := okR_bd h1
  obtain ⟨b1, b2, b3, b4⟩ := okR_bd h2
  obtain ⟨s1, s2, s3, s4, s5⟩ := step_ok h1 h2 ho h
  obtain ⟨e1, e2⟩ := (first_step h1 h2 ho h (smpX_P s1 s2 b1 s3)).eqX a1 b1
  exact ⟨e1.symm, e2.symm⟩
theorem smpX_neg {n d p q : Int} (h1 : okR n d = true) (h2 : okR p q = true) (hp : p ≤ -1) (ho : n * q ≤ p * d) : (smpX n d p q).1 = -(smpX (-p) q (-n) d).1 ∧ (smpX n d p q).2 = (smpX (-p) q (-n) d).2 := by
  have neg : ∀ {a b : Int}, okR a b = true → okR (-a) b = true := by
    intro a b h
    obtain ⟨a1, a2, a3, a4, a5⟩ := okR_true.1 h
    exact okR_true.2 ⟨a1, a2, by omega, by omega, by rw [Int.neg_gcd]; exact a5⟩
  have hs := smpX_P (neg h2) (neg h1) (by omega) (by rw [Int.neg_mul, Int.neg_mul]; omega)
  obtain ⟨e1, e2⟩ := (hs.neg (okR_bd h2).1 hp).eqX (okR_bd h1).1 (okR_bd h2).1
  exact ⟨e1.symm, e2.symm⟩
theorem smpX_zero {n d p q : Int} (h1 : okR n d = true) (h2 : okR p q = true) (hn : n ≤ 0) (hp : 0 ≤ p) : (smpX n d p q).1 = 0 ∧ (smpX n d p q).2 = 1 := by
  obtain ⟨e1, e2⟩ := (smp_zero (d := d) (q := q) hn hp).eqX (okR_bd h1).1 (okR_bd h2).1
  exact ⟨e1.symm, e2.symm⟩
theorem okR_neg {a b : Int} (h : okR a b = true) : okR (-a) b = true := by
  obtain ⟨a1, a2, a3, a4, a5⟩ := okR_true.1 h
  exact okR_true.2 ⟨a1, a2, by omega, by omega, by rw [Int.neg_gcd]; exact a5⟩
/-- The tests of simplestPositive. -/
theorem up_one {n : Int} : upI n 1 = n := by unfold upI; simp
theorem up_next {n d : Int} (h : okR n d = true) (hd : d ≠ 1) : upI n d = n / d + 1 := by
  obtain ⟨a1, a2, a3, a4, a5⟩ := okR_true.1 h
  obtain ⟨u1, u2⟩ := up_bd (n := n) a1
  obtain ⟨f1, f2⟩ := div_bd (n := n) a1
  have e1 : upI n d ≤ n / d + 1 := by
    have : (upI n d - 1) * d < (n / d + 1) * d := by omega
    have := lt_of_mul a1 this
    omega
  have hne : n / d * d ≠ n := by
    intro he
    apply hd
    have h1 : d ∣ n := ⟨n / d, by rw [Int.mul_comm]; exact he.symm⟩
    have h2 : ((Int.gcd n d : Nat) : Int) = d.natAbs := by rw [Int.gcd_eq_natAbs_right h1]
    rw [a5] at h2; omega
  have e2 : n / d < upI n d := by
    have : n / d * d < upI n d * d := by omega
    exact lt_of_mul a1 this
  omega
end Go.Proofs.Ythnfkkfonabhkaa

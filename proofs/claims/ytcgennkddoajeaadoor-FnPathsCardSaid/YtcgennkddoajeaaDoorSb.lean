/-
  Paths in the tree of mediants, out of the terms of a continued fraction.
-/
import Derived.Test.YtcgennkddoajeaaDoorWhole
import Derived.Test.YtcgennkddoajeaaDoorCf
import Derived.Test.YtcgennkddoajeaaDoorTermsI
namespace Go.Proofs.YtcgennkddoajeaaDoor

/-- The path to x / y: true is to the right. -/
inductive SB : Int → Int → List Bool → Prop
  | one : SB 1 1 []
  | R {x y : Int} {l : List Bool} (hx : 0 < x) (hy : 0 < y) (h : SB x y l) : SB (x + y) y (true :: l)
  | L {x y : Int} {l : List Bool} (hx : 0 < x) (hy : 0 < y) (h : SB x y l) : SB x (x + y) (false :: l)
theorem SB.pos {x y : Int} {l : List Bool} (h : SB x y l) : 0 < x ∧ 0 < y := by
  cases h with
  | one => omega
  | R hx hy h => omega
  | L hx hy h => omega
theorem SB.swap {x y : Int} {l : List Bool} (h : SB x y l) : SB y x (l.map (!·)) := by
  induction h with
  | one => exact .one
  | @R x y l hx hy h ih => rw [Int.add_comm x y]; exact .L hy hx ih
  | @L x y l hx hy h ih => rw [Int.add_comm x y]; exact .R hy hx ih
theorem SB.reps {x y : Int} {l : List Bool} (h : SB x y l) (q : Nat) : SB (x + q * y) y (List.replicate q true ++ l) := by
  induction q with
  | zero => simpa using h
  | succ q ih =>
    obtain ⟨hx, hy⟩ := h.pos
    have e : x + ((q + 1 : Nat) : Int) * y = (x + q * y) + y := by push_cast; grind
    rw [e, List.replicate_succ, List.cons_append]
    exact .R ih.pos.1 hy ih
theorem SB.int (q : Nat) : SB ((q : Int) + 1) 1 (List.replicate q true) := by
  have := SB.one.reps q
  rw [List.append_nil] at this
  have e : (q : Int) + 1 = 1 + q * 1 := by omega
  rw [e]; exact this
/-- The path of a list of terms, the last one less one. -/
def runs (dir : Bool) : List Int → List Bool
  | [] => []
  | [t] => List.replicate (t - 1).toNat dir
  | t :: u :: ts => List.replicate t.toNat dir ++ runs (!dir) (u :: ts)
theorem runs_not : ∀ (dir : Bool) (ts : List Int), (runs dir ts).map (!·) = runs (!dir) ts
  | _, [] => rfl
  | dir, [t] => by simp [runs]
  | dir, t :: u :: ts => by simp [runs, runs_not (!dir) (u :: ts)]
theorem sb_terms : ∀ (k : Nat) (x y : Int), y.toNat ≤ k → 1 ≤ y → 0 < x → Int.gcd x y = 1 → SB x y (runs true (terms x y))
  | 0, x, y, hk, hy, _, _ => by omega
  | k + 1, x, y, hk, hy, hx, hg => by
    have em := Int.emod_add_mul_ediv x y
    have m1 := Int.emod_nonneg x (show y ≠ 0 by omega)
    have m2 := Int.emod_lt_of_pos x (show 0 < y by omega)
    have q0 := Int.ediv_nonneg (show 0 ≤ x by omega) (show 0 ≤ y by omega)
    rw [terms_pos hy]
    by_cases h0 : x % y = 0
    · rw [h0, terms_zero (by omega)]
      have hd : y ∣ x := Int.dvd_of_emod_eq_zero h0
      have hy1 : y = 1 := by
        have h1 : y ∣ ((Int.gcd x y : Nat) : Int) := Int.dvd_coe_gcd hd (Int.dvd_refl y)
        rw [hg] at h1
        have := Int.le_of_dvd (by decide) h1
        omega
      subst hy1
      have e : x = (((x - 1).toNat : Nat) : Int) + 1 := by omega
      have := SB.int (x - 1).toNat
      rw [← e] at this
      simpa [runs] using this
    · have hg2 : Int.gcd y (x % y) = 1 := by rw [gcd_mod]; exact hg
      have ih := sb_terms k y (x % y) (by omega) (by omega) (by omega) hg2
      have hne : ∃ u ts, terms y (x % y) = u :: ts := ⟨_, _, terms_pos (by omega)⟩
      obtain ⟨u, ts, hts⟩ := hne
      rw [hts] at ih ⊢
      have sw := ih.swap
      rw [runs_not] at sw
      have := sw.reps (x / y).toNat
      have e : x % y + (((x / y).toNat : Nat) : Int) * y = x := by
        rw [Int.toNat_of_nonneg q0]; grind
      rw [e] at this
      simpa [runs] using this
/-- How a walk down the tree stands: the two bounds, and what is left of the ratio. -/
structure PathAt (n d a b c e x y : Int) : Prop where
  a0 : 0 ≤ a
  b0 : 0 ≤ b
  c0 : 0 ≤ c
  e0 : 0 ≤ e
  num : n = c * x + a * y
  den : d = e * x + b * y
  one : c * b - a * e = 1
theorem PathAt.start (n d : Int) : PathAt n d 0 1 1 0 n d := ⟨by omega, by omega, by omega, by omega, by omega, by omega, by omega⟩
theorem PathAt.right {n d a b c e x y : Int} (h : PathAt n d a b c e (x + y) y) : PathAt n d (a + c) (b + e) c e x y := by
  obtain ⟨h1, h2, h3, h4, h5, h6, h7⟩ := h
  exact ⟨by omega, by omega, by omega, by omega, by grind, by grind, by grind⟩
theorem PathAt.left {n d a b c e x y : Int} (h : PathAt n d a b c e x (x + y)) : PathAt n d a b (a + c) (b + e) x y := by
  obtain ⟨h1, h2, h3, h4, h5, h6, h7⟩ := h
  exact ⟨by omega, by omega, by omega, by omega, by grind, by grind, by grind⟩
theorem mul_ge {a x : Int} (ha : 0 ≤ a) (hx : 1 ≤ x) : a ≤ a * x := by
  have := Int.mul_le_mul_of_nonneg_left hx ha
  omega
theorem PathAt.ok {n d a b c e x y : Int} (h : PathAt n d a b c e x y) (hx : 0 < x) (hy : 0 < y) (hok : okR n d = true) : okR (a + c) (b + e) = true := by
  obtain ⟨h1, h2, h3, h4, h5, h6, h7⟩ := h
  obtain ⟨o1, o2, o3, o4⟩ := okR_bd hok
  have p1 := mul_ge h3 (show 1 ≤ x by omega)
  have p2 := mul_ge h1 (show 1 ≤ y by omega)
  have p3 := mul_ge h4 (show 1 ≤ x by omega)
  have p4 := mul_ge h2 (show 1 ≤ y by omega)
  have hb : 1 ≤ b + e := by
    by_cases hz : b = 0 ∧ e = 0
    · obtain ⟨rfl, rfl⟩ := hz; omega
    · omega
  refine okR_true.2 ⟨hb, by omega, by omega, by omega, ?_⟩
  have hcom : (a + c) * b - a * (b + e) = 1 := by grind
  have d1 := Int.gcd_dvd_left (a + c) (b + e)
  have d2 := Int.gcd_dvd_right (a + c) (b + e)
  have : ((Int.gcd (a + c) (b + e) : Nat) : Int) ∣ 1 := by
    rw [← hcom]
    exact Int.dvd_sub (Int.dvd_trans d1 (Int.dvd_mul_right _ _)) (Int.dvd_trans d2 (Int.dvd_mul_left _ _))
  have := Int.le_of_dvd (by omega) this
  have hp := Int.gcd_pos_of_ne_zero_right (a + c) (show b + e ≠ 0 by omega)
  omega
/-- Where the ratio lies by the mediant. -/
theorem PathAt.cross {n d a b c e x y : Int} (h : PathAt n d a b c e x y) : n * (b + e) - (a + c) * d = x - y := by
  obtain ⟨h1, h2, h3, h4, h5, h6, h7⟩ := h
  subst h5 h6
  grind
theorem PathAt.here {n d a b c e : Int} (h : PathAt n d a b c e 1 1) : n = a + c ∧ d = b + e := by
  obtain ⟨h1, h2, h3, h4, h5, h6, h7⟩ := h
  omega
end Go.Proofs.YtcgennkddoajeaaDoor

/-
  Terms and convergents: a ratio out of its terms, and the sides on which the convergents lie.
-/
import Derived.Test.YtldjplopglpgfaaConv2
import Derived.Test.YtldjplopglpgfaaRtS
import Derived.Test.YtldjplopglpgfaaConvO
namespace Go.Proofs.Ytldjplopglpgfaa

theorem cfR_terms : ∀ (k : Nat) (x y : Int), y.toNat ≤ k → okR x y = true → cfR (terms x y) = some (x, y) := by
  intro k
  induction k with
  | zero => intro x y hk h; obtain ⟨a1, _⟩ := okR_true.1 h; omega
  | succ k ih =>
    intro x y hk h
    obtain ⟨a1, a2, a3, a4, a5⟩ := okR_true.1 h
    rw [terms_pos a1]
    have m1 := Int.emod_nonneg x (show y ≠ 0 by omega)
    have m2 := Int.emod_lt_of_pos x (show 0 < y by omega)
    obtain ⟨q1, q2⟩ := div_lim a1 a3 a4
    have e : x / y * y + x % y = x := by have := Int.emod_add_mul_ediv x y; grind
    have key : cfR (terms y (x % y)) = some (y, x % y) := by
      by_cases hz : x % y = 0
      · have hg : Int.gcd y (x % y) = 1 := by rw [gcd_mod]; exact a5
        rw [hz] at hg ⊢
        simp at hg
        have hy : y = 1 := by omega
        rw [hy, terms_zero (by omega)]; rfl
      · exact ih y (x % y) (by omega) (okR_true.2 ⟨by omega, by omega, by omega, by omega, by rw [gcd_mod]; exact a5⟩)
    have := cfR_cons_yes (t := x / y) key (inT_iff.2 ⟨q1, q2⟩) (by rw [e]; exact inT_iff.2 ⟨a3, a4⟩) (inT_iff.2 ⟨by omega, by omega⟩)
    rw [e] at this
    exact this
theorem rtOk_terms {n d : Int} (hok : okR n d = true) : rtOk (terms n d) = true := by
  obtain ⟨a1, a2, a3, a4, a5⟩ := okR_true.1 hok
  have h1 := terms_ge n d (by omega) (by omega)
  unfold rtOk
  rw [Bool.and_eq_true]
  refine ⟨by rw [terms_pos a1]; simp, List.all_eq_true.2 fun u hu => by simpa using h1 u hu⟩
/-- A ratio is restored from its terms. -/
theorem rt_terms {n d : Int} (hok : okR n d = true) : rtA (terms n d) = n ∧ rtB (terms n d) = d ∧ rtC (terms n d) = 0 := by
  obtain ⟨h1, h2, h3⟩ := rt_yes (rtOk_terms hok)
  obtain ⟨c1, c2, c3⟩ := cf_some (cfR_terms _ n d (Nat.le_refl _) hok)
  exact ⟨h1.trans c1, h2.trans c2, by rw [h3, c3]; rfl⟩
def detL (ts : List Int) : Int := (stOf ts).2.1 * (stOf ts).1.2 - (stOf ts).1.1 * (stOf ts).2.2
theorem detL_snoc (ts : List Int) (t : Int) : detL (ts ++ [t]) = -detL ts := by
  unfold detL
  rw [stOf_snoc]
  simp only [stNext]
  generalize (stOf ts).1.1 = b1
  generalize (stOf ts).1.2 = b2
  generalize (stOf ts).2.1 = l1
  generalize (stOf ts).2.2 = l2
  grind
theorem detL_par : ∀ (k : Nat) (ts : List Int), ts.length = k → (k % 2 = 0 → detL ts = 1) ∧ (k % 2 = 1 → detL ts = -1) := by
  intro k
  induction k with
  | zero =>
    intro ts h
    obtain rfl : ts = [] := List.eq_nil_of_length_eq_zero h
    exact ⟨fun _ => by simp [detL, stOf], fun h => by omega⟩
  | succ k ih =>
    intro ts h
    have hne : ts ≠ [] := fun e => by rw [e] at h; simp at h
    obtain ⟨p, t, rfl⟩ : ∃ p t, ts = p ++ [t] := ⟨ts.dropLast, ts.getLast hne, (List.dropLast_concat_getLast hne).symm⟩
    obtain ⟨h1, h2⟩ := ih p (by simp at h; exact h)
    rw [detL_snoc]
    exact ⟨fun hk => by rw [h2 (by omega)]; rfl, fun hk => by rw [h1 (by omega)]⟩
/-- A convergent before the last one: it is a ratio, and on which side it lies. -/
theorem conv_side {n d : Int} (hok : okR n d = true) {i : Nat} (hi : i + 1 < (terms n d).length) :
    okR (stOf ((terms n d).take (i + 1))).2.1 (stOf ((terms n d).take (i + 1))).2.2 = true ∧
      (i % 2 = 0 → cmpR (stOf ((terms n d).take (i + 1))).2.1 (stOf ((terms n d).take (i + 1))).2.2 n d = -1) ∧
      (i % 2 = 1 → cmpR (stOf ((terms n d).take (i + 1))).2.1 (stOf ((terms n d).take (i + 1))).2.2 n d = 1) := by
  have hts : terms n d = (terms n d).take (i + 1) ++ (terms n d).drop (i + 1) := (List.take_append_drop _ _).symm
  have hlen : ((terms n d).take (i + 1)).length = i + 1 := by rw [List.length_take]; omega
  obtain ⟨x, y, hs⟩ := st_inv hok (i + 1) _ _ hlen hts
  have hp : (terms n d).take (i + 1) ≠ [] := fun e => by rw [e] at hlen; simp at hlen
  obtain ⟨x1, y0, l1⟩ := hs.big hp
  have hy : 1 ≤ y := by
    rcases Int.lt_or_le 0 y with h | h
    · omega
    · have := congrArg List.length hs.rest_eq
      rw [terms_zero (n := x) (d := y) (by omega), List.length_drop] at this
      simp at this
      omega
  obtain ⟨_, _, _, _, q1, q2, q3, q4⟩ := st_bd hok hts
  obtain ⟨dp0, dp1⟩ := detL_par (i + 1) _ hlen
  have hn := hs.cv.num
  have hd := hs.cv.den
  have hdet := hs.cv.det
  unfold detL at dp0 dp1
  generalize (stOf ((terms n d).take (i + 1))).1.1 = b1 at *
  generalize (stOf ((terms n d).take (i + 1))).1.2 = b2 at *
  generalize (stOf ((terms n d).take (i + 1))).2.1 = p at *
  generalize (stOf ((terms n d).take (i + 1))).2.2 = q at *
  have hg : Int.gcd p q = 1 := by
    rcases hdet with h | h
    · exact (nb_gcd (a := b1) (b := b2) (c := p) (e := q) h).2
    · exact (nb_gcd (a := p) (b := q) (c := b1) (e := b2) (by grind)).1
  have hR : okR p q = true := okR_true.2 ⟨by omega, by omega, q1, q2, hg⟩
  have key : p * d - n * q = y * (p * b2 - b1 * q) := by rw [hn, hd]; grind
  refine ⟨hR, fun h => ?_, fun h => ?_⟩
  · rw [dp1 (by omega)] at key
    rw [← cmpR_yes hR hok, ← cmpV_lt (by omega)]
  · rw [dp0 (by omega)] at key
    rw [← cmpR_yes hR hok, ← cmpV_gt (by omega)]
theorem pat_cvg {ts : List Int} {i : Nat} (h : i < ts.length) : pat ((convL ts).map Prod.snd) i = (stOf (ts.take (i + 1))).2 := by
  unfold pat convL
  rw [List.map_map, List.getElem?_map, List.getElem?_range h]; rfl
theorem cvg_length (ts : List Int) : ((convL ts).map Prod.snd).length = ts.length := by simp [convL_len]
theorem pat_last {n d : Int} (hok : okR n d = true) : pat ((convL (terms n d)).map Prod.snd) ((terms n d).length - 1) = (n, d) := by
  obtain ⟨o1, o2, o3, o4, o5⟩ := okR_true.1 hok
  have h1 : 1 ≤ (terms n d).length := by rw [terms_pos o1]; simp
  rw [pat_cvg (by omega), show (terms n d).length - 1 + 1 = (terms n d).length by omega, List.take_length]
  rw [← cfTo_one, terms_cf n d (by omega) (by omega) o5]
end Go.Proofs.Ytldjplopglpgfaa

/-
  Best changes: the plain words (no program).
-/
import Derived.Test.YtmmmbchlkjljaaaRgL
namespace Go.Proofs.Ytmmmbchlkjljaaa

/-- c / d is greater than a / b, for positive b and d: a chain. -/
theorem frac_le_lt {a b c d e f : Int} (hb : 1 ≤ b) (hd : 1 ≤ d) (hf : 1 ≤ f) (h1 : a * d ≤ c * b) (h2 : c * f < e * d) : a * f < e * b := by
  have p1 := Int.mul_le_mul_of_nonneg_right h1 (show 0 ≤ f by omega)
  have p2 := Int.mul_lt_mul_of_pos_right h2 (show 0 < b by omega)
  have e1 : a * d * f = d * (a * f) := by grind
  have e2 : c * b * f = c * f * b := by grind
  have e3 : e * d * b = d * (e * b) := by grind
  have p3 : d * (a * f) < d * (e * b) := by omega
  exact Int.lt_of_mul_lt_mul_left p3 (by omega)
theorem frac_lt_lt {a b c d e f : Int} (hb : 1 ≤ b) (hd : 1 ≤ d) (hf : 1 ≤ f) (h1 : a * d < c * b) (h2 : c * f < e * d) : a * f < e * b :=
  frac_le_lt hb hd hf (by omega) h2
/-- The terms of the change behind k readings. -/
def cnN (ps : List (Int × Int)) (k : Nat) : Int := smF ofS (ps.take k) * smF ofS (ps.take k) * ((ps.length : Int) - k) + smF ofS (ps.drop k) * smF ofS (ps.drop k) * k
def cnD (ps : List (Int × Int)) (k : Nat) : Int := (k : Int) * ((ps.length : Int) - k)
/-- The change behind j readings is better than that behind k. -/
def cnB (ps : List (Int × Int)) (j k : Nat) : Prop := cnN ps k * cnD ps j < cnN ps j * cnD ps k
instance (ps : List (Int × Int)) (j k : Nat) : Decidable (cnB ps j k) := inferInstanceAs (Decidable (_ < _))
theorem cnD_pos {ps : List (Int × Int)} {k : Nat} (h1 : 1 ≤ k) (h2 : k < ps.length) : 1 ≤ cnD ps k := by
  unfold cnD
  have := Int.mul_le_mul (a := 1) (b := 1) (c := (k : Int)) (d := (ps.length : Int) - k) (by omega) (by omega) (by omega) (by omega)
  omega
/-- The best of the changes behind 1 to k readings, the first one. -/
def cnK (ps : List (Int × Int)) : Nat → Nat
  | 0 => 0
  | k + 1 => if cnK ps k = 0 ∨ cnB ps (k + 1) (cnK ps k) then k + 1 else cnK ps k
structure CnV (ps : List (Int × Int)) (k b : Nat) : Prop where
  lo : 1 ≤ b
  hi : b ≤ k
  none : ∀ j, 1 ≤ j → j ≤ k → ¬ cnB ps j b
  all : ∀ i, 1 ≤ i → i < b → cnB ps b i
theorem cnK_inv {ps : List (Int × Int)} : ∀ {k : Nat}, 1 ≤ k → k < ps.length → CnV ps k (cnK ps k)
  | 0, h, _ => absurd h (by omega)
  | 1, _, hl => by
    have e : cnK ps 1 = 1 := by simp [cnK]
    rw [e]
    refine ⟨by omega, by omega, fun j h1 h2 => ?_, fun i h1 h2 => absurd h2 (by omega)⟩
    obtain rfl : j = 1 := by omega
    exact Int.lt_irrefl _
  | k + 2, _, hl => by
    have V := cnK_inv (ps := ps) (k := k + 1) (by omega) (by omega)
    have e : cnK ps (k + 2) = if cnK ps (k + 1) = 0 ∨ cnB ps (k + 2) (cnK ps (k + 1)) then k + 2 else cnK ps (k + 1) := rfl
    rw [e]
    generalize cnK ps (k + 1) = b at *
    have hb0 := V.lo
    have hb1 := V.hi
    have db := cnD_pos (ps := ps) (k := b) (by omega) (by omega)
    have dk := cnD_pos (ps := ps) (k := k + 2) (by omega) (by omega)
    by_cases hc : cnB ps (k + 2) b
    · rw [if_pos (Or.inr hc)]
      refine ⟨by omega, by omega, fun j h1 h2 h3 => ?_, fun i h1 h2 => ?_⟩
      · by_cases ej : j = k + 2
        · subst ej; exact Int.lt_irrefl _ h3
        · have dj := cnD_pos (ps := ps) (k := j) h1 (by omega)
          exact V.none j h1 (by omega) (frac_lt_lt db dk dj hc h3)
      · have di := cnD_pos (ps := ps) (k := i) h1 (by omega)
        have hn := V.none i h1 (by omega)
        unfold cnB at hn hc ⊢
        exact frac_le_lt di db dk (by omega) hc
    · rw [if_neg (by rintro (h | h); omega; exact hc h)]
      refine ⟨by omega, by omega, fun j h1 h2 => ?_, V.all⟩
      by_cases ej : j = k + 2
      · subst ej; exact hc
      · exact V.none j h1 (by omega)
/-- The sums of squares. -/
def yyS (p : Int × Int) : Int := p.2 * p.2
/-- The spread of errors, times their number. -/
def spN (ps : List (Int × Int)) : Int := (ps.length : Int) * smF yyS ps - smF ofS ps * smF ofS ps
/-- The document's term of the change behind k readings. -/
def cdN (ps : List (Int × Int)) (k : Nat) : Int := spN (ps.take k) * ((ps.length : Int) - k) + spN (ps.drop k) * k
theorem smF_split (f : Int × Int → Int) (ps : List (Int × Int)) (k : Nat) : smF f (ps.take k) + smF f (ps.drop k) = smF f ps := by
  rw [← smF_append, List.take_append_drop]
theorem cdN_is {ps : List (Int × Int)} {k : Nat} (h : k ≤ ps.length) : cdN ps k = cnD ps k * smF yyS ps - cnN ps k := by
  have e1 : ((ps.take k).length : Int) = k := by rw [List.length_take]; omega
  have e2 : ((ps.drop k).length : Int) = (ps.length : Int) - k := by rw [List.length_drop]; omega
  have e3 := smF_split yyS ps k
  unfold cdN spN cnD cnN
  rw [e1, e2, ← e3]
  grind
/-- The document's comparison is the program's. -/
theorem cd_less {ps : List (Int × Int)} {j k : Nat} (hj : j ≤ ps.length) (hk : k ≤ ps.length) : cdN ps j * cnD ps k < cdN ps k * cnD ps j ↔ cnB ps j k := by
  rw [cdN_is hj, cdN_is hk]
  unfold cnB
  generalize cnD ps j = a
  generalize cnD ps k = b
  generalize smF yyS ps = s
  have e : (a * s - cnN ps j) * b - (b * s - cnN ps k) * a = cnN ps k * a - cnN ps j * b := by grind
  omega
theorem yy_b {ps : List (Int × Int)} (h : bdR ps) : ∀ i, i < ps.length → 0 ≤ yyS (pat ps i) ∧ yyS (pat ps i) ≤ 10000000000 := by
  intro i hi
  have h1 := (h i hi).2
  have h2 := mulB (A := 100000) (B := 100000) h1.1 h1.2 h1.1 h1.2
  refine ⟨?_, h2.2⟩
  unfold yyS
  rcases Int.le_total 0 (pat ps i).2 with h | h
  · exact Int.mul_nonneg h h
  · exact Int.mul_nonneg_of_nonpos_of_nonpos h h
theorem sq_nn (a : Int) : 0 ≤ a * a := by
  rcases Int.le_total 0 a with h | h
  · exact Int.mul_nonneg h h
  · exact Int.mul_nonneg_of_nonpos_of_nonpos h h
theorem of_all {ps : List (Int × Int)} (h : bdR ps) (hl : ps.length ≤ 60) : -6000000 ≤ smF ofS ps ∧ smF ofS ps ≤ 6000000 := by
  have := smF_bd2 (of_b h); omega
theorem spN_bd {ps : List (Int × Int)} (h : bdR ps) (hl : ps.length ≤ 60) : -36000000000000 ≤ spN ps ∧ spN ps ≤ 36000000000000 := by
  have a := smF_bd2 (yy_b h)
  have b := of_all h hl
  have c := mulB (a := smF ofS ps) (b := smF ofS ps) (A := 6000000) (B := 6000000) (by omega) b.2 (by omega) b.2
  have d := mulB (a := (ps.length : Int)) (b := smF yyS ps) (A := 60) (B := 600000000000) (by omega) (by omega) (by omega) (by omega)
  have e := sq_nn (smF ofS ps)
  have f := Int.mul_nonneg (show (0 : Int) ≤ (ps.length : Int) by omega) (show 0 ≤ smF yyS ps by omega)
  unfold spN
  omega
theorem cnD_bd {ps : List (Int × Int)} (hl : ps.length ≤ 60) {k : Nat} (h2 : k ≤ ps.length) : 0 ≤ cnD ps k ∧ cnD ps k ≤ 900 := by
  unfold cnD
  refine ⟨Int.mul_nonneg (by omega) (by omega), ?_⟩
  have a := sq_nn (2 * (k : Int) - ps.length)
  have b := mulB (a := (ps.length : Int)) (b := (ps.length : Int)) (A := 60) (B := 60) (by omega) (by omega) (by omega) (by omega)
  have e : (2 * (k : Int) - ps.length) * (2 * (k : Int) - ps.length) = (ps.length : Int) * ps.length - 4 * ((k : Int) * ((ps.length : Int) - k)) := by grind
  omega
theorem cnN_bd {ps : List (Int × Int)} (h : bdR ps) (hl : ps.length ≤ 60) {k : Nat} (h2 : k ≤ ps.length) : 0 ≤ cnN ps k ∧ cnN ps k ≤ 2160000000000000 := by
  have l1 : (ps.take k).length = k := by rw [List.length_take]; omega
  have l2 : (ps.drop k).length = ps.length - k := by rw [List.length_drop]
  have a := of_all (bdR_take h k) (by omega)
  have b := of_all (bdR_drop h k) (by omega)
  have a1 := mulB (a := smF ofS (ps.take k)) (b := smF ofS (ps.take k)) (A := 6000000) (B := 6000000) (by omega) a.2 (by omega) a.2
  have b1 := mulB (a := smF ofS (ps.drop k)) (b := smF ofS (ps.drop k)) (A := 6000000) (B := 6000000) (by omega) b.2 (by omega) b.2
  have a0 := sq_nn (smF ofS (ps.take k))
  have b0 := sq_nn (smF ofS (ps.drop k))
  unfold cnN
  generalize smF ofS (ps.take k) * smF ofS (ps.take k) = u at *
  generalize smF ofS (ps.drop k) * smF ofS (ps.drop k) = v at *
  have m1 := Int.mul_le_mul_of_nonneg_right (show u ≤ 36000000000000 by omega) (show 0 ≤ (ps.length : Int) - k by omega)
  have m2 := Int.mul_le_mul_of_nonneg_right (show v ≤ 36000000000000 by omega) (show (0 : Int) ≤ (k : Int) by omega)
  have n1 := Int.mul_nonneg a0 (show 0 ≤ (ps.length : Int) - k by omega)
  have n2 := Int.mul_nonneg b0 (show (0 : Int) ≤ (k : Int) by omega)
  omega
theorem cdN_bd {ps : List (Int × Int)} (h : bdR ps) (hl : ps.length ≤ 60) {k : Nat} (h2 : k ≤ ps.length) : (-2160000000000000 ≤ spN (ps.take k) * ((ps.length : Int) - k) ∧ spN (ps.take k) * ((ps.length : Int) - k) ≤ 2160000000000000) ∧ (-2160000000000000 ≤ spN (ps.drop k) * k ∧ spN (ps.drop k) * k ≤ 2160000000000000) ∧ -4320000000000000 ≤ cdN ps k ∧ cdN ps k ≤ 4320000000000000 := by
  have l1 : (ps.take k).length = k := by rw [List.length_take]; omega
  have l2 : (ps.drop k).length = ps.length - k := by rw [List.length_drop]
  have a := spN_bd (bdR_take h k) (by omega)
  have b := spN_bd (bdR_drop h k) (by omega)
  have c := mulB (a := spN (ps.take k)) (b := (ps.length : Int) - k) (A := 36000000000000) (B := 60) a.1 a.2 (by omega) (by omega)
  have d := mulB (a := spN (ps.drop k)) (b := (k : Int)) (A := 36000000000000) (B := 60) b.1 b.2 (by omega) (by omega)
  unfold cdN
  omega
/-- What BestChange and MedianOff return. -/
def bcE (ps : List (Int × Int)) : Int × Int := if okRd ps = true then (if ps.length < 2 then (0, 6) else ((cnK ps (ps.length - 1) : Int), 0)) else (0, 1)
theorem bcE_1 {ps : List (Int × Int)} (h : okRd ps = false) : bcE ps = (0, 1) := by simp [bcE, h]
theorem bcE_6 {ps : List (Int × Int)} (h : okRd ps = true) (h2 : ps.length < 2) : bcE ps = (0, 6) := by simp [bcE, h, h2]
theorem bcE_0 {ps : List (Int × Int)} (h : okRd ps = true) (h2 : ¬ ps.length < 2) : bcE ps = ((cnK ps (ps.length - 1) : Int), 0) := by simp [bcE, h, h2]
theorem cnK_first {ps : List (Int × Int)} {k : Nat} (h : cnK ps k = 0 ∨ cnB ps (k + 1) (cnK ps k)) : cnK ps (k + 1) = k + 1 := by
  show (if _ then _ else _) = _
  rw [if_pos h]
theorem cnK_stay {ps : List (Int × Int)} {k : Nat} (h : ¬ (cnK ps k = 0 ∨ cnB ps (k + 1) (cnK ps k))) : cnK ps (k + 1) = cnK ps k := by
  show (if _ then _ else _) = _
  rw [if_neg h]
theorem cnK_hi {ps : List (Int × Int)} (k : Nat) : cnK ps k ≤ k := by
  induction k with
  | zero => exact Nat.le_refl _
  | succ k ih =>
    by_cases h : cnK ps k = 0 ∨ cnB ps (k + 1) (cnK ps k)
    · rw [cnK_first h]; omega
    · rw [cnK_stay h]; omega
end Go.Proofs.Ytmmmbchlkjljaaa

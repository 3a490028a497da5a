/-
  Comparing trains: the plain words.
-/
import Derived.Test.YtbfiacodglckiaaTrB
namespace Go.Proofs.Ytbfiacodglckiaa
open Go.RowKit

/-- The sign of a comparison of two numbers. -/
def cmpI (x y : Int) : Int := if x < y then -1 else if y < x then 1 else 0
theorem cmpI_lt {x y : Int} (h : x < y) : cmpI x y = -1 := by simp [cmpI, h]
theorem cmpI_gt {x y : Int} (h : y < x) : cmpI x y = 1 := by have : ¬ x < y := by omega
                                                             simp [cmpI, h, this]
theorem cmpI_eq (x : Int) : cmpI x x = 0 := by simp [cmpI]
theorem cmpI_zero {x y : Int} : cmpI x y = 0 ↔ x = y := by
  unfold cmpI; split
  · constructor
    · intro h; cases h
    · omega
  · split
    · constructor
      · intro h; cases h
      · omega
    · constructor
      · intro _; omega
      · intro _; rfl
/-- Two lists of numbers, number by number; a list that ends first is less. -/
def cmpL : List Int → List Int → Int
  | [], [] => 0
  | [], _ :: _ => -1
  | _ :: _, [] => 1
  | x :: xs, y :: ys => if x < y then -1 else if y < x then 1 else cmpL xs ys
theorem cmpL_lt {xs ys : List Int} {k : Nat} (h1 : k < xs.length) (h2 : k < ys.length) (h : at0 xs k < at0 ys k) : cmpL (xs.drop k) (ys.drop k) = -1 := by
  rw [drop_cons' h1, drop_cons' h2, cmpL, if_pos h]
theorem cmpL_gt {xs ys : List Int} {k : Nat} (h1 : k < xs.length) (h2 : k < ys.length) (h : at0 ys k < at0 xs k) : cmpL (xs.drop k) (ys.drop k) = 1 := by
  rw [drop_cons' h1, drop_cons' h2, cmpL, if_neg (by omega), if_pos h]
theorem cmpL_next {xs ys : List Int} {k : Nat} (h1 : k < xs.length) (h2 : k < ys.length) (h : at0 xs k = at0 ys k) : cmpL (xs.drop k) (ys.drop k) = cmpL (xs.drop (k + 1)) (ys.drop (k + 1)) := by
  rw [drop_cons' h1, drop_cons' h2, cmpL, if_neg (by omega), if_neg (by omega)]
theorem cmpL_end {xs ys : List Int} {k : Nat} (h1 : k ≤ xs.length) (h2 : k ≤ ys.length) (h : k = xs.length ∨ k = ys.length) : cmpL (xs.drop k) (ys.drop k) = cmpI xs.length ys.length := by
  rcases h with h | h
  · rw [List.drop_of_length_le (by omega)]
    by_cases e : ys.length = k
    · rw [List.drop_of_length_le (by omega), ← h, e, cmpI_eq]; rfl
    · rw [drop_cons' (by omega), cmpI_lt (by omega)]; rfl
  · rw [List.drop_of_length_le (l := ys) (by omega)]
    by_cases e : xs.length = k
    · rw [List.drop_of_length_le (by omega), ← h, e, cmpI_eq]; rfl
    · rw [drop_cons' (by omega), cmpI_gt (by omega)]; rfl
/-- The numbers of a train. -/
def flatP (ps : List (Int × Int)) : List Int := ps.flatMap fun p => [p.1, p.2]
theorem flatP_len (ps : List (Int × Int)) : (flatP ps).length = 2 * ps.length := by
  induction ps with
  | nil => rfl
  | cons p ps ih => simp only [flatP, List.flatMap_cons, List.length_append, List.length_cons, List.length_nil] at ih ⊢; omega
theorem flatP_cons (p : Int × Int) (ps : List (Int × Int)) : flatP (p :: ps) = p.1 :: p.2 :: flatP ps := by simp [flatP]
theorem flatP_snoc (ps : List (Int × Int)) (p : Int × Int) : flatP (ps ++ [p]) = flatP ps ++ [p.1, p.2] := by simp [flatP]
theorem flatP_take {ps : List (Int × Int)} {k : Nat} (h : k < ps.length) : flatP (ps.take (k + 1)) = flatP (ps.take k) ++ [(pat ps k).1, (pat ps k).2] := by rw [pat_take h, flatP_snoc]
theorem pat_drop {ps : List (Int × Int)} {k : Nat} (h : k < ps.length) : ps.drop k = pat ps k :: ps.drop (k + 1) := by
  rw [List.drop_eq_getElem_cons h, pat_get h]
/-- Two pairs, and two trains, without their sums. -/
def cmpP (p q : Int × Int) : Int := if cmpI p.1 q.1 = 0 then cmpI p.2 q.2 else cmpI p.1 q.1
def cmpT (ps qs : List (Int × Int)) : Int := cmpL (flatP ps) (flatP qs)
theorem cmpT_nil : cmpT [] [] = 0 := rfl
theorem cmpT_short (p : Int × Int) (ps : List (Int × Int)) : cmpT [] (p :: ps) = -1 := by unfold cmpT; rw [flatP_cons]; rfl
theorem cmpT_long (p : Int × Int) (ps : List (Int × Int)) : cmpT (p :: ps) [] = 1 := by unfold cmpT; rw [flatP_cons]; rfl
theorem cmpT_cons (p q : Int × Int) (ps qs : List (Int × Int)) : cmpT (p :: ps) (q :: qs) = if cmpP p q = 0 then cmpT ps qs else cmpP p q := by
  unfold cmpT cmpP cmpI
  rw [flatP_cons, flatP_cons, cmpL, cmpL]
  by_cases h1 : p.1 < q.1
  · simp [h1]
  · by_cases h2 : q.1 < p.1
    · simp [h1, h2]
    · by_cases h3 : p.2 < q.2
      · simp [h1, h2, h3]
      · by_cases h4 : q.2 < p.2
        · simp [h1, h2, h3, h4]
        · simp [h1, h2, h3, h4]
theorem cmpT_diff {ps qs : List (Int × Int)} {k : Nat} (h1 : k < ps.length) (h2 : k < qs.length) (h : cmpP (pat ps k) (pat qs k) ≠ 0) : cmpT (ps.drop k) (qs.drop k) = cmpP (pat ps k) (pat qs k) := by
  rw [pat_drop h1, pat_drop h2, cmpT_cons, if_neg h]
theorem cmpT_next {ps qs : List (Int × Int)} {k : Nat} (h1 : k < ps.length) (h2 : k < qs.length) (h : cmpP (pat ps k) (pat qs k) = 0) : cmpT (ps.drop k) (qs.drop k) = cmpT (ps.drop (k + 1)) (qs.drop (k + 1)) := by
  rw [pat_drop h1, pat_drop h2, cmpT_cons, if_pos h]
theorem cmpT_over {ps qs : List (Int × Int)} {k : Nat} (h1 : k < ps.length) (h2 : k = qs.length) : cmpT (ps.drop k) (qs.drop k) = 1 := by
  rw [pat_drop h1, List.drop_of_length_le (l := qs) (by omega), cmpT_long]
theorem cmpT_under {ps qs : List (Int × Int)} {k : Nat} (h1 : k = ps.length) (h2 : k < qs.length) : cmpT (ps.drop k) (qs.drop k) = -1 := by
  rw [pat_drop h2, List.drop_of_length_le (l := ps) (by omega), cmpT_short]
theorem cmpT_done {ps qs : List (Int × Int)} {k : Nat} (h1 : k = ps.length) (h2 : k = qs.length) : cmpT (ps.drop k) (qs.drop k) = 0 := by
  rw [List.drop_of_length_le (by omega), List.drop_of_length_le (by omega)]; rfl
/-- What CompareTrains returns. -/
def ctV (ps qs : List (Int × Int)) : Int := if okT ps && okT qs then (if tSum ps = tSum qs then cmpT ps qs else cmpI (tSum ps) (tSum qs)) else 0
theorem ct_no1 {ps qs : List (Int × Int)} (h : okT ps = false) : ctV ps qs = 0 := by simp [ctV, h]
theorem ct_no2 {ps qs : List (Int × Int)} (h : okT qs = false) : ctV ps qs = 0 := by simp [ctV, h]
theorem ct_eq {ps qs : List (Int × Int)} (h : okT ps = true) (h2 : okT qs = true) (h3 : tSum ps = tSum qs) : ctV ps qs = cmpT ps qs := by simp [ctV, h, h2, h3]
theorem ct_ne {ps qs : List (Int × Int)} (h : okT ps = true) (h2 : okT qs = true) (h3 : ¬ tSum ps = tSum qs) : ctV ps qs = cmpI (tSum ps) (tSum qs) := by simp [ctV, h, h2, h3]
/-- The numbers that the model compares. -/
def fullP (ps : List (Int × Int)) : List Int := tSum ps :: flatP ps
theorem fullP_len (ps : List (Int × Int)) : (fullP ps).length = 2 * ps.length + 1 := by simp [fullP, flatP_len]
theorem ct_full {ps qs : List (Int × Int)} (h : okT ps = true) (h2 : okT qs = true) : ctV ps qs = cmpL (fullP ps) (fullP qs) := by
  unfold fullP
  rw [cmpL]
  by_cases e : tSum ps = tSum qs
  · rw [ct_eq h h2 e, if_neg (by omega), if_neg (by omega)]; rfl
  · rw [ct_ne h h2 e]
    unfold cmpI
    by_cases e1 : tSum ps < tSum qs
    · simp [e1]
    · have : tSum qs < tSum ps := by omega
      simp [e1, this]
end Go.Proofs.Ytbfiacodglckiaa

/-
  The text of prime powers: the plain facts.
-/
import Derived.Test.YtcgennkddoajeabDoorPrI
import Derived.Test.YtcgennkddoajeabDoorJoin
import Derived.Test.YtcgennkddoajeabDoorWText
namespace Go.Proofs.YtcgennkddoajeabDoor
open Go.RowKit

theorem strAddL (a b : ByteArray) (h1 : a.size ≤ 100000) (h2 : b.size ≤ 100000) : Op.stringOp .add a b = pure (.string (a ++ b)) := by
  have h : ¬ (((a.size + b.size : Nat) : Int) > IntKind.i64.max) := by simp [IntKind.max, IntKind.signed, IntKind.bits]; omega
  simp only [Op.stringOp]
  rw [if_neg h]
theorem catW (a b : ByteArray) : a ++ b = ⟨(a.data.toList ++ b.data.toList).toArray⟩ := by
  apply ByteArray.ext; simp
/-- Every factor is at least where the search begins, and at most the number. -/
theorem pf_bd : ∀ (k : Nat) (n p : Int), (n - p).toNat ≤ k → 2 ≤ p → 1 ≤ n → ND n p → ∀ x ∈ pfL n p, p ≤ x.1 ∧ x.1 ≤ n ∧ 1 ≤ x.2 ∧ x.2 ≤ n := by
  have fin : ∀ (n p : Int), 2 ≤ p → 1 ≤ n → ND n p → ¬ p * p ≤ n → ∀ x ∈ pfL n p, p ≤ x.1 ∧ x.1 ≤ n ∧ 1 ≤ x.2 ∧ x.2 ≤ n := by
    intro n p hp hn hd h x hx
    rw [pf_end h] at hx
    split at hx
    · simp at hx
      subst hx
      refine ⟨?_, Int.le_refl _, Int.le_refl _, hn⟩
      show p ≤ n
      by_cases e : p ≤ n
      · exact e
      · exact absurd (Int.dvd_refl n) (hd n (by omega) (by omega))
    · simp at hx
  intro k
  induction k with
  | zero =>
    intro n p hk hp hn hd x hx
    by_cases h : p * p ≤ n
    · have := sq_lt hp h; omega
    · exact fin n p hp hn hd h x hx
  | succ k ih =>
    intro n p hk hp hn hd x hx
    by_cases h : p * p ≤ n
    · have h1 := sq_lt hp h
      obtain ⟨a1, a2, a3, a4⟩ := strip_spec hp hn
      have h3 := strip_sum n.toNat n p (Nat.le_refl _) hp hn
      rw [pf_go hp h] at hx
      rcases List.mem_append.1 hx with hx | hx
      · split at hx
        · simp at hx
        · rename_i h0
          simp at hx; subst hx
          refine ⟨Int.le_refl _, by show p ≤ n; omega, ?_, ?_⟩
          · show 1 ≤ ((strip n p).1 : Int); omega
          · show ((strip n p).1 : Int) ≤ n; omega
      · obtain ⟨b1, b2, b3, b4⟩ := ih _ _ (by omega) (by omega) a1 (nd_strip hp hn hd) x hx
        exact ⟨by omega, by omega, b3, by omega⟩
    · exact fin n p hp hn hd h x hx
/-- Neighbouring factors differ. -/
theorem pf_asc : ∀ (k : Nat) (n p : Int), (n - p).toNat ≤ k → 2 ≤ p → 1 ≤ n → ND n p → List.Pairwise (fun x y : Int × Int => x.1 < y.1) (pfL n p) := by
  intro k
  induction k with
  | zero =>
    intro n p hk hp hn hd
    by_cases h : p * p ≤ n
    · have := sq_lt hp h; omega
    · rw [pf_end h]; split <;> simp
  | succ k ih =>
    intro n p hk hp hn hd
    by_cases h : p * p ≤ n
    · have h1 := sq_lt hp h
      obtain ⟨a1, a2, a3, a4⟩ := strip_spec hp hn
      have hd2 := nd_strip hp hn hd
      rw [pf_go hp h]
      have hr := ih (strip n p).2 (p + 1) (by omega) (by omega) a1 hd2
      split
      · simpa using hr
      · rw [List.singleton_append, List.pairwise_cons]
        refine ⟨fun y hy => ?_, hr⟩
        have := (pf_bd _ _ _ (Nat.le_refl _) (by omega) a1 hd2 y hy).1
        show p < y.1
        omega
    · rw [pf_end h]; split <;> simp
theorem strip_half {n p : Int} (hp : 2 ≤ p) (hn : 1 ≤ n) (h : (strip n p).1 ≠ 0) : 2 * (strip n p).2 ≤ n := by
  by_cases hm : n % p = 0
  · obtain ⟨_, e2⟩ := strip_go hp hn hm
    have h1 := (strip_spec hp (div_one_le hp hn hm)).2.1
    have h2 := Int.ediv_mul_cancel (Int.dvd_of_emod_eq_zero hm)
    have h3 : n / p * 2 ≤ n / p * p := Int.mul_le_mul_of_nonneg_left hp (div_less hp hn).2
    rw [e2]; omega
  · rw [strip_no hm] at h; exact absurd rfl h
theorem pf_pow : ∀ (k : Nat) (n p : Int), (n - p).toNat ≤ k → 2 ≤ p → 1 ≤ n → (2 : Int) ^ (pfL n p).length ≤ n := by
  have fin : ∀ (n p : Int), 1 ≤ n → ¬ p * p ≤ n → (2 : Int) ^ (pfL n p).length ≤ n := by
    intro n p hn h
    rw [pf_end h]
    split
    · simp; omega
    · simp; omega
  intro k
  induction k with
  | zero =>
    intro n p hk hp hn
    by_cases h : p * p ≤ n
    · have := sq_lt hp h; omega
    · exact fin n p hn h
  | succ k ih =>
    intro n p hk hp hn
    by_cases h : p * p ≤ n
    · have h1 := sq_lt hp h
      obtain ⟨a1, a2, a3, a4⟩ := strip_spec hp hn
      have h4 := ih (strip n p).2 (p + 1) (by omega) (by omega) a1
      rw [pf_go hp h]
      split
      · rw [List.nil_append]; omega
      · rename_i h0
        have h5 := strip_half hp hn h0
        rw [List.singleton_append, List.length_cons, Int.pow_succ]
        omega
    · exact fin n p hn h
theorem pf_count {n : Int} (h1 : 1 ≤ n) (h2 : n ≤ 1000000000) : (pfL n 2).length ≤ 30 := by
  have h := pf_pow _ n 2 (Nat.le_refl _) (by omega) h1
  by_cases e : (pfL n 2).length ≤ 30
  · exact e
  · exfalso
    obtain ⟨m, hm⟩ : ∃ m, (pfL n 2).length = 31 + m := ⟨(pfL n 2).length - 31, by omega⟩
    rw [hm, Int.pow_add] at h
    have h3 : (1 : Int) ≤ 2 ^ m := Int.pow_pos (by decide)
    have h4 : (2 : Int) ^ 31 = 2147483648 := by decide
    rw [h4] at h
    omega
/-- The word of a prime power. -/
def wT (x : Int × Int) : ByteArray := if 1 < x.2 then decT x.1 ++ (⟨#[94]⟩ ++ decT x.2) else decT x.1
theorem wT_one {q t : Int} (h : ¬ 1 < t) : wT (q, t) = decT q := by simp [wT, h]
theorem wT_more {q t : Int} (h : 1 < t) : wT (q, t) = decT q ++ (⟨#[94]⟩ ++ decT t) := by simp [wT, h]
theorem wT_size {x : Int × Int} (h1 : 1 ≤ x.1) (h2 : x.1 ≤ 1000000000) (h3 : 1 ≤ x.2) (h4 : x.2 ≤ 1000000000) : (wT x).size ≤ 43 := by
  have z1 := decT_size (n := x.1) (by omega) (by omega)
  have z2 := decT_size (n := x.2) (by omega) (by omega)
  have : (⟨#[94]⟩ : ByteArray).size = 1 := rfl
  unfold wT
  split
  · rw [cat_size, cat_size]; omega
  · omega
def wTs (l : List (Int × Int)) : List ByteArray := l.map wT
theorem wTs_snoc (l : List (Int × Int)) (x : Int × Int) : wTs (l ++ [x]) = wTs l ++ [wT x] := by simp [wTs]
theorem wTs_len (l : List (Int × Int)) : (wTs l).length = l.length := by simp [wTs]
/-- What PowersText returns. -/
def ptB (n : Int) : ByteArray := if inB n 1 1000000000 then (if n = 1 then ⟨#[49]⟩ else joinB (wTs (pfL n 2))) else ⟨#[]⟩
theorem pt_no {n : Int} (h : inB n 1 1000000000 = false) : ptB n = ⟨#[]⟩ := by simp [ptB, h]
theorem pt_one {n : Int} (h : inB n 1 1000000000 = true) (h0 : n = 1) : ptB n = ⟨#[49]⟩ := by unfold ptB; rw [if_pos h, if_pos h0]
theorem pt_more {n : Int} (h : inB n 1 1000000000 = true) (h0 : n ≠ 1) : ptB n = joinB (wTs (pfL n 2)) := by simp [ptB, h, h0]
/-- The text of the first ones. -/
def oW (l : List (Int × Int)) : ByteArray := ⟨(partL (wTs l) l.length).toArray⟩
theorem oW_nil : oW [] = ⟨#[]⟩ := by simp [oW, partL, joinL, wTs]
theorem oW_all (l : List (Int × Int)) : oW l = joinB (wTs l) := by
  unfold oW joinB
  rw [← part_all]
  simp [wTs]
theorem oW_one (x : Int × Int) : (⟨#[]⟩ : ByteArray) ++ wT x = oW [x] := by
  rw [catW]
  simp [oW, partL, joinL, wTs]
theorem oW_snoc {l : List (Int × Int)} (x : Int × Int) (h : l ≠ []) : (oW l ++ ⟨#[32]⟩) ++ wT x = oW (l ++ [x]) := by
  cases l with
  | nil => exact absurd rfl h
  | cons a l =>
    rw [catW, catW, oW_all, oW_all]
    simp [joinB, joinL, wTs]
theorem oW_size {l : List (Int × Int)} (h : ∀ x ∈ l, (wT x).size ≤ 43) : (oW l).size ≤ 44 * l.length := by
  have h3 : (⟨#[32]⟩ : ByteArray).size = 1 := rfl
  have h4 : (⟨#[]⟩ : ByteArray).size = 0 := rfl
  have key : ∀ (k : Nat) (l : List (Int × Int)), l.length = k → (∀ x ∈ l, (wT x).size ≤ 43) → (oW l).size ≤ 44 * l.length := by
    intro k
    induction k with
    | zero => intro l hl _; rw [List.length_eq_zero_iff.1 hl, oW_nil]; exact Nat.zero_le _
    | succ k ih =>
      intro l hl h
      obtain ⟨l', x, rfl⟩ : ∃ l' x, l = l' ++ [x] := ⟨l.dropLast, l.getLast (by intro e; rw [e] at hl; simp at hl), (List.dropLast_concat_getLast _).symm⟩
      have hx := h x (by simp)
      have hl' : l'.length = k := by simpa using hl
      by_cases e : l' = []
      · subst e
        rw [List.nil_append, ← oW_one, cat_size]; simp; omega
      · rw [← oW_snoc x e, cat_size, cat_size]
        have := ih l' hl' (fun y hy => h y (by simp [hy]))
        simp; omega
  exact key _ l rfl h
/-- The list of all factors, read at a place within a group and behind it. -/
theorem exL_in {pre rest : List (Int × Int)} {q t : Int} {j : Nat} (h : j < t.toNat) : (exL (pre ++ (q, t) :: rest))[(exL pre).length + j]? = some q := by
  have e : exL (pre ++ (q, t) :: rest) = exL pre ++ (List.replicate t.toNat q ++ exL rest) := by simp [exL]
  rw [e, List.getElem?_append_right (by omega), Nat.add_sub_cancel_left, List.getElem?_append_left (by simpa using h), List.getElem?_replicate, if_pos h]
theorem exL_out {pre rest : List (Int × Int)} {q t : Int} {y : Int} (hr : ∀ x ∈ rest, q < x.1) (h : (exL (pre ++ (q, t) :: rest))[(exL pre).length + t.toNat]? = some y) : q < y := by
  have e : exL (pre ++ (q, t) :: rest) = exL pre ++ (List.replicate t.toNat q ++ exL rest) := by simp [exL]
  rw [e, List.getElem?_append_right (by omega), Nat.add_sub_cancel_left, List.getElem?_append_right (by simp)] at h
  have hm := List.mem_of_getElem? h
  unfold exL at hm
  obtain ⟨x, hx, hy⟩ := List.mem_flatMap.1 hm
  rw [List.eq_of_mem_replicate hy]
  exact hr x hx
theorem exL_lenp (pre : List (Int × Int)) (x : Int × Int) : (exL (pre ++ [x])).length = (exL pre).length + x.2.toNat := by rw [exL_snoc]; simp
theorem exL_nil_of {l : List (Int × Int)} (hp : ∀ x ∈ l, 1 ≤ x.2) (h : (exL l).length = 0) : l = [] := by
  cases l with
  | nil => rfl
  | cons x l =>
    have := hp x (by simp)
    simp [exL] at h
    omega
theorem pf_ne : ∀ (k : Nat) (n p : Int), (n - p).toNat ≤ k → 2 ≤ p → 2 ≤ n → pfL n p ≠ [] := by
  have fin : ∀ (n p : Int), 2 ≤ n → ¬ p * p ≤ n → pfL n p ≠ [] := by
    intro n p hn h
    rw [pf_end h, if_pos (by omega)]
    simp
  intro k
  induction k with
  | zero =>
    intro n p hk hp hn
    by_cases h : p * p ≤ n
    · have := sq_lt hp h; omega
    · exact fin n p hn h
  | succ k ih =>
    intro n p hk hp hn
    by_cases h : p * p ≤ n
    · have h1 := sq_lt hp h
      rw [pf_go hp h]
      by_cases hm : n % p = 0
      · rw [if_neg (by rw [(strip_go hp (by omega) hm).1]; omega)]
        simp
      · rw [strip_no hm]
        simpa using ih n (p + 1) (by omega) (by omega) hn
    · exact fin n p hn h
theorem primes_ne {n : Int} (h : 2 ≤ n) : (primesL n).length ≠ 0 := by
  intro e
  exact pf_ne _ n 2 (Nat.le_refl _) (by omega) h (exL_nil_of (fun x hx => (pf_bd _ n 2 (Nat.le_refl _) (by omega) (by omega) (nd_two n) x hx).2.2.1) e)
theorem primes_one : primesL 1 = [] := by unfold primesL; rw [pf_end (by decide), if_neg (by decide)]; rfl
end Go.Proofs.YtcgennkddoajeabDoor

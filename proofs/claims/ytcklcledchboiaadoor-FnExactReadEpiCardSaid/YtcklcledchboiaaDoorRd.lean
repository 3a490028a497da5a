/-
  Reading decimal texts: plain arithmetic.
-/
import Derived.Test.YtcklcledchboiaaDoorDec
import Derived.Lib.ParseIntB
namespace Go.Proofs.YtcklcledchboiaaDoor
open Go.RowKit

/-- What the digits of a text spell. -/
def dval (acc : Nat) : List UInt8 → Nat
  | [] => acc
  | c :: r => dval (acc * 10 + (c.toNat - 48)) r
theorem dval_snoc (l : List UInt8) (c : UInt8) : ∀ acc, dval acc (l ++ [c]) = dval acc l * 10 + (c.toNat - 48) := by
  induction l with
  | nil => intro acc; rfl
  | cons a l ih => intro acc; exact ih _
theorem digit_nat (u : Nat) : (UInt8.ofNat (48 + u % 10)).toNat = 48 + u % 10 := by rw [UInt8.toNat_ofNat']; omega
theorem dval_dl : ∀ (u : Nat), dval 0 (dl u) = u := by
  intro u
  induction u using Nat.strongRecOn with
  | _ u ih =>
    by_cases h : u = 0
    · rw [h, dl_zero]; rfl
    · rw [dl_pos h, dval_snoc, ih (u / 10) (by omega), digit_nat]; omega
theorem dl_digits : ∀ (u : Nat), ∀ c ∈ dl u, 48 ≤ c.toNat ∧ c.toNat ≤ 57 := by
  intro u
  induction u using Nat.strongRecOn with
  | _ u ih =>
    by_cases h : u = 0
    · rw [h, dl_zero]; intro c hc; cases hc
    · rw [dl_pos h]
      intro c hc
      rcases List.mem_append.1 hc with hc | hc
      · exact ih (u / 10) (by omega) c hc
      · rw [List.mem_singleton.1 hc, digit_nat]; omega
theorem pu_app (M : Nat) (l r : List UInt8) : ∀ acc u, Lib.parseUintM M acc l = .ok u → Lib.parseUintM M acc (l ++ r) = Lib.parseUintM M u r := by
  induction l with
  | nil => intro acc u h; rw [Lib.parseUintM] at h; injection h with h; rw [h]; rfl
  | cons c l ih =>
    intro acc u h
    rw [Lib.parseUintM] at h
    rw [List.cons_append, Lib.parseUintM]
    split at h
    · rename_i h1
      rw [if_pos h1]
      split at h
      · cases h
      · rename_i h2
        rw [if_neg h2]
        split at h
        · cases h
        · rename_i h3
          rw [if_neg h3]
          exact ih _ _ h
    · cases h
theorem pu_dl (M : Nat) (hM : 1000000000000000000 ≤ M) : ∀ (u : Nat), u < 1000000000000000000 → Lib.parseUintM M 0 (dl u) = .ok u := by
  intro u
  induction u using Nat.strongRecOn with
  | _ u ih =>
    intro hu
    by_cases h : u = 0
    · rw [h, dl_zero]; rfl
    · rw [dl_pos h, pu_app M _ _ 0 (u / 10) (ih (u / 10) (by omega) (by omega)), Lib.parseUintM, digit_nat, if_pos (by omega), if_neg (by omega), if_neg (by omega), Lib.parseUintM]
      congr 1
      omega
theorem parse_itoa {n : Int} (h1 : -1000000000000000000 < n) (h2 : n < 1000000000000000000) : Lib.parseIntB 64 (Lib.itoa n) = .ok n := by
  have hM : 1000000000000000000 ≤ 2 ^ 64 - 1 := by decide
  rcases Int.lt_trichotomy n 0 with hn | hn | hn
  · rw [← itoa_negv hn]
    have hp := pu_dl (2 ^ 64 - 1) hM n.natAbs (by omega)
    have hne : dl n.natAbs ≠ [] := fun h => by have := dl_nil h; omega
    have h45 : (45 : UInt8).toNat = 45 := rfl
    unfold Lib.parseIntB
    simp only [h45]
    rw [if_pos (.inr trivial)]
    unfold Lib.parseUintB
    rw [if_neg hne, hp]
    simp only [not_true_eq_false, false_and, if_false, true_and, if_true]
    rw [if_neg (by have : (2 : Nat) ^ (64 - 1) = 9223372036854775808 := rfl; omega)]
    congr 1
    omega
  · subst hn; rw [itoa_zero]; rfl
  · rw [← itoa_pos hn]
    have hp := pu_dl (2 ^ 64 - 1) hM n.natAbs (by omega)
    have hd := dl_digits n.natAbs
    cases hl : dl n.natAbs with
    | nil => have := dl_nil hl; omega
    | cons c r =>
      have hc := hd c (by rw [hl]; exact List.mem_cons_self ..)
      rw [hl] at hp
      unfold Lib.parseIntB
      simp only
      rw [if_neg (by omega)]
      unfold Lib.parseUintB
      rw [if_neg (by simp), hp]
      have h45 : ¬ c.toNat = 45 := by omega
      simp only [h45, not_false_eq_true, false_and, if_false, true_and]
      rw [if_neg (by have : (2 : Nat) ^ (64 - 1) = 9223372036854775808 := rfl; omega)]
      congr 1
      omega

/-- What reading a text gives: the number whose decimal form it is, if it has at most 18 digits. -/
def RdIs (s : List UInt8) (n : Int) (ok : Bool) : Prop :=
  (ok = true ∧ (-1000000000000000000 < n ∧ n < 1000000000000000000) ∧ Lib.itoa n = s) ∨
  (ok = false ∧ n = 0 ∧ ∀ m : Int, -1000000000000000000 < m → m < 1000000000000000000 → Lib.itoa m ≠ s)
theorem RdIs.uniq {s : List UInt8} {n m : Int} {a b : Bool} (h : RdIs s n a) (k : RdIs s m b) : n = m ∧ a = b := by
  rcases h with ⟨rfl, ⟨h1, h2⟩, h3⟩ | ⟨rfl, rfl, h⟩ <;> rcases k with ⟨rfl, ⟨k1, k2⟩, k3⟩ | ⟨rfl, rfl, k⟩
  · have := parse_itoa h1 h2
    rw [h3, ← k3, parse_itoa k1 k2] at this
    injection this with e
    exact ⟨e.symm, rfl⟩
  · exact absurd h3 (k _ h1 h2)
  · exact absurd k3 (h _ k1 k2)
  · exact ⟨rfl, rfl⟩
/-- A number that ParseInt reads. -/
theorem RdIs.of_ok {s : List UInt8} {n : Int} (h : Lib.parseIntB 64 s = .ok n) (h1 : -1000000000000000000 < n) (h2 : n < 1000000000000000000) : (Lib.itoa n = s → RdIs s n true) ∧ (Lib.itoa n ≠ s → RdIs s 0 false) := by
  refine ⟨fun e => .inl ⟨rfl, ⟨h1, h2⟩, e⟩, fun e => .inr ⟨rfl, rfl, fun m m1 m2 em => ?_⟩⟩
  have := parse_itoa m1 m2
  rw [em, h] at this
  injection this with this
  exact e (this ▸ em)
theorem RdIs.of_big {s : List UInt8} {n : Int} (h : Lib.parseIntB 64 s = .ok n) (h1 : n ≤ -1000000000000000000 ∨ 1000000000000000000 ≤ n) : RdIs s 0 false := by
  refine .inr ⟨rfl, rfl, fun m m1 m2 em => ?_⟩
  have := parse_itoa m1 m2
  rw [em, h] at this
  injection this with this
  omega
theorem RdIs.of_bad {s : List UInt8} (h : ∀ n, Lib.parseIntB 64 s ≠ .ok n) : RdIs s 0 false :=
  .inr ⟨rfl, rfl, fun m m1 m2 em => h m (em ▸ parse_itoa m1 m2)⟩
theorem parse_range {s : List UInt8} {n : Int} (h : Lib.parseIntB 64 s = .ok n) : -9223372036854775808 ≤ n ∧ n ≤ 9223372036854775807 := by
  have e63 : (2 : Nat) ^ (64 - 1) = 9223372036854775808 := rfl
  unfold Lib.parseIntB at h
  split at h
  · cases h
  · simp only at h
    split at h
    · cases h
    · cases h
    · rename_i u _
      split at h
      · cases h
      · rename_i g1
        split at h
        · cases h
        · rename_i g2
          injection h with h
          rw [e63] at g1 g2
          split at h <;> rename_i g3
          · simp [g3] at g2; omega
          · simp [g3] at g1; omega

/-- The text behind its sign. -/
def unsig (s : List UInt8) : List UInt8 := if s.head? = some 45 then s.tail else s
theorem unsig_itoa {m : Int} (hm : m ≠ 0) : unsig (Lib.itoa m) = dl m.natAbs := by
  rcases Int.lt_or_gt_of_ne hm with h | h
  · rw [← itoa_negv h]; rfl
  · rw [← itoa_pos h]
    unfold unsig
    rw [if_neg]
    intro hh
    have hmem : (45 : UInt8) ∈ dl m.natAbs := List.mem_of_mem_head? hh
    have := dl_digits _ _ hmem
    simp at this
theorem unsig_zero : unsig (Lib.itoa 0) = [48] := by rw [itoa_zero]; rfl
/-- A text with a bad length, or with a byte that is no digit, is no decimal form. -/
theorem RdIs.bad_len {s : List UInt8} (h : (unsig s).length < 1 ∨ 18 < (unsig s).length) : RdIs s 0 false := by
  refine .inr ⟨rfl, rfl, fun m m1 m2 em => ?_⟩
  subst em
  by_cases hm : m = 0
  · subst hm; rw [unsig_zero] at h; simp at h
  · rw [unsig_itoa hm] at h
    have := dl_len 18 m.natAbs (by omega)
    have h0 : (dl m.natAbs).length ≠ 0 := fun e => by have := dl_nil (List.length_eq_zero_iff.1 e); omega
    omega
theorem RdIs.bad_digit {s : List UInt8} {c : UInt8} (hc : c ∈ unsig s) (h : ¬ (48 ≤ c.toNat ∧ c.toNat ≤ 57)) : RdIs s 0 false := by
  refine .inr ⟨rfl, rfl, fun m m1 m2 em => ?_⟩
  subst em
  by_cases hm : m = 0
  · subst hm; rw [unsig_zero] at hc; rw [List.mem_singleton.1 hc] at h; simp at h
  · rw [unsig_itoa hm] at hc
    exact h (dl_digits _ _ hc)
theorem sig_itoa {m : Int} : (Lib.itoa m).head? = some 45 ↔ m < 0 := by
  rcases Int.lt_trichotomy m 0 with h | h | h
  · rw [← itoa_negv h]; simp [h]
  · subst h; rw [itoa_zero]; simp
  · rw [← itoa_pos h]
    constructor
    · intro hh
      have hmem : (45 : UInt8) ∈ dl m.natAbs := List.mem_of_mem_head? hh
      have := dl_digits _ _ hmem
      simp at this
    · intro; omega
/-- The number that the digits spell, with its sign, is the only one. -/
theorem RdIs.of_val {s : List UInt8} {v : Int} (hv : v = if s.head? = some 45 then -(dval 0 (unsig s) : Int) else (dval 0 (unsig s) : Int)) (h1 : -1000000000000000000 < v) (h2 : v < 1000000000000000000) :
    (Lib.itoa v = s → RdIs s v true) ∧ (Lib.itoa v ≠ s → RdIs s 0 false) := by
  refine ⟨fun e => .inl ⟨rfl, ⟨h1, h2⟩, e⟩, fun e => .inr ⟨rfl, rfl, fun m m1 m2 em => ?_⟩⟩
  subst em
  apply e
  congr 1
  rw [hv]
  by_cases hm : m = 0
  · subst hm; rw [unsig_zero, itoa_zero]; rfl
  · rw [unsig_itoa hm, dval_dl]
    by_cases hneg : m < 0
    · rw [if_pos (sig_itoa.2 hneg)]; omega
    · rw [if_neg (fun x => hneg (sig_itoa.1 x))]; omega
end Go.Proofs.YtcklcledchboiaaDoor

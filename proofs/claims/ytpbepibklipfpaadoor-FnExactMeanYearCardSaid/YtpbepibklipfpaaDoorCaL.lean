/-
  Calendars: leap years, days of years, cycles.
-/
import Derived.Test.YtpbepibklipfpaaDoorCaM
namespace Go.Proofs.YtpbepibklipfpaaDoor
open Go.RowKit

/-- A rule applies; the last of the first k rules that applies. -/
def apR (r : Ru) (y : Int) : Bool := decide (y % r.e = r.r)
def lpK (rs : List Ru) (y : Int) : Nat → Bool
  | 0 => false
  | k + 1 => if apR (ruAt rs k) y then (ruAt rs k).b else lpK rs y k
def lpY (rs : List Ru) (y : Int) : Bool := lpK rs y rs.length
theorem lpK_yes {rs : List Ru} {y : Int} {k : Nat} (h : apR (ruAt rs k) y = true) : lpK rs y (k + 1) = (ruAt rs k).b := by unfold lpK; rw [h]; rfl
theorem lpK_no {rs : List Ru} {y : Int} {k : Nat} (h : apR (ruAt rs k) y = false) : lpK rs y (k + 1) = lpK rs y k := by rw [lpK, h]; rfl
theorem lpK_per {rs : List Ru} {y Y : Int} (q : Int) : ∀ {k : Nat}, (∀ i, i < k → (ruAt rs i).e ∣ Y) → lpK rs (y + Y * q) k = lpK rs y k
  | 0, _ => rfl
  | k + 1, h => by
    have ih := lpK_per (rs := rs) (y := y) (Y := Y) q (k := k) (fun i hi => h i (by omega))
    obtain ⟨p, hp⟩ := h k (by omega)
    have e : (y + Y * q) % (ruAt rs k).e = y % (ruAt rs k).e := by rw [hp, Int.mul_assoc, Int.add_mul_emod_self_left]
    have e2 : apR (ruAt rs k) (y + Y * q) = apR (ruAt rs k) y := by unfold apR; rw [e]
    rw [lpK, lpK, ih, e2]
theorem lpY_per {rs : List Ru} (h : ruK rs rs.length) (y q : Int) : lpY rs (y + lcA rs * q) = lpY rs y := lpK_per q (fun _ hi => lcK_dvd h hi)
/-- The days of a month; of the first k months. -/
def dyM (m : Mo) (b : Bool) : Int := if b then m.l else m.d
def smD (ms : List Mo) (b : Bool) : Nat → Int
  | 0 => 0
  | k + 1 => smD ms b k + dyM (moAt ms k) b
def smA (ms : List Mo) (b : Bool) : Int := smD ms b ms.length
theorem smD_succ (ms : List Mo) (b : Bool) (k : Nat) : smD ms b (k + 1) = smD ms b k + dyM (moAt ms k) b := rfl
theorem dyM_bd {ms : List Mo} (h : okMo ms = true) {k : Nat} (hk : k < ms.length) (b : Bool) : 1 ≤ dyM (moAt ms k) b ∧ dyM (moAt ms k) b ≤ 60 := by
  obtain ⟨_, h2, h3⟩ := (okMo_parts h).2.2 k hk
  unfold dyM; cases b <;> simp <;> omega
theorem smD_bd {ms : List Mo} (h : okMo ms = true) (b : Bool) : ∀ {k : Nat}, k ≤ ms.length → (k : Int) ≤ smD ms b k ∧ smD ms b k ≤ 60 * (k : Int)
  | 0, _ => ⟨by simp [smD], by simp [smD]⟩
  | k + 1, hk => by
    have ih := smD_bd h b (k := k) (by omega)
    have hd := dyM_bd h (k := k) (by omega) b
    rw [smD_succ]; omega
theorem smA_bd {ms : List Mo} (h : okMo ms = true) (b : Bool) : 1 ≤ smA ms b ∧ smA ms b ≤ 1200 := by
  have h1 := okMo_parts h
  have := smD_bd h b (Nat.le_refl ms.length)
  unfold smA; omega
theorem smD_mono {ms : List Mo} (h : okMo ms = true) (b : Bool) {i k : Nat} (hi : i ≤ k) (hk : k ≤ ms.length) : smD ms b i ≤ smD ms b k := by
  induction k with
  | zero => obtain rfl : i = 0 := (by omega); exact Int.le_refl _
  | succ k ih =>
    by_cases e : i = k + 1
    · subst e; exact Int.le_refl _
    · have := ih (by omega) (by omega)
      have hd := dyM_bd h (k := k) (by omega) b
      rw [smD_succ]; omega
/-- The days of a year. -/
def dyY (ms : List Mo) (rs : List Ru) (y : Int) : Int := smA ms (lpY rs y)
theorem dyY_bd {ms : List Mo} (h : okMo ms = true) (rs : List Ru) (y : Int) : 1 ≤ dyY ms rs y ∧ dyY ms rs y ≤ 1200 := smA_bd h _
/-- The days of the first k years; how many of them are leap years. -/
def cyK (ms : List Mo) (rs : List Ru) : Nat → Int
  | 0 => 0
  | k + 1 => cyK ms rs k + dyY ms rs (k : Int)
def lnK (rs : List Ru) : Nat → Int
  | 0 => 0
  | k + 1 => lnK rs k + (if lpY rs (k : Int) then 1 else 0)
theorem cyK_succ (ms : List Mo) (rs : List Ru) (k : Nat) : cyK ms rs (k + 1) = cyK ms rs k + dyY ms rs (k : Int) := rfl
theorem lnK_yes {rs : List Ru} {k : Nat} (h : lpY rs (k : Int) = true) : lnK rs (k + 1) = lnK rs k + 1 := by rw [lnK, h]; rfl
theorem lnK_no {rs : List Ru} {k : Nat} (h : lpY rs (k : Int) = false) : lnK rs (k + 1) = lnK rs k := by rw [lnK, h]; simp
theorem lnK_bd (rs : List Ru) : ∀ k : Nat, 0 ≤ lnK rs k ∧ lnK rs k ≤ k
  | 0 => by simp [lnK]
  | k + 1 => by
    have := lnK_bd rs k
    cases h : lpY rs (k : Int)
    · rw [lnK_no h]; omega
    · rw [lnK_yes h]; omega
theorem cyK_bd {ms : List Mo} (h : okMo ms = true) (rs : List Ru) : ∀ k : Nat, (k : Int) ≤ cyK ms rs k ∧ cyK ms rs k ≤ 1200 * (k : Int)
  | 0 => by simp [cyK]
  | k + 1 => by
    have := cyK_bd h rs k
    have := dyY_bd h rs (k : Int)
    rw [cyK_succ]; omega
theorem cyK_ln (ms : List Mo) (rs : List Ru) : ∀ k : Nat, cyK ms rs k = lnK rs k * smA ms true + ((k : Int) - lnK rs k) * smA ms false
  | 0 => by simp [cyK, lnK]
  | k + 1 => by
    have ih := cyK_ln ms rs k
    rw [cyK_succ, ih]
    unfold dyY
    cases h : lpY rs (k : Int)
    · rw [lnK_no h]; push_cast; grind
    · rw [lnK_yes h]; push_cast; grind
theorem ln_add {rs : List Ru} (h : ruK rs rs.length) (q : Nat) {Y : Nat} (hY : (Y : Int) = lcA rs) : ∀ r : Nat, lnK rs (Y * q + r) = lnK rs (Y * q) + lnK rs r
  | 0 => by simp [lnK]
  | r + 1 => by
    have ih := ln_add h q hY r
    have e : lpY rs ((Y * q + r : Nat) : Int) = lpY rs (r : Int) := by
      have := lpY_per h (r : Int) (q : Int)
      rw [← hY] at this
      rw [← this]
      congr 1
      push_cast; omega
    rw [show Y * q + (r + 1) = (Y * q + r) + 1 by omega]
    cases hl : lpY rs (r : Int)
    · rw [lnK_no (e.trans hl), lnK_no hl, ih]
    · rw [lnK_yes (e.trans hl), lnK_yes hl, ih]; omega
theorem ln_mul {rs : List Ru} (h : ruK rs rs.length) {Y : Nat} (hY : (Y : Int) = lcA rs) : ∀ q : Nat, lnK rs (Y * q) = (q : Int) * lnK rs Y
  | 0 => by simp [lnK]
  | q + 1 => by
    rw [Nat.mul_succ, ln_add h q hY Y, ln_mul h hY q]; push_cast; grind
/-- Leap years before a year, by whole cycles and the rest. -/
theorem ln_split {rs : List Ru} (h : ruK rs rs.length) {Y : Nat} (hY : (Y : Int) = lcA rs) (y : Nat) : lnK rs y = ((y / Y : Nat) : Int) * lnK rs Y + lnK rs (y % Y) := by
  rw [← ln_mul h hY, ← ln_add h _ hY, Nat.div_add_mod]
theorem cy_split {ms : List Mo} {rs : List Ru} (h : ruK rs rs.length) {Y : Nat} (hY : (Y : Int) = lcA rs) (q : Nat) : cyK ms rs (Y * q) = (q : Int) * cyK ms rs Y := by
  rw [cyK_ln, cyK_ln, ln_mul h hY]; push_cast; grind
end Go.Proofs.YtpbepibklipfpaaDoor

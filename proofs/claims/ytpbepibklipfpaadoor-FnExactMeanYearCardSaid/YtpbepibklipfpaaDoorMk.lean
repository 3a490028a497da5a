/-
  The ratio of two numbers in lowest terms: the plain arithmetic, and the contracts of spec.l02Part and spec.l02Make.
-/
import Derived.Test.YtpbepibklipfpaaDoorRat
namespace Go.Proofs.YtpbepibklipfpaaDoor
open Go.RowKit

/-- The terms of n / d in lowest terms, without and with the sign. -/
def lowN (n d : Int) : Int := ((n.natAbs : Nat) : Int) / ((Int.gcd n d : Nat) : Int)
def lowD (n d : Int) : Int := ((d.natAbs : Nat) : Int) / ((Int.gcd n d : Nat) : Int)
def mkN (n d : Int) : Int := if decide (n < 0) != decide (d < 0) then -lowN n d else lowN n d
def lowOk (n d : Int) : Bool := decide (lowN n d ≤ 1000000000 ∧ lowD n d ≤ 1000000000)
theorem lowOk_out {n d : Int} (h : lowOk n d = false) : 1000000000 < lowN n d ∨ 1000000000 < lowD n d := by simp [lowOk] at h; omega
theorem lowOk_in {n d : Int} (h : lowOk n d = true) : lowN n d ≤ 1000000000 ∧ lowD n d ≤ 1000000000 := by simpa [lowOk] using h
/-- The terms that are returned: 0 if they are out of range. -/
def mkA (n d : Int) : Int := if lowOk n d = true then mkN n d else 0
def mkB (n d : Int) : Int := if lowOk n d = true then lowD n d else 0
theorem mk_no {n d : Int} (h : lowOk n d = false) : mkA n d = 0 ∧ mkB n d = 0 := by simp [mkA, mkB, h]
theorem mk_yes {n d : Int} (h : lowOk n d = true) : mkA n d = mkN n d ∧ mkB n d = lowD n d := by simp [mkA, mkB, h]
theorem mkN_same {n d : Int} (h : decide (n < 0) = decide (d < 0)) : mkN n d = lowN n d := by simp [mkN, h]
theorem mkN_other {n d : Int} (h : decide (n < 0) = !decide (d < 0)) : mkN n d = -lowN n d := by
  unfold mkN; rw [h]; cases decide (d < 0) <;> rfl
theorem ret_rb {a b a' b' : Int} {c c' : Bool} (h1 : a = a') (h2 : b = b') (h3 : c = c') : Ending.returned (.tuple #[.agg #[.int .i64 a, .int .i64 b], .bool c]) = .returned (.tuple #[.agg #[.int .i64 a', .int .i64 b'], .bool c']) := by rw [h1, h2, h3]
theorem ret_rc {a b a' b' c c' : Int} (h1 : a = a') (h2 : b = b') (h3 : c = c') : Ending.returned (.tuple #[.agg #[.int .i64 a, .int .i64 b], .int .i64 c]) = .returned (.tuple #[.agg #[.int .i64 a', .int .i64 b'], .int .i64 c']) := by rw [h1, h2, h3]
theorem low_bd {n d : Int} (hd : d ≠ 0) (h1 : -9223372036854775808 ≤ n) (h2 : n ≤ 9223372036854775807) (h3 : -9223372036854775808 ≤ d) (h4 : d ≤ 9223372036854775807) :
    1 ≤ ((Int.gcd n d : Nat) : Int) ∧ 0 ≤ lowN n d ∧ lowN n d ≤ 9223372036854775808 ∧ 0 ≤ lowD n d ∧ lowD n d ≤ 9223372036854775808 := by
  have hg : 0 < Int.gcd n d := Int.gcd_pos_of_ne_zero_right n hd
  have a1 := Int.ediv_nonneg (show 0 ≤ ((n.natAbs : Nat) : Int) by omega) (show 0 ≤ ((Int.gcd n d : Nat) : Int) by omega)
  have a2 := Int.ediv_le_self ((Int.gcd n d : Nat) : Int) (show 0 ≤ ((n.natAbs : Nat) : Int) by omega)
  have b1 := Int.ediv_nonneg (show 0 ≤ ((d.natAbs : Nat) : Int) by omega) (show 0 ≤ ((Int.gcd n d : Nat) : Int) by omega)
  have b2 := Int.ediv_le_self ((Int.gcd n d : Nat) : Int) (show 0 ≤ ((d.natAbs : Nat) : Int) by omega)
  unfold lowN lowD
  omega

theorem l02Part_any (n : Int) (w : World) (h1 : -9223372036854775808 ≤ n) (h2 : n ≤ 9223372036854775807) :
    Calls Tryd.prog 105 #[.int .i64 n] w fun e w' => e = .returned (.int .u64 (n.natAbs : Int)) ∧ w = w' := by
  by_cases h : n < 0
  · go_enter Tryd.func105, Tryd.ntmps105
    go_wp2
    go_ret
    exact ⟨ret_int (wrap_neg_wrap n h1 h), rfl⟩
  · go_enter Tryd.func105, Tryd.ntmps105
    go_wp2
    go_ret
    exact ⟨ret_int (by omega), rfl⟩

set_option maxHeartbeats 2000000 in
theorem l02Make_any (n d : Int) (w : World) (hd : d ≠ 0) (h1 : -9223372036854775808 ≤ n) (h2 : n ≤ 9223372036854775807) (h3 : -9223372036854775808 ≤ d) (h4 : d ≤ 9223372036854775807) :
    Calls Tryd.prog 74 #[.int .i64 n, .int .i64 d] w fun e w' => e = .returned (.tuple #[.agg #[.int .i64 (mkA n d), .int .i64 (mkB n d)], .bool (lowOk n d)]) ∧ Below w.heap.size w w' := by
  obtain ⟨g1, a1, a2, b1, b2⟩ := low_bd hd h1 h2 h3 h4
  have HG := Lib.hid (gcd_abs2 n d)
  go_enter Tryd.func74, Tryd.ntmps74
  go_wp2_with fail
  refine (l02Part_any _ _ (by omega) (by omega)).mono ?_
  rintro e w1 ⟨rfl, rfl⟩
  go_wp2_with fail
  refine (l02Part_any _ _ (by omega) (by omega)).mono ?_
  rintro e w1 ⟨rfl, rfl⟩
  go_wp2_with fail
  go_loop [8, 9] (fun x y => ∃ (p q : Int), 0 ≤ p ∧ 0 ≤ q ∧ x = .int .u64 p ∧ y = .int .u64 q ∧ Int.gcd p q = Int.gcd n d) (fun _ y => (intOf y).toNat)
  case atStart => exact ⟨_, _, by omega, by omega, rfl, rfl, HG.out⟩
  case round =>
    obtain ⟨p, q, hp, hq, rfl, rfl, hg⟩ := hrel
    have HQ := Lib.hid hg
    clear hg
    by_cases hz : q = 0
    · subst hz
      have e1 : p = ((Int.gcd n d : Nat) : Int) := by have := HQ.out; rw [Int.gcd_zero] at this; omega
      subst e1
      clear HQ hp hq
      cases hk : lowOk n d
      · have hk' : 1000000000 < lowN n d ∨ 1000000000 < lowD n d := by simp [lowOk] at hk; omega
        have HA := Lib.hid (mk_no hk)
        have HA2 := Lib.hid hk
        clear hk
        simp only [lowN, lowD] at a1 a2 b1 b2 hk'
        by_cases c1 : 1000000000 < ((n.natAbs : Nat) : Int) / ((Int.gcd n d : Nat) : Int)
        · clear hk'
          go_wp2_with fail
          exact bodyPost_ret (v := .tuple #[.agg #[.int .i64 0, .int .i64 0], .bool false]) (by simp [results, Tryd.results74, go_sem]) rfl ⟨ret_rb HA.out.1.symm HA.out.2.symm HA2.out.symm, bA (bR _) _⟩
        · have c2 : 1000000000 < ((d.natAbs : Nat) : Int) / ((Int.gcd n d : Nat) : Int) := by omega
          clear hk'
          go_wp2_with fail
          exact bodyPost_ret (v := .tuple #[.agg #[.int .i64 0, .int .i64 0], .bool false]) (by simp [results, Tryd.results74, go_sem]) rfl ⟨ret_rb HA.out.1.symm HA.out.2.symm HA2.out.symm, bA (bR _) _⟩
      · have hk' : lowN n d ≤ 1000000000 ∧ lowD n d ≤ 1000000000 := by simpa [lowOk] using hk
        have HA := Lib.hid (mk_yes hk)
        have HA2 := Lib.hid hk
        clear hk
        simp only [lowN, lowD] at a1 a2 b1 b2 hk'
        obtain ⟨k1, k2⟩ := hk'
        by_cases hn : n < 0
        · by_cases hd0 : d < 0
          · have hn' : (decide (n < 0)) = true := by simpa using hn
            have hd' : (decide (d < 0)) = true := by simpa using hd0
            go_wp2_with fail
            exact bodyPost_ret (v := .tuple #[.agg #[.int .i64 ((((n.natAbs : Nat) : Int) / ((Int.gcd n d : Nat) : Int))), .int .i64 (((d.natAbs : Nat) : Int) / ((Int.gcd n d : Nat) : Int))], .bool true]) (by simp [results, Tryd.results74, go_sem]) rfl ⟨ret_rb (by rw [HA.out.1]; rw [mkN_same (by rw [hn', hd'])]; rfl) (by rw [HA.out.2]; rfl) HA2.out.symm, bA (bA (bR _) _) _⟩
          · have hn' : (decide (n < 0)) = true := by simpa using hn
            have hd' : (decide (d < 0)) = false := by simpa using hd0
            go_wp2_with fail
            exact bodyPost_ret (v := .tuple #[.agg #[.int .i64 (-(((n.natAbs : Nat) : Int) / ((Int.gcd n d : Nat) : Int))), .int .i64 (((d.natAbs : Nat) : Int) / ((Int.gcd n d : Nat) : Int))], .bool true]) (by simp [results, Tryd.results74, go_sem]) rfl ⟨ret_rb (by rw [HA.out.1]; rw [mkN_other (by rw [hn', hd']; rfl)]; rfl) (by rw [HA.out.2]; rfl) HA2.out.symm, bA (bA (bR _) _) _⟩
        · by_cases hd0 : d < 0
          · have hn' : (decide (n < 0)) = false := by simpa using hn
            have hd' : (decide (d < 0)) = true := by simpa using hd0
            go_wp2_with fail
            exact bodyPost_ret (v := .tuple #[.agg #[.int .i64 (-(((n.natAbs : Nat) : Int) / ((Int.gcd n d : Nat) : Int))), .int .i64 (((d.natAbs : Nat) : Int) / ((Int.gcd n d : Nat) : Int))], .bool true]) (by simp [results, Tryd.results74, go_sem]) rfl ⟨ret_rb (by rw [HA.out.1]; rw [mkN_other (by rw [hn', hd']; rfl)]; rfl) (by rw [HA.out.2]; rfl) HA2.out.symm, bA (bA (bR _) _) _⟩
          · have hn' : (decide (n < 0)) = false := by simpa using hn
            have hd' : (decide (d < 0)) = false := by simpa using hd0
            go_wp2_with fail
            exact bodyPost_ret (v := .tuple #[.agg #[.int .i64 ((((n.natAbs : Nat) : Int) / ((Int.gcd n d : Nat) : Int))), .int .i64 (((d.natAbs : Nat) : Int) / ((Int.gcd n d : Nat) : Int))], .bool true]) (by simp [results, Tryd.results74, go_sem]) rfl ⟨ret_rb (by rw [HA.out.1]; rw [mkN_same (by rw [hn', hd'])]; rfl) (by rw [HA.out.2]; rfl) HA2.out.symm, bA (bA (bR _) _) _⟩
    · have hb : 0 < q := by omega
      have hm1 := Int.emod_nonneg p hz
      have hm2 := Int.emod_lt_of_pos p (show 0 < q by omega)
      go_wp2_with fail
      go_round
      case rel => exact ⟨q, p % q, hq, hm1, rfl, rfl, by rw [gcd_step p q hp hq]; exact HQ.out⟩
      case measure => simp [intOf]; omega
end Go.Proofs.YtpbepibklipfpaaDoor

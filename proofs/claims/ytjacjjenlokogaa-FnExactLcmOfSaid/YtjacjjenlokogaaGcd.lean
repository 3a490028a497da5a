/-
  Contracts and walks of GcdOf and LcmOf.
-/
import Derived.Test.YtjacjjenlokogaaCmp
namespace Go.Proofs.Ytjacjjenlokogaa
open Go.RowKit

theorem ret_ii {a b c d : Int} (h : a = b) (h' : c = d) : Ending.returned (.tuple #[.int .i64 a, .int .i64 c]) = .returned (.tuple #[.int .i64 b, .int .i64 d]) := by rw [h, h']
/-- Both numbers are terms. -/
def twoT (a b : Int) : Bool := inB a 1 1000000000 && inB b 1 1000000000
def gcV (a b : Int) : Int := if twoT a b = true then ((Int.gcd a b : Nat) : Int) else 0
def gcC (a b : Int) : Int := if twoT a b = true then 0 else 2
def lcV (a b : Int) : Int := if twoT a b = true then a / ((Int.gcd a b : Nat) : Int) * b else 0
theorem twoT_no1 {a b : Int} (h : inB a 1 1000000000 = false) : twoT a b = false := by simp [twoT, h]
theorem twoT_no2 {a b : Int} (h : inB b 1 1000000000 = false) : twoT a b = false := by simp [twoT, h]
theorem twoT_yes {a b : Int} (h1 : inB a 1 1000000000 = true) (h2 : inB b 1 1000000000 = true) : twoT a b = true := by simp [twoT, h1, h2]
theorem gc_no {a b : Int} (h : twoT a b = false) : gcV a b = 0 ∧ gcC a b = 2 ∧ lcV a b = 0 := by simp [gcV, gcC, lcV, h]
theorem gc_yes {a b : Int} (h : twoT a b = true) : gcV a b = ((Int.gcd a b : Nat) : Int) ∧ gcC a b = 0 ∧ lcV a b = a / ((Int.gcd a b : Nat) : Int) * b := by simp [gcV, gcC, lcV, h]
theorem gcd_bd {a b : Int} (h1 : inB a 1 1000000000 = true) (h2 : inB b 1 1000000000 = true) : 1 ≤ ((Int.gcd a b : Nat) : Int) ∧ ((Int.gcd a b : Nat) : Int) ≤ 1000000000 := by
  have h1 := inB_true.1 h1
  have h2 := inB_true.1 h2
  have := Int.gcd_pos_of_ne_zero_left b (show a ≠ 0 by omega)
  have hd := Int.le_of_dvd (show 0 < a by omega) (Int.gcd_dvd_left a b)
  omega

theorem isTerm_any (n : Int) (w : World) :
    Calls Try.prog 44 #[.int .i64 n] w fun e w' => e = .returned (.bool (inB n 1 1000000000)) ∧ w = w' := by
  by_cases h : 1 ≤ n
  · go_enter Try.func44, Try.ntmps44
    go_wp2
    go_ret
    exact ⟨ret_bool (by simp [inB, h]), rfl⟩
  · go_enter Try.func44, Try.ntmps44
    go_wp2
    go_ret
    exact ⟨ret_bool (by simp [inB]; omega), rfl⟩
theorem l04Ask_any (n : Int) (w : World) :
    Calls Try.prog 42 #[.int .i64 n] w fun e w' => e = .returned (.bool (inB n 1 1000000000)) ∧ w = w' := by
  go_enter Try.func42, Try.ntmps42
  go_wp2_with fail
  refine (l00In_any _ _ _ _).mono ?_
  rintro e w1 ⟨rfl, rfl⟩
  go_wp2_with fail
  go_ret
  exact ⟨rfl, rfl⟩

set_option maxHeartbeats 400000 in
theorem GcdOfI_any (a b : Int) (w : World) :
    Calls Try.prog 13 #[.int .i64 a, .int .i64 b] w fun e w' => e = .returned (.tuple #[.int .i64 (gcV a b), .int .i64 (gcC a b)]) ∧ Below w.heap.size w w' := by
  cases hA : inB a 1 1000000000 with
  | false =>
    obtain ⟨z1, z2, z3⟩ := gc_no (twoT_no1 (b := b) hA)
    rw [z1, z2]
    go_enter Try.func13, Try.ntmps13
    go_wp2_with fail
    refine (isTerm_any _ _).mono ?_
    rintro e w1 ⟨rfl, rfl⟩
    go_wp2_with fail
    go_ret2
    exact ⟨rfl, bR _⟩
  | true =>
    cases hB : inB b 1 1000000000 with
    | false =>
      obtain ⟨z1, z2, z3⟩ := gc_no (twoT_no2 (a := a) hB)
      rw [z1, z2]
      go_enter Try.func13, Try.ntmps13
      go_wp2_with fail
      refine (isTerm_any _ _).mono ?_
      rintro e w1 ⟨rfl, rfl⟩
      go_wp2_with fail
      refine (isTerm_any _ _).mono ?_
      rintro e w1 ⟨rfl, rfl⟩
      go_wp2_with fail
      go_ret2
      exact ⟨rfl, bR _⟩
    | true =>
      obtain ⟨z1, z2, z3⟩ := gc_yes (twoT_yes hA hB)
      rw [z1, z2]
      obtain ⟨g1, g2⟩ := gcd_bd hA hB
      have a1 := inB_true.1 hA
      have b1 := inB_true.1 hB
      obtain ⟨a1, a2⟩ := a1
      obtain ⟨b1, b2⟩ := b1
      have ea : ((a.natAbs : Nat) : Int) = a := by omega
      have eb : ((b.natAbs : Nat) : Int) = b := by omega
      have HM := Lib.hid (fun w => magnitude_any a w (by omega) (by omega))
      have HN := Lib.hid (fun w => magnitude_any b w (by omega) (by omega))
      rw [ea] at HM
      rw [eb] at HN
      have HG := Lib.hid (fun w => commonDivisor_any a b w (by omega) (by omega))
      clear z1 z2 z3 ea eb
      generalize ((Int.gcd a b : Nat) : Int) = g at *
      go_enter Try.func13, Try.ntmps13
      go_wp2_with fail
      refine (isTerm_any _ _).mono ?_
      rintro e w1 ⟨rfl, rfl⟩
      go_wp2_with fail
      refine (isTerm_any _ _).mono ?_
      rintro e w1 ⟨rfl, rfl⟩
      go_wp2_with fail
      refine (HM.out _).mono ?_
      rintro e w1 ⟨rfl, rfl⟩
      go_wp2_with fail
      refine (HN.out _).mono ?_
      rintro e w1 ⟨rfl, rfl⟩
      go_wp2_with fail
      refine (HG.out _).mono ?_
      rintro e w1 ⟨rfl, nq, rfl⟩
      go_wp2_with fail
      go_ret2
      exact ⟨rfl, bD (bR _) _⟩

set_option maxHeartbeats 400000 in
theorem GcdOfS_any (a b : Int) (w : World) :
    Calls Try.prog 12 #[.int .i64 a, .int .i64 b] w fun e w' => e = .returned (.tuple #[.int .i64 (gcV a b), .int .i64 (gcC a b)]) ∧ Below w.heap.size w w' := by
  cases hA : inB a 1 1000000000 with
  | false =>
    obtain ⟨z1, z2, z3⟩ := gc_no (twoT_no1 (b := b) hA)
    rw [z1, z2]
    go_enter Try.func12, Try.ntmps12
    go_wp2_with fail
    refine (l04Ask_any _ _).mono ?_
    rintro e w1 ⟨rfl, rfl⟩
    go_wp2_with fail
    go_ret2
    exact ⟨rfl, bR _⟩
  | true =>
    cases hB : inB b 1 1000000000 with
    | false =>
      obtain ⟨z1, z2, z3⟩ := gc_no (twoT_no2 (a := a) hB)
      rw [z1, z2]
      go_enter Try.func12, Try.ntmps12
      go_wp2_with fail
      refine (l04Ask_any _ _).mono ?_
      rintro e w1 ⟨rfl, rfl⟩
      go_wp2_with fail
      refine (l04Ask_any _ _).mono ?_
      rintro e w1 ⟨rfl, rfl⟩
      go_wp2_with fail
      go_ret2
      exact ⟨rfl, bR _⟩
    | true =>
      obtain ⟨z1, z2, z3⟩ := gc_yes (twoT_yes hA hB)
      rw [z1, z2]
      obtain ⟨a1, a2⟩ := inB_true.1 hA
      obtain ⟨b1, b2⟩ := inB_true.1 hB
      have HG := Lib.hid (fun w => l02Gcd_any a b w (by omega) (by omega))
      clear z1 z2 z3
      generalize ((Int.gcd a b : Nat) : Int) = g at *
      go_enter Try.func12, Try.ntmps12
      go_wp2_with fail
      refine (l04Ask_any _ _).mono ?_
      rintro e w1 ⟨rfl, rfl⟩
      go_wp2_with fail
      refine (l04Ask_any _ _).mono ?_
      rintro e w1 ⟨rfl, rfl⟩
      go_wp2_with fail
      refine (HG.out _).mono ?_
      rintro e w1 ⟨rfl, rfl⟩
      go_wp2_with fail
      go_ret2
      exact ⟨rfl, bR _⟩

set_option maxHeartbeats 400000 in
theorem LcmOfI_any (a b : Int) (w : World) :
    Calls Try.prog 15 #[.int .i64 a, .int .i64 b] w fun e w' => e = .returned (.tuple #[.int .i64 (lcV a b), .int .i64 (gcC a b)]) ∧ Below w.heap.size w w' := by
  cases hT : twoT a b with
  | false =>
    have HC := Lib.hid (fun w => GcdOfI_any a b w)
    obtain ⟨z1, z2, z3⟩ := gc_no hT
    rw [z1, z2] at HC
    rw [z3, z2]
    clear z1 z2 z3
    go_enter Try.func15, Try.ntmps15
    go_wp2_with fail
    refine (HC.out _).mono ?_
    rintro e w1 ⟨rfl, hb1⟩
    go_wp2_with fail
    go_ret2
    exact ⟨rfl, bT (bR _) hb1⟩
  | true =>
    have HC := Lib.hid (fun w => GcdOfI_any a b w)
    obtain ⟨z1, z2, z3⟩ := gc_yes hT
    rw [z1, z2] at HC
    rw [z3, z2]
    have hA : inB a 1 1000000000 = true := by simp [twoT] at hT; exact hT.1
    have hB : inB b 1 1000000000 = true := by simp [twoT] at hT; exact hT.2
    obtain ⟨g1, g2⟩ := gcd_bd hA hB
    obtain ⟨a1, a2⟩ := inB_true.1 hA
    obtain ⟨b1, b2⟩ := inB_true.1 hB
    clear z1 z2 z3 hT hA hB
    generalize ((Int.gcd a b : Nat) : Int) = g at *
    have q0 := Int.ediv_nonneg (show 0 ≤ a by omega) (show 0 ≤ g by omega)
    have q1 := Int.ediv_le_self g (show 0 ≤ a by omega)
    obtain ⟨m1, m2⟩ := mul_bd (show -1000000000 ≤ a / g by omega) (show a / g ≤ 1000000000 by omega) (show -1000000000 ≤ b by omega) b2
    go_enter Try.func15, Try.ntmps15
    go_wp2_with fail
    refine (HC.out _).mono ?_
    rintro e w1 ⟨rfl, hb1⟩
    go_wp2_with fail
    go_ret2
    exact ⟨rfl, bT (bR _) hb1⟩

set_option maxHeartbeats 400000 in
theorem LcmOfS_any (a b : Int) (w : World) :
    Calls Try.prog 14 #[.int .i64 a, .int .i64 b] w fun e w' => e = .returned (.tuple #[.int .i64 (lcV a b), .int .i64 (gcC a b)]) ∧ Below w.heap.size w w' := by
  cases hA : inB a 1 1000000000 with
  | false =>
    obtain ⟨z1, z2, z3⟩ := gc_no (twoT_no1 (b := b) hA)
    rw [z3, z2]
    go_enter Try.func14, Try.ntmps14
    go_wp2_with fail
    refine (l04Ask_any _ _).mono ?_
    rintro e w1 ⟨rfl, rfl⟩
    go_wp2_with fail
    go_ret2
    exact ⟨rfl, bR _⟩
  | true =>
    cases hB : inB b 1 1000000000 with
    | false =>
      obtain ⟨z1, z2, z3⟩ := gc_no (twoT_no2 (a := a) hB)
      rw [z3, z2]
      go_enter Try.func14, Try.ntmps14
      go_wp2_with fail
      refine (l04Ask_any _ _).mono ?_
      rintro e w1 ⟨rfl, rfl⟩
      go_wp2_with fail
      refine (l04Ask_any _ _).mono ?_
      rintro e w1 ⟨rfl, rfl⟩
      go_wp2_with fail
      go_ret2
      exact ⟨rfl, bR _⟩
    | true =>
      obtain ⟨z1, z2, z3⟩ := gc_yes (twoT_yes hA hB)
      rw [z3, z2]
      obtain ⟨g1, g2⟩ := gcd_bd hA hB
      obtain ⟨a1, a2⟩ := inB_true.1 hA
      obtain ⟨b1, b2⟩ := inB_true.1 hB
      have HG := Lib.hid (fun w => l02Gcd_any a b w (by omega) (by omega))
      clear z1 z2 z3
      generalize ((Int.gcd a b : Nat) : Int) = g at *
      have q0 := Int.ediv_nonneg (show 0 ≤ a by omega) (show 0 ≤ g by omega)
      have q1 := Int.ediv_le_self g (show 0 ≤ a by omega)
      obtain ⟨m1, m2⟩ := mul_bd (show -1000000000 ≤ a / g by omega) (show a / g ≤ 1000000000 by omega) (show -1000000000 ≤ b by omega) b2
      go_enter Try.func14, Try.ntmps14
      go_wp2_with fail
      refine (l04Ask_any _ _).mono ?_
      rintro e w1 ⟨rfl, rfl⟩
      go_wp2_with fail
      refine (l04Ask_any _ _).mono ?_
      rintro e w1 ⟨rfl, rfl⟩
      go_wp2_with fail
      refine (HG.out _).mono ?_
      rintro e w1 ⟨rfl, rfl⟩
      go_wp2_with fail
      go_ret2
      exact ⟨rfl, bR _⟩

set_option maxHeartbeats 400000 in
theorem FnExactGcdOf_walk (a b : Int) (w : World) (_h1 : -9223372036854775808 ≤ a ∧ a ≤ 9223372036854775807) (_h2 : -9223372036854775808 ≤ b ∧ b ≤ 9223372036854775807) :
    Calls Try.prog 3 #[.int .i64 a, .int .i64 b] w fun e w' => e = .returned (.bool true) ∧ Below w.heap.size w w' := by
  have hne : (gcV a b != gcV a b) = false := by simp
  have hne2 : (gcC a b != gcC a b) = false := by simp
  go_enter Try.func3, Try.ntmps3
  go_wp2_with fail
  refine (GcdOfS_any _ _ _).mono ?_
  rintro e w1 ⟨rfl, hb1⟩
  go_wp2_with fail
  refine (GcdOfI_any _ _ _).mono ?_
  rintro e w2 ⟨rfl, hb2⟩
  go_wp2_with fail
  go_ret
  exact ⟨rfl, bT (bT (bR _) hb1) hb2⟩
set_option maxHeartbeats 400000 in
theorem FnExactLcmOf_walk (a b : Int) (w : World) (_h1 : -9223372036854775808 ≤ a ∧ a ≤ 9223372036854775807) (_h2 : -9223372036854775808 ≤ b ∧ b ≤ 9223372036854775807) :
    Calls Try.prog 4 #[.int .i64 a, .int .i64 b] w fun e w' => e = .returned (.bool true) ∧ Below w.heap.size w w' := by
  have hne : (lcV a b != lcV a b) = false := by simp
  have hne2 : (gcC a b != gcC a b) = false := by simp
  go_enter Try.func4, Try.ntmps4
  go_wp2_with fail
  refine (LcmOfS_any _ _ _).mono ?_
  rintro e w1 ⟨rfl, hb1⟩
  go_wp2_with fail
  refine (LcmOfI_any _ _ _).mono ?_
  rintro e w2 ⟨rfl, hb2⟩
  go_wp2_with fail
  go_ret
  exact ⟨rfl, bT (bT (bR _) hb1) hb2⟩
end Go.Proofs.Ytjacjjenlokogaa

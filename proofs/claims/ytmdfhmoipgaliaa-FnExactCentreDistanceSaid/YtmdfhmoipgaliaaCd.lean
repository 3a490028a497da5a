/-
  CentreDistance: both sides, and the walk of laws.FnExactCentreDistance.
-/
import Derived.Test.YtmdfhmoipgaliaaTrA
import Derived.Test.YtmdfhmoipgaliaaPtA
import Derived.Test.YtmdfhmoipgaliaaEqP
namespace Go.Proofs.Ytmdfhmoipgaliaa
open Go.RowKit

theorem mul_bdC {x y : Int} (h0 : 0 ≤ x) (h1 : x ≤ 100) (h2 : 0 ≤ y) (h3 : y ≤ 480) : 0 ≤ x * y ∧ x * y ≤ 48000 := by
  have := Int.mul_nonneg h0 h2
  have h4 : x * y ≤ 100 * y := Int.mul_le_mul_of_nonneg_right h1 h2
  omega
def cdOk (m : Int) : Bool := inB m 2 200 && decide (m % 2 = 0)
def cdN (x y m : Int) : Int := if (okP (x, y) && cdOk m) = true then m / 2 * (x + y) else 0
def cdC (x y m : Int) : Int := if okP (x, y) = true then (if cdOk m = true then 0 else 2) else 1
theorem cd_1 {x y m : Int} (h : okP (x, y) = false) : cdN x y m = 0 ∧ cdC x y m = 1 := by simp [cdN, cdC, h]
theorem cd_2 {x y m : Int} (h : okP (x, y) = true) (h2 : inB m 2 200 = false) : cdN x y m = 0 ∧ cdC x y m = 2 := by simp [cdN, cdC, cdOk, h, h2]
theorem cd_3 {x y m : Int} (h : okP (x, y) = true) (h2 : ¬ m % 2 = 0) : cdN x y m = 0 ∧ cdC x y m = 2 := by simp [cdN, cdC, cdOk, h, h2]
theorem cd_4 {x y m : Int} (h : okP (x, y) = true) (h2 : inB m 2 200 = true) (h3 : m % 2 = 0) : cdN x y m = m / 2 * (x + y) ∧ cdC x y m = 0 := by simp [cdN, cdC, cdOk, h, h2, h3]
set_option maxHeartbeats 2000000 in
theorem CentreDistanceI_any (x y m : Int) (w : World) :
    Calls Try.prog 31 #[.agg #[.int .i64 x, .int .i64 y], .int .i64 m] w (TwoI (cdN x y m) (cdC x y m) w) := by
  have L0 := Lib.hid (bA (bR w) (.cells #[.int .i64 x, .int .i64 y] 54))
  cases h : okP (x, y)
  · rw [(cd_1 h).1, (cd_1 h).2]
    go_enter Try.func31, Try.ntmps31
    go_wp2_with fail
    refine (ValidPairI_any _ _ _).mono ?_
    rw [h]
    rintro e w1 ⟨rfl, hb⟩
    go_wp2_with fail
    go_ret2
    exact ⟨rfl, bT L0.out hb⟩
  cases h2 : inB m 2 200
  · rw [(cd_2 h h2).1, (cd_2 h h2).2]
    go_enter Try.func31, Try.ntmps31
    go_wp2_with fail
    refine (ValidPairI_any _ _ _).mono ?_
    rw [h]
    rintro e w1 ⟨rfl, hb⟩
    go_wp2_with fail
    refine (isBetween_any _ _ _ _).mono ?_
    rw [h2]
    rintro e w2 ⟨rfl, rfl⟩
    go_wp2_with fail
    go_ret2
    exact ⟨rfl, bT L0.out hb⟩
  have k2 := inB_true.1 h2
  have t1 : m.tmod 2 = m % 2 := Int.tmod_eq_emod_of_nonneg (by omega)
  have t2 : m.tdiv 2 = m / 2 := Int.tdiv_eq_ediv_of_nonneg (by omega)
  by_cases h3 : m % 2 = 0
  · rw [(cd_4 h h2 h3).1, (cd_4 h h2 h3).2]
    obtain ⟨a1, a2, a3, a4⟩ := okP_bd h
    simp only at a1 a2 a3 a4
    have hm := mul_bdC (x := m / 2) (y := x + y) (by omega) (by omega) (by omega) (by omega)
    have X := Lib.hid (Box2.new w x y 54)
    go_enter Try.func31, Try.ntmps31
    go_wp2_with fail
    refine (ValidPairI_any _ _ _).mono ?_
    rw [h]
    rintro e w1 ⟨rfl, hb⟩
    obtain ⟨x0, x1, _, _, x4⟩ := X.out.keep hb
    have L1 := Lib.hid (bT L0.out hb)
    clear hb
    go_wp2_with fail
    refine (isBetween_any _ _ _ _).mono ?_
    rw [h2]
    rintro e w2 ⟨rfl, rfl⟩
    go_wp2_with fail
    go_ret2
    exact ⟨rfl, L1.out⟩
  · rw [(cd_3 h h3).1, (cd_3 h h3).2]
    have hz : (m % 2 == 0) = false := by simpa using h3
    have hz2 : (m % 2 != 0) = true := by simpa using h3
    go_enter Try.func31, Try.ntmps31
    go_wp2_with fail
    refine (ValidPairI_any _ _ _).mono ?_
    rw [h]
    rintro e w1 ⟨rfl, hb⟩
    go_wp2_with fail
    refine (isBetween_any _ _ _ _).mono ?_
    rw [h2]
    rintro e w2 ⟨rfl, rfl⟩
    go_wp2_with fail
    go_ret2
    exact ⟨rfl, bT L0.out hb⟩
set_option maxHeartbeats 2000000 in
theorem CentreDistanceS_any (x y m : Int) (w : World) :
    Calls Try.prog 29 #[.agg #[.int .i64 x, .int .i64 y], .int .i64 m] w (TwoI (cdN x y m) (cdC x y m) w) := by
  have L0 := Lib.hid (bA (bR w) (.cells #[.int .i64 x, .int .i64 y] 54))
  cases h : okP (x, y)
  · rw [(cd_1 h).1, (cd_1 h).2]
    go_enter Try.func29, Try.ntmps29
    go_wp2_with fail
    refine (ValidPairS_any _ _ _).mono ?_
    rw [h]
    rintro e w1 ⟨rfl, hb⟩
    go_wp2_with fail
    go_ret2
    exact ⟨rfl, bT L0.out hb⟩
  cases h2 : inB m 2 200
  · rw [(cd_2 h h2).1, (cd_2 h h2).2]
    go_enter Try.func29, Try.ntmps29
    go_wp2_with fail
    refine (ValidPairS_any _ _ _).mono ?_
    rw [h]
    rintro e w1 ⟨rfl, hb⟩
    go_wp2_with fail
    refine (l00In_any _ _ _ _).mono ?_
    rw [h2]
    rintro e w2 ⟨rfl, rfl⟩
    go_wp2_with fail
    go_ret2
    exact ⟨rfl, bT L0.out hb⟩
  have k2 := inB_true.1 h2
  have t1 : m.tmod 2 = m % 2 := Int.tmod_eq_emod_of_nonneg (by omega)
  have t2 : m.tdiv 2 = m / 2 := Int.tdiv_eq_ediv_of_nonneg (by omega)
  by_cases h3 : m % 2 = 0
  · rw [(cd_4 h h2 h3).1, (cd_4 h h2 h3).2]
    obtain ⟨a1, a2, a3, a4⟩ := okP_bd h
    simp only at a1 a2 a3 a4
    have hm := mul_bdC (x := m / 2) (y := x + y) (by omega) (by omega) (by omega) (by omega)
    have X := Lib.hid (Box2.new w x y 54)
    go_enter Try.func29, Try.ntmps29
    go_wp2_with fail
    refine (ValidPairS_any _ _ _).mono ?_
    rw [h]
    rintro e w1 ⟨rfl, hb⟩
    obtain ⟨x0, x1, _, _, x4⟩ := X.out.keep hb
    have L1 := Lib.hid (bT L0.out hb)
    clear hb
    go_wp2_with fail
    refine (l00In_any _ _ _ _).mono ?_
    rw [h2]
    rintro e w2 ⟨rfl, rfl⟩
    go_wp2_with fail
    go_ret2
    exact ⟨rfl, L1.out⟩
  · rw [(cd_3 h h3).1, (cd_3 h h3).2]
    have hz : (m % 2 == 0) = false := by simpa using h3
    have hz2 : (m % 2 != 0) = true := by simpa using h3
    go_enter Try.func29, Try.ntmps29
    go_wp2_with fail
    refine (ValidPairS_any _ _ _).mono ?_
    rw [h]
    rintro e w1 ⟨rfl, hb⟩
    go_wp2_with fail
    refine (l00In_any _ _ _ _).mono ?_
    rw [h2]
    rintro e w2 ⟨rfl, rfl⟩
    go_wp2_with fail
    go_ret2
    exact ⟨rfl, bT L0.out hb⟩
set_option maxHeartbeats 1000000 in
theorem FnExactCentreDistance_walk (x y m : Int) (w : World) (_h1 : -9223372036854775808 ≤ x ∧ x ≤ 9223372036854775807) (_h2 : -9223372036854775808 ≤ y ∧ y ≤ 9223372036854775807) (_h3 : -9223372036854775808 ≤ m ∧ m ≤ 9223372036854775807) :
    Calls Try.prog 8 #[.agg #[.int .i64 x, .int .i64 y], .int .i64 m] w fun e w' => e = .returned (.bool true) ∧ Below w.heap.size w w' := by
  clear _h1 _h2 _h3
  generalize hr : cdN x y m = r
  have HR := Lib.hid hr
  generalize hs : cdC x y m = s
  have HS := Lib.hid hs
  clear hr hs
  have n1 : (r != r) = false := by simp
  have n2 : (s != s) = false := by simp
  go_enter Try.func8, Try.ntmps8
  go_wp2_with fail
  refine (toPair_any _ _ _).mono ?_
  rintro e w1 ⟨rfl, hb1⟩
  have B1 := Lib.hid ((Box2.new w x y 52).keep hb1)
  have L1 := Lib.hid (bT (bA (bR w) _) hb1)
  clear hb1
  go_wp2_with fail
  refine (CentreDistanceS_any _ _ _ _).mono ?_
  rw [HR.out, HS.out]
  rintro e w2 ⟨rfl, hb2⟩
  have B2 := Lib.hid (B1.out.keep hb2)
  have L2 := Lib.hid (bT L1.out hb2)
  clear hb2 B1 L1
  obtain ⟨c0, c1, c2, c3, c4⟩ := B2.out
  go_wp2_with fail
  refine (toPair_any _ _ _).mono ?_
  rintro e w3 ⟨rfl, hb3⟩
  have L3 := Lib.hid (bT L2.out hb3)
  clear hb3 L2
  go_wp2_with fail
  refine (CentreDistanceI_any _ _ _ _).mono ?_
  rw [HR.out, HS.out]
  rintro e w4 ⟨rfl, hb4⟩
  have L4 := Lib.hid (bT L3.out hb4)
  clear hb4 L3 B2 c0 c1 c2 c3 c4
  go_wp2_with fail
  go_ret
  exact ⟨rfl, L4.out⟩
end Go.Proofs.Ytmdfhmoipgaliaa

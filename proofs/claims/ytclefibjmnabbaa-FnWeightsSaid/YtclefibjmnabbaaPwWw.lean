/-
  The walk of laws.FnWeights.
-/
import Derived.Test.YtclefibjmnabbaaPwW
import Derived.Test.YtclefibjmnabbaaBnR
import Derived.Test.YtclefibjmnabbaaRoll
namespace Go.Proofs.Ytclefibjmnabbaa
open Go.RowKit

theorem f6big_w (a : Option Addr) (len cap : Nat) (w : World) (_h : len ≤ 9223372036854775807) :
    Calls Try.prog 24 #[.slice a len cap] w fun e w' => e = .returned (.bool (decide (4096 < (len : Int)))) ∧ w = w' := by
  go_enter Try.func24, Try.ntmps24
  go_wp2_with fail
  go_ret
  exact ⟨rfl, rfl⟩
theorem we_law {m r z0 z1 : Int} (h : weE m r = (z0, z1)) : (z1 == 0) = false ∨ ((z1 == 0) = true ∧ (0 ≤ z0 ∧ z0 ≤ 2000000000) ∧ IntKind.i64.wrap (z0 * r) = z0 * r ∧ m ≤ z0 * r ∧ IntKind.i64.wrap ((z0 - 1) * r) = (z0 - 1) * r ∧ (z0 - 1) * r < m) := by
  cases h1 : inB m 0 1000000000
  · rw [weE_1 h1] at h; cases h; exact .inl rfl
  cases h2 : inB r 1 10000
  · rw [weE_2 h1 h2] at h; cases h; exact .inl rfl
  rw [weE_0 h1 h2] at h
  have hm := inB_true.1 h1
  have hr := inB_true.1 h2
  have e := Int.mul_ediv_add_emod (m + r - 1) r
  have r0 := Int.emod_nonneg (m + r - 1) (show r ≠ 0 by omega)
  have r1 := Int.emod_lt_of_pos (m + r - 1) (show 0 < r by omega)
  have q0 := Int.ediv_nonneg (show 0 ≤ m + r - 1 by omega) (show 0 ≤ r by omega)
  have q1 := Int.ediv_le_self r (show 0 ≤ m + r - 1 by omega)
  generalize (m + r - 1) % r = s at *
  generalize (m + r - 1) / r = q at *
  cases h
  have c1 : z0 * r = r * z0 := Int.mul_comm z0 r
  have c2 : (z0 - 1) * r = r * z0 - r := by rw [Int.sub_mul, Int.one_mul, c1]
  rw [c1, c2]
  generalize r * z0 = t at *
  exact .inr ⟨rfl, by omega, IntWalk.i64_in _ (by omega), by omega, IntWalk.i64_in _ (by omega), by omega⟩
theorem dy_law {x n d z0 z1 : Int} (h : dyE x n d = (z0, z1)) : (z1 != 0) = true ∨ ((z1 != 0) = false ∧ (0 ≤ z0 ∧ z0 ≤ 2000000000000) ∧ IntKind.i64.wrap (z0 * 100 * n) = z0 * 100 * n ∧ IntKind.i64.wrap (x * d) = x * d ∧ IntKind.i64.wrap ((z0 + 1) * 100 * n) = (z0 + 1) * 100 * n ∧ z0 * 100 * n ≤ x * d ∧ x * d < (z0 + 1) * 100 * n) := by
  cases h1 : okR n d
  · rw [dyE_1 h1] at h; cases h; exact .inl rfl
  cases h2 : inB x 0 2000
  · rw [dyE_2 h1 h2] at h; cases h; exact .inl rfl
  by_cases h3 : n ≤ 0
  · rw [dyE_6 h1 h2 h3] at h; cases h; exact .inl rfl
  rw [dyE_0 h1 h2 h3] at h
  obtain ⟨a1, a2, a3, a4⟩ := okR_bd h1
  have hx := inB_true.1 h2
  have hp := mul_bd0 (x := x) (y := d) (a := 2000) (b := 1000000000) (by omega) (by omega) (by omega) (by omega)
  generalize x * d = y at *
  have e := Int.mul_ediv_add_emod y (100 * n)
  have r0 := Int.emod_nonneg y (show 100 * n ≠ 0 by omega)
  have r1 := Int.emod_lt_of_pos y (show 0 < 100 * n by omega)
  have q0 := Int.ediv_nonneg hp.1 (show 0 ≤ 100 * n by omega)
  have q1 := Int.ediv_le_self (100 * n) hp.1
  generalize y % (100 * n) = s at *
  generalize y / (100 * n) = q at *
  cases h
  have c1 : z0 * 100 * n = 100 * n * z0 := by rw [Int.mul_assoc, Int.mul_comm z0]
  have c2 : (z0 + 1) * 100 * n = 100 * n * z0 + 100 * n := by rw [Int.mul_assoc, Int.add_mul, Int.one_mul, Int.mul_comm z0]
  rw [c1, c2]
  generalize 100 * n * z0 = t at *
  exact .inr ⟨rfl, by omega, IntWalk.i64_in _ (by omega), IntWalk.i64_in _ (by omega), IntWalk.i64_in _ (by omega), by omega, by omega⟩
set_option maxRecDepth 100000 in
set_option maxHeartbeats 8000000 in
theorem FnWeights_walk (a : Option Addr) (len cap : Nat) (zs : List Int) (w : World) (h : IsRow .u8 w a len cap zs) :
    Calls Try.prog 8 #[.slice a len cap] w fun e w' => e = .returned (.bool true) ∧ Below w.heap.size w w' := by
  have l1 := (row_of h).1
  unfold maxLen at l1
  have HA := Lib.hid h
  clear h
  by_cases hl : 4096 < len
  · have hd : decide (4096 < (len : Int)) = true := decide_eq_true (by omega)
    go_enter Try.func8, Try.ntmps8
    go_wp2_with fail
    refine (f6big_w _ _ _ _ (by omega)).mono ?_
    rw [hd]
    rintro e w1 ⟨rfl, rfl⟩
    go_wp2_with fail
    go_ret
    exact ⟨rfl, bR _⟩
  have hd : decide (4096 < (len : Int)) = false := decide_eq_false (by omega)
  go_enter Try.func8, Try.ntmps8
  go_wp2_with fail
  refine (f6big_w _ _ _ _ (by omega)).mono ?_
  rw [hd]
  rintro e w1 ⟨rfl, rfl⟩
  clear hd hl l1
  go_wp2_with fail
  refine (DrawWeightFor_any w a len cap zs HA.out).mono ?_
  rintro e w1 ⟨m, r, rfl, hb⟩
  have L1 := Lib.hid hb
  have HA1 := Lib.hid (HA.out.keep hb)
  clear hb HA
  have CS := Lib.hid (fun W => WeightForS_any m r W)
  have CI := Lib.hid (fun W => WeightForI_any m r W)
  have WL := Lib.hid (fun z0 z1 => we_law (m := m) (r := r) (z0 := z0) (z1 := z1))
  generalize weE m r = z at *
  obtain ⟨z0, z1⟩ := z
  simp only at CS CI
  have n0 : (z0 != z0) = false := by simp
  have n1 : (z1 != z1) = false := by simp
  go_wp2_with fail
  refine (CI.out _).mono ?_
  rintro e w2 ⟨rfl, hb⟩
  have L2 := Lib.hid (bT L1.out hb)
  have HA2 := Lib.hid (HA1.out.keep hb)
  clear hb L1 HA1
  go_wp2_with fail
  refine (CS.out _).mono ?_
  rintro e w3 ⟨rfl, hb⟩
  have L3 := Lib.hid (bT L2.out hb)
  have HA3 := Lib.hid (HA2.out.keep hb)
  clear hb L2 HA2 CS CI
  go_wp2_with fail
  refine (DrawDaysOf_any w3 a len cap zs HA3.out).mono ?_
  rintro e w4 ⟨x, n, d, rfl, hb⟩
  have L4 := Lib.hid (bA (bT L3.out hb) (.cells #[.int .i64 n, .int .i64 d] 59))
  have B4 := Lib.hid (BoxL.new w4 [.int .i64 n, .int .i64 d] 59)
  clear hb L3 HA3
  have CS := Lib.hid (fun W => DaysOfS_any x n d W)
  have CI := Lib.hid (fun W => DaysOfI_any x n d W)
  have DL := Lib.hid (fun z0 z1 => dy_law (x := x) (n := n) (d := d) (z0 := z0) (z1 := z1))
  generalize dyE x n d = y at *
  obtain ⟨y0, y1⟩ := y
  simp only at CS CI
  have n2 : (y0 != y0) = false := by simp
  have n3 : (y1 != y1) = false := by simp
  go_wp2_with fail
  generalize w4.alloc (.cells #[.int .i64 n, .int .i64 d] 59) = W4 at *
  generalize w4.heap.size = b4 at *
  refine (CI.out _).mono ?_
  rintro e w5 ⟨rfl, hb⟩
  have L5 := Lib.hid (bT L4.out hb)
  have B5 := Lib.hid (B4.out.keep hb)
  clear hb L4 B4
  obtain ⟨c0, c1, c2⟩ := B5.out.c2
  go_wp2_with fail
  refine (CS.out _).mono ?_
  rintro e w6 ⟨rfl, hb⟩
  have L6 := Lib.hid (bT L5.out hb)
  have B6 := Lib.hid (B5.out.keep hb)
  clear hb L5 B5 CS CI c0 c1 c2
  obtain ⟨c0, c1, c2⟩ := B6.out.c2
  rcases WL.out _ _ rfl with hz | ⟨hz, hz1, g1, g2, g3, g4⟩
  · rcases DL.out _ _ rfl with hy | ⟨hy, hy1, j1, j2, j3, j4, j5⟩
    · clear WL DL
      go_wp2_with fail
      go_ret
      exact ⟨rfl, L6.out⟩
    · clear WL DL
      go_wp2_with fail
      go_ret
      exact ⟨rfl, L6.out⟩
  · have g2' : ¬ z0 * r < m := by omega
    have g4' : ¬ m ≤ (z0 - 1) * r := by omega
    by_cases hz0 : 0 < z0
    · rcases DL.out _ _ rfl with hy | ⟨hy, hy1, j1, j2, j3, j4, j5⟩
      · clear WL DL
        go_wp2_with fail
        go_ret
        exact ⟨rfl, L6.out⟩
      · clear WL DL
        go_wp2_with fail
        go_ret
        exact ⟨rfl, L6.out⟩
    · rcases DL.out _ _ rfl with hy | ⟨hy, hy1, j1, j2, j3, j4, j5⟩
      · clear WL DL
        go_wp2_with fail
        go_ret
        exact ⟨rfl, L6.out⟩
      · clear WL DL
        go_wp2_with fail
        go_ret
        exact ⟨rfl, L6.out⟩
end Go.Proofs.Ytclefibjmnabbaa

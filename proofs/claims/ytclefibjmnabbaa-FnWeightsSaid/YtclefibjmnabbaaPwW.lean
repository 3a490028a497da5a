/-
  Weights and days: both sides.
-/
import Derived.Test.YtclefibjmnabbaaPwM
import Derived.Test.YtclefibjmnabbaaPi
import Derived.Test.YtclefibjmnabbaaNear
import Derived.Test.YtclefibjmnabbaaRaO
import Derived.Test.YtclefibjmnabbaaWValidRatio
namespace Go.Proofs.Ytclefibjmnabbaa
open Go.RowKit

theorem upq_is {m r : Int} (hr : 1 ≤ r) : upq m r = (m + r - 1) / r := by
  have e := Int.mul_ediv_add_emod (m + r - 1) r
  have r0 := Int.emod_nonneg (m + r - 1) (show r ≠ 0 by omega)
  have r1 := Int.emod_lt_of_pos (m + r - 1) (show 0 < r by omega)
  generalize (m + r - 1) / r = q at *
  generalize (m + r - 1) % r = s at *
  have e3 : r * (-q) = -(r * q) := Int.mul_neg r q
  unfold upq
  rw [div_is (b := r) (q := -q) (r := r - 1 - s) (by omega) (by omega) (by omega) (by omega)]
  omega
set_option maxHeartbeats 1000000 in
theorem WeightForS_any (m r : Int) (w : World) :
    Calls Try.prog 36 #[.int .i64 m, .int .i64 r] w (TwoN (weE m r).1 (weE m r).2 w) := by
  cases h1 : inB m 0 1000000000
  · rw [weE_1 h1]
    go_enter Try.func36, Try.ntmps36
    go_wp2_with (go_at_call 41; refine (l00In_any _ _ _ _).mono ?_; rintro e w1 ⟨rfl, rfl⟩)
    go_ret2
    exact ⟨rfl, bR _⟩
  cases h2 : inB r 1 10000
  · rw [weE_2 h1 h2]
    go_enter Try.func36, Try.ntmps36
    go_wp2_with (go_at_call 41; refine (l00In_any _ _ _ _).mono ?_; rintro e w1 ⟨rfl, rfl⟩)
    go_ret2
    exact ⟨rfl, bR _⟩
  rw [weE_0 h1 h2]
  have hm := inB_true.1 h1
  have hr := inB_true.1 h2
  have hz : (r == 0) = false := by simp; omega
  have q0 := Int.ediv_nonneg (show 0 ≤ m + r - 1 by omega) (show 0 ≤ r by omega)
  have q1 := Int.ediv_le_self r (show 0 ≤ m + r - 1 by omega)
  go_enter Try.func36, Try.ntmps36
  go_wp2_with (go_at_call 41; refine (l00In_any _ _ _ _).mono ?_; rintro e w1 ⟨rfl, rfl⟩)
  go_ret2
  exact ⟨rfl, bR _⟩
set_option maxHeartbeats 1000000 in
theorem DaysOfS_any (x n d : Int) (w : World) :
    Calls Try.prog 39 #[.int .i64 x, .agg #[.int .i64 n, .int .i64 d]] w (TwoN (dyE x n d).1 (dyE x n d).2 w) := by
  have CO := Lib.hid (fun W => l02Ok_any n d W)
  have B0 := Lib.hid (BoxL.new w [.int .i64 n, .int .i64 d] 59)
  have L0 := Lib.hid (bA (bR w) (.cells #[.int .i64 n, .int .i64 d] 59))
  cases h1 : okR n d
  · rw [dyE_1 h1]
    rw [h1] at CO
    go_enter Try.func39, Try.ntmps39
    go_wp2_with fail
    refine (CO.out _).mono ?_
    rintro e w1 ⟨rfl, hb⟩
    have B1 := Lib.hid (B0.out.keep hb)
    have L1 := Lib.hid (bT L0.out hb)
    clear hb B0 L0
    obtain ⟨c0, c1, c2⟩ := B1.out.c2
    go_wp2_with fail
    go_ret2
    exact ⟨rfl, L1.out⟩
  rw [h1] at CO
  obtain ⟨a1, a2, a3, a4⟩ := okR_bd h1
  cases h2 : inB x 0 2000
  · rw [dyE_2 h1 h2]
    go_enter Try.func39, Try.ntmps39
    go_wp2_with fail
    refine (CO.out _).mono ?_
    rintro e w1 ⟨rfl, hb⟩
    have B1 := Lib.hid (B0.out.keep hb)
    have L1 := Lib.hid (bT L0.out hb)
    clear hb B0 L0
    obtain ⟨c0, c1, c2⟩ := B1.out.c2
    go_wp2_with (go_at_call 41; refine (l00In_any _ _ _ _).mono ?_; rintro e w1 ⟨rfl, rfl⟩)
    go_ret2
    exact ⟨rfl, L1.out⟩
  have hx := inB_true.1 h2
  by_cases h3 : n ≤ 0
  · rw [dyE_6 h1 h2 h3]
    go_enter Try.func39, Try.ntmps39
    go_wp2_with fail
    refine (CO.out _).mono ?_
    rintro e w1 ⟨rfl, hb⟩
    have B1 := Lib.hid (B0.out.keep hb)
    have L1 := Lib.hid (bT L0.out hb)
    clear hb B0 L0
    obtain ⟨c0, c1, c2⟩ := B1.out.c2
    go_wp2_with (go_at_call 41; refine (l00In_any _ _ _ _).mono ?_; rintro e w1 ⟨rfl, rfl⟩)
    go_ret2
    exact ⟨rfl, L1.out⟩
  rw [dyE_0 h1 h2 h3]
  have hp := mul_bd0 (x := x) (y := d) (a := 2000) (b := 1000000000) (by omega) (by omega) (by omega) (by omega)
  have q0 := Int.ediv_nonneg hp.1 (show 0 ≤ 100 * n by omega)
  have q1 := Int.ediv_le_self (100 * n) hp.1
  have hz : (100 * n == 0) = false := by simp; omega
  have g1 : IntKind.i64.wrap (x * d) = x * d := IntWalk.i64_in _ (by omega)
  have g2 : IntKind.i64.wrap (100 * n) = 100 * n := IntWalk.i64_in _ (by omega)
  go_enter Try.func39, Try.ntmps39
  go_wp2_with fail
  refine (CO.out _).mono ?_
  rintro e w1 ⟨rfl, hb⟩
  have B1 := Lib.hid (B0.out.keep hb)
  have L1 := Lib.hid (bT L0.out hb)
  clear hb B0 L0
  obtain ⟨c0, c1, c2⟩ := B1.out.c2
  go_wp2_with (go_at_call 41; refine (l00In_any _ _ _ _).mono ?_; rintro e w1 ⟨rfl, rfl⟩)
  go_ret2
  exact ⟨rfl, by first | exact L1.out | exact bD L1.out _⟩
set_option maxHeartbeats 1000000 in
theorem WeightForI_any (m r : Int) (w : World) :
    Calls Try.prog 35 #[.int .i64 m, .int .i64 r] w (TwoN (weE m r).1 (weE m r).2 w) := by
  cases h1 : inB m 0 1000000000
  · rw [weE_1 h1]
    go_enter Try.func35, Try.ntmps35
    go_wp2_with (go_at_call 54; refine (isBetween_any _ _ _ _).mono ?_; rintro e w1 ⟨rfl, rfl⟩)
    go_ret2
    exact ⟨rfl, bR _⟩
  cases h2 : inB r 1 10000
  · rw [weE_2 h1 h2]
    go_enter Try.func35, Try.ntmps35
    go_wp2_with (go_at_call 54; refine (isBetween_any _ _ _ _).mono ?_; rintro e w1 ⟨rfl, rfl⟩)
    go_ret2
    exact ⟨rfl, bR _⟩
  rw [weE_0 h1 h2]
  have hm := inB_true.1 h1
  have hr := inB_true.1 h2
  have HQ := Lib.hid (upq_is (m := m) (r := r) (by omega))
  go_enter Try.func35, Try.ntmps35
  go_wp2_with (go_at_call 54; refine (isBetween_any _ _ _ _).mono ?_; rintro e w1 ⟨rfl, rfl⟩)
  refine (quoU_any _ _ _ (by omega) (by omega) (by omega)).mono ?_
  rintro e w1 ⟨rfl, rfl⟩
  go_wp2_with fail
  go_ret2
  exact ⟨ret_two HQ.out rfl, bR _⟩
set_option maxHeartbeats 1000000 in
theorem DaysOfI_any (x n d : Int) (w : World) :
    Calls Try.prog 38 #[.int .i64 x, .agg #[.int .i64 n, .int .i64 d]] w (TwoN (dyE x n d).1 (dyE x n d).2 w) := by
  have CO := Lib.hid (fun W => ValidRatioI_any n d W)
  have B0 := Lib.hid (BoxL.new w [.int .i64 n, .int .i64 d] 59)
  have L0 := Lib.hid (bA (bR w) (.cells #[.int .i64 n, .int .i64 d] 59))
  cases h1 : okR n d
  · rw [dyE_1 h1]
    rw [h1] at CO
    go_enter Try.func38, Try.ntmps38
    go_wp2_with fail
    refine (CO.out _).mono ?_
    rintro e w1 ⟨rfl, hb⟩
    have B1 := Lib.hid (B0.out.keep hb)
    have L1 := Lib.hid (bT L0.out hb)
    clear hb B0 L0
    obtain ⟨c0, c1, c2⟩ := B1.out.c2
    go_wp2_with fail
    go_ret2
    exact ⟨rfl, L1.out⟩
  rw [h1] at CO
  obtain ⟨a1, a2, a3, a4⟩ := okR_bd h1
  cases h2 : inB x 0 2000
  · rw [dyE_2 h1 h2]
    go_enter Try.func38, Try.ntmps38
    go_wp2_with fail
    refine (CO.out _).mono ?_
    rintro e w1 ⟨rfl, hb⟩
    have B1 := Lib.hid (B0.out.keep hb)
    have L1 := Lib.hid (bT L0.out hb)
    clear hb B0 L0
    obtain ⟨c0, c1, c2⟩ := B1.out.c2
    go_wp2_with (go_at_call 54; refine (isBetween_any _ _ _ _).mono ?_; rintro e w1 ⟨rfl, rfl⟩)
    go_ret2
    exact ⟨rfl, L1.out⟩
  have hx := inB_true.1 h2
  by_cases h3 : n ≤ 0
  · rw [dyE_6 h1 h2 h3]
    go_enter Try.func38, Try.ntmps38
    go_wp2_with fail
    refine (CO.out _).mono ?_
    rintro e w1 ⟨rfl, hb⟩
    have B1 := Lib.hid (B0.out.keep hb)
    have L1 := Lib.hid (bT L0.out hb)
    clear hb B0 L0
    obtain ⟨c0, c1, c2⟩ := B1.out.c2
    go_wp2_with (go_at_call 54; refine (isBetween_any _ _ _ _).mono ?_; rintro e w1 ⟨rfl, rfl⟩)
    go_ret2
    exact ⟨rfl, L1.out⟩
  rw [dyE_0 h1 h2 h3]
  have hp := mul_bd0 (x := x) (y := d) (a := 2000) (b := 1000000000) (by omega) (by omega) (by omega) (by omega)
  have q0 := Int.ediv_nonneg hp.1 (show 0 ≤ 100 * n by omega)
  have q1 := Int.ediv_le_self (100 * n) hp.1
  have hz : (100 * n == 0) = false := by simp; omega
  have g1 : IntKind.i64.wrap (x * d) = x * d := IntWalk.i64_in _ (by omega)
  have g2 : IntKind.i64.wrap (100 * n) = 100 * n := IntWalk.i64_in _ (by omega)
  go_enter Try.func38, Try.ntmps38
  go_wp2_with fail
  refine (CO.out _).mono ?_
  rintro e w1 ⟨rfl, hb⟩
  have B1 := Lib.hid (B0.out.keep hb)
  have L1 := Lib.hid (bT L0.out hb)
  clear hb B0 L0
  obtain ⟨c0, c1, c2⟩ := B1.out.c2
  go_wp2_with (go_at_call 54; refine (isBetween_any _ _ _ _).mono ?_; rintro e w1 ⟨rfl, rfl⟩)
  refine (floorOf_any _ _ _ (by omega) (by omega) (by omega)).mono ?_
  rintro e w1 ⟨rfl, rfl⟩
  go_wp2_with fail
  go_ret2
  exact ⟨rfl, by first | exact L1.out | exact bD L1.out _⟩
end Go.Proofs.Ytclefibjmnabbaa

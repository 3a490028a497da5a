/-
  The walks of laws.FnExactWeightFor, FnExactDaysOf.
-/
import Derived.Test.YtdjnopffglcfmaaPwW
namespace Go.Proofs.Ytdjnopffglcfmaa
open Go.RowKit

set_option maxHeartbeats 1000000 in
theorem FnExactWeightFor_walk (m r : Int) (w : World) (_h1 : -9223372036854775808 ≤ m ∧ m ≤ 9223372036854775807) (_h2 : -9223372036854775808 ≤ r ∧ r ≤ 9223372036854775807) :
    Calls Try.prog 4 #[.int .i64 m, .int .i64 r] w fun e w' => e = .returned (.bool true) ∧ Below w.heap.size w w' := by
  clear _h1 _h2
  have CS := Lib.hid (fun W => WeightForS_any m r W)
  have CI := Lib.hid (fun W => WeightForI_any m r W)
  generalize weE m r = z at *
  obtain ⟨z0, z1⟩ := z
  simp only at CS CI
  have n0 : (z0 != z0) = false := by simp
  have n1 : (z1 != z1) = false := by simp
  go_enter Try.func4, Try.ntmps4
  go_wp2_with fail
  refine (CS.out _).mono ?_
  rintro en w1 ⟨rfl, hb⟩
  have L1 := Lib.hid hb
  clear hb
  go_wp2_with fail
  refine (CI.out _).mono ?_
  rintro en w2 ⟨rfl, hb⟩
  have L2 := Lib.hid (bT L1.out hb)
  clear hb
  go_wp2_with fail
  go_ret
  exact ⟨rfl, L2.out⟩
set_option maxHeartbeats 1000000 in
theorem FnExactDaysOf_walk (x n d : Int) (w : World) (_h1 : -9223372036854775808 ≤ x ∧ x ≤ 9223372036854775807) (_h2 : -9223372036854775808 ≤ n ∧ n ≤ 9223372036854775807) (_h3 : -9223372036854775808 ≤ d ∧ d ≤ 9223372036854775807) :
    Calls Try.prog 5 #[.int .i64 x, .agg #[.int .i64 n, .int .i64 d]] w fun e w' => e = .returned (.bool true) ∧ Below w.heap.size w w' := by
  clear _h1 _h2 _h3
  have CS := Lib.hid (fun W => DaysOfS_any x n d W)
  have CI := Lib.hid (fun W => DaysOfI_any x n d W)
  generalize dyE x n d = z at *
  obtain ⟨z0, z1⟩ := z
  simp only at CS CI
  have n0 : (z0 != z0) = false := by simp
  have n1 : (z1 != z1) = false := by simp
  have B0 := Lib.hid (BoxL.new w [.int .i64 n, .int .i64 d] 37)
  have L0 := Lib.hid (bA (bR w) (.cells #[.int .i64 n, .int .i64 d] 37))
  go_enter Try.func5, Try.ntmps5
  go_wp2_with fail
  refine (toRatio_any _ _ _).mono ?_
  rintro en w1 ⟨rfl, hb⟩
  have B1 := Lib.hid (B0.out.keep hb)
  have L1 := Lib.hid (bT L0.out hb)
  clear hb B0 L0
  go_wp2_with fail
  refine (CS.out _).mono ?_
  rintro en w2 ⟨rfl, hb⟩
  have B2 := Lib.hid (B1.out.keep hb)
  have L2 := Lib.hid (bT L1.out hb)
  clear hb B1 L1
  obtain ⟨c0, c1, c2⟩ := B2.out.c2
  go_wp2_with fail
  refine (toRatio_any _ _ _).mono ?_
  rintro en w3 ⟨rfl, hb⟩
  have L3 := Lib.hid (bT L2.out hb)
  clear hb B2 L2 c0 c1 c2
  go_wp2_with fail
  refine (CI.out _).mono ?_
  rintro en w4 ⟨rfl, hb⟩
  have L4 := Lib.hid (bT L3.out hb)
  clear hb
  go_wp2_with fail
  go_ret
  exact ⟨rfl, L4.out⟩
end Go.Proofs.Ytdjnopffglcfmaa

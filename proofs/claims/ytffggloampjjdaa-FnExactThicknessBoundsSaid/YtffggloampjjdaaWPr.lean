/-
  The walks of laws.FnExactPiBounds, FnExactThicknessBounds, FnExactLeastTeeth, FnExactFitModule.
-/
import Derived.Test.YtffggloampjjdaaTh
import Derived.Test.YtffggloampjjdaaLt
import Derived.Test.YtffggloampjjdaaFm
namespace Go.Proofs.Ytffggloampjjdaa
open Go.RowKit

set_option maxHeartbeats 1000000 in
theorem FnExactPiBounds_walk (n : Int) (w : World) (_hn : -9223372036854775808 ≤ n ∧ n ≤ 9223372036854775807) :
    Calls Try.prog 6 #[.int .i64 n] w fun e w' => e = .returned (.bool true) ∧ Below w.heap.size w w' := by
  have CS := Lib.hid (fun W => PiBoundsS_any n W)
  have CI := Lib.hid (fun W => PiBoundsI_any n W)
  clear _hn
  generalize pbF n = r at *
  obtain ⟨r0, r1, r2⟩ := r
  simp only at CS CI
  have n0 : (r0 != r0) = false := by simp
  have n1 : (r1 != r1) = false := by simp
  have n2 : (r2 != r2) = false := by simp
  have H0 := Lib.hid (bR w)
  go_enter Try.func6, Try.ntmps6
  go_wp2_with fail
  refine (CS.out _).mono ?_
  rintro e w1 ⟨rfl, hb⟩
  have H1 := Lib.hid (bT H0.out hb)
  clear hb
  go_wp2_with fail
  refine (CI.out _).mono ?_
  rintro e w2 ⟨rfl, hb⟩
  have H2 := Lib.hid (bT H1.out hb)
  clear hb
  go_wp2_with fail
  go_ret
  exact ⟨rfl, H2.out⟩
set_option maxHeartbeats 1000000 in
theorem FnExactThicknessBounds_walk (t m k s c h : Int) (b : Int) (w : World) (_hn : -9223372036854775808 ≤ b ∧ b ≤ 9223372036854775807) :
    Calls Try.prog 7 #[.agg #[.int .i64 t, .int .i64 m, .int .i64 k, .int .i64 s, .int .i64 c, .int .i64 h], .int .i64 b] w fun e w' => e = .returned (.bool true) ∧ Below w.heap.size w w' := by
  have CS := Lib.hid (fun W => ThicknessBoundsS_any t m k s c h b W)
  have CI := Lib.hid (fun W => ThicknessBoundsI_any t m k s c h b W)
  clear _hn
  generalize thF t m k s c h b = r at *
  obtain ⟨r0, r1, r2⟩ := r
  simp only at CS CI
  have n0 : (r0 != r0) = false := by simp
  have n1 : (r1 != r1) = false := by simp
  have n2 : (r2 != r2) = false := by simp
  have H0 := Lib.hid (PfH.new w t m k s c h 29)
  go_enter Try.func7, Try.ntmps7
  go_wp2_with fail
  refine (toProfile_any _ _ _ _ _ _ _).mono ?_
  rintro e w1 ⟨rfl, hb⟩
  have H1 := Lib.hid (H0.out.keep hb)
  clear hb
  go_wp2_with fail
  refine (CS.out _).mono ?_
  rintro e w2 ⟨rfl, hb⟩
  have H2 := Lib.hid (H1.out.keep hb)
  clear hb
  obtain ⟨c0, c1, c2, c3, c4, c5, c6, c7⟩ := H2.out
  go_wp2_with fail
  refine (toProfile_any _ _ _ _ _ _ _).mono ?_
  rintro e w3 ⟨rfl, hb⟩
  have H3 := Lib.hid (H2.out.keep hb)
  clear hb
  clear c0 c1 c2 c3 c4 c5 c6 c7
  go_wp2_with fail
  refine (CI.out _).mono ?_
  rintro e w4 ⟨rfl, hb⟩
  have H4 := Lib.hid (H3.out.keep hb)
  clear hb
  go_wp2_with fail
  go_ret
  exact ⟨rfl, H4.out.bel⟩
set_option maxHeartbeats 1000000 in
theorem FnExactLeastTeeth_walk (s c h : Int) (k : Int) (w : World) (_hn : -9223372036854775808 ≤ k ∧ k ≤ 9223372036854775807) :
    Calls Try.prog 8 #[.agg #[.int .i64 s, .int .i64 c, .int .i64 h], .int .i64 k] w fun e w' => e = .returned (.bool true) ∧ Below w.heap.size w w' := by
  have CS := Lib.hid (fun W => LeastTeethS_any s c h k W)
  have CI := Lib.hid (fun W => LeastTeethI_any s c h k W)
  clear _hn
  generalize ltF s c h k = r at *
  obtain ⟨r0, r1⟩ := r
  simp only at CS CI
  have n0 : (r0 != r0) = false := by simp
  have n1 : (r1 != r1) = false := by simp
  have H0 := Lib.hid (AnH.new w s c h 23)
  go_enter Try.func8, Try.ntmps8
  go_wp2_with fail
  refine (toAngle_any _ _ _ _).mono ?_
  rintro e w1 ⟨rfl, hb⟩
  have H1 := Lib.hid (H0.out.keep hb)
  clear hb
  go_wp2_with fail
  refine (CS.out _).mono ?_
  rintro e w2 ⟨rfl, hb⟩
  have H2 := Lib.hid (H1.out.keep hb)
  clear hb
  obtain ⟨c0, c1, c2, c6, c7⟩ := H2.out
  go_wp2_with fail
  refine (toAngle_any _ _ _ _).mono ?_
  rintro e w3 ⟨rfl, hb⟩
  have H3 := Lib.hid (H2.out.keep hb)
  clear hb
  clear c0 c1 c2 c6 c7
  go_wp2_with fail
  refine (CI.out _).mono ?_
  rintro e w4 ⟨rfl, hb⟩
  have H4 := Lib.hid (H3.out.keep hb)
  clear hb
  go_wp2_with fail
  go_ret
  exact ⟨rfl, H4.out.bel⟩
set_option maxHeartbeats 1000000 in
theorem FnExactFitModule_walk (x y : Int) (d : Int) (w : World) (_h1 : -9223372036854775808 ≤ x ∧ x ≤ 9223372036854775807) (_h2 : -9223372036854775808 ≤ y ∧ y ≤ 9223372036854775807) (_hn : -9223372036854775808 ≤ d ∧ d ≤ 9223372036854775807) :
    Calls Try.prog 9 #[.agg #[.int .i64 x, .int .i64 y], .int .i64 d] w fun e w' => e = .returned (.bool true) ∧ Below w.heap.size w w' := by
  have CS := Lib.hid (fun W => FitModuleS_any x y d W)
  have CI := Lib.hid (fun W => FitModuleI_any x y d W)
  clear _h1
  clear _h2
  clear _hn
  generalize fmF x y d = r at *
  obtain ⟨r0, r1⟩ := r
  simp only at CS CI
  have n0 : (r0 != r0) = false := by simp
  have n1 : (r1 != r1) = false := by simp
  have H0 := Lib.hid (PrH.new w x y 46)
  go_enter Try.func9, Try.ntmps9
  go_wp2_with fail
  refine (toPair_any _ _ _).mono ?_
  rintro e w1 ⟨rfl, hb⟩
  have H1 := Lib.hid (H0.out.keep hb)
  clear hb
  go_wp2_with fail
  refine (CS.out _).mono ?_
  rintro e w2 ⟨rfl, hb⟩
  have H2 := Lib.hid (H1.out.keep hb)
  clear hb
  obtain ⟨c0, c1, c6, c7⟩ := H2.out
  go_wp2_with fail
  refine (toPair_any _ _ _).mono ?_
  rintro e w3 ⟨rfl, hb⟩
  have H3 := Lib.hid (H2.out.keep hb)
  clear hb
  clear c0 c1 c6 c7
  go_wp2_with fail
  refine (CI.out _).mono ?_
  rintro e w4 ⟨rfl, hb⟩
  have H4 := Lib.hid (H3.out.keep hb)
  clear hb
  go_wp2_with fail
  go_ret
  exact ⟨rfl, H4.out.bel⟩
end Go.Proofs.Ytffggloampjjdaa


/-
  The walks of laws.FnExactValidAngle, FnExactValidProfile, FnExactDiameters.
-/
import Derived.Test.YtffggloampjjdaaAnI
namespace Go.Proofs.Ytffggloampjjdaa
open Go.RowKit

set_option maxHeartbeats 1000000 in
theorem FnExactValidAngle_walk (s c h : Int) (w : World) :
    Calls Try.prog 3 #[.agg #[.int .i64 s, .int .i64 c, .int .i64 h]] w fun e w' => e = .returned (.bool true) ∧ Below w.heap.size w w' := by
  have CS := Lib.hid (fun W => ValidAngleS_any s c h W)
  have CI := Lib.hid (fun W => ValidAngleI_any s c h W)
  generalize okAn s c h = r at *
  have n0 : (r != r) = false := by simp
  have H0 := Lib.hid (AnH.new w s c h 23)
  go_enter Try.func3, Try.ntmps3
  go_wp2_with fail
  refine (toAngle_any _ _ _ _).mono ?_
  rintro e w1 ⟨rfl, hb⟩
  have H1 := Lib.hid (H0.out.keep hb)
  clear hb
  go_wp2_with fail
  refine (CS.out _).mono ?_
  rintro e w2 ⟨rfl, hb⟩
  have H2 := Lib.hid (H1.out.keep hb)
  clear hb
  obtain ⟨c0, c1, c2, c6, c7⟩ := H2.out
  go_wp2_with fail
  refine (toAngle_any _ _ _ _).mono ?_
  rintro e w3 ⟨rfl, hb⟩
  have H3 := Lib.hid (H2.out.keep hb)
  clear hb
  clear c0 c1 c2 c6 c7
  go_wp2_with fail
  refine (CI.out _).mono ?_
  rintro e w4 ⟨rfl, hb⟩
  have H4 := Lib.hid (H3.out.keep hb)
  clear hb
  go_wp2_with fail
  go_ret
  exact ⟨rfl, H4.out.bel⟩
set_option maxHeartbeats 1000000 in
theorem FnExactValidProfile_walk (t m k s c h : Int) (w : World) :
    Calls Try.prog 4 #[.agg #[.int .i64 t, .int .i64 m, .int .i64 k, .int .i64 s, .int .i64 c, .int .i64 h]] w fun e w' => e = .returned (.bool true) ∧ Below w.heap.size w w' := by
  have CS := Lib.hid (fun W => ValidProfileS_any t m k s c h W)
  have CI := Lib.hid (fun W => ValidProfileI_any t m k s c h W)
  generalize okPf t m k s c h = r at *
  have n0 : (r != r) = false := by simp
  have H0 := Lib.hid (PfH.new w t m k s c h 29)
  go_enter Try.func4, Try.ntmps4
  go_wp2_with fail
  refine (toProfile_any _ _ _ _ _ _ _).mono ?_
  rintro e w1 ⟨rfl, hb⟩
  have H1 := Lib.hid (H0.out.keep hb)
  clear hb
  go_wp2_with fail
  refine (CS.out _).mono ?_
  rintro e w2 ⟨rfl, hb⟩
  have H2 := Lib.hid (H1.out.keep hb)
  clear hb
  obtain ⟨c0, c1, c2, c3, c4, c5, c6, c7⟩ := H2.out
  go_wp2_with fail
  refine (toProfile_any _ _ _ _ _ _ _).mono ?_
  rintro e w3 ⟨rfl, hb⟩
  have H3 := Lib.hid (H2.out.keep hb)
  clear hb
  clear c0 c1 c2 c3 c4 c5 c6 c7
  go_wp2_with fail
  refine (CI.out _).mono ?_
  rintro e w4 ⟨rfl, hb⟩
  have H4 := Lib.hid (H3.out.keep hb)
  clear hb
  go_wp2_with fail
  go_ret
  exact ⟨rfl, H4.out.bel⟩
set_option maxHeartbeats 1000000 in
theorem FnExactDiameters_walk (t m k s c h : Int) (w : World) :
    Calls Try.prog 5 #[.agg #[.int .i64 t, .int .i64 m, .int .i64 k, .int .i64 s, .int .i64 c, .int .i64 h]] w fun e w' => e = .returned (.bool true) ∧ Below w.heap.size w w' := by
  have CS := Lib.hid (fun W => DiametersS_any t m k s c h W)
  have CI := Lib.hid (fun W => DiametersI_any t m k s c h W)
  generalize diF t m k s c h = r at *
  obtain ⟨r0, r1, r2, r3⟩ := r
  simp only at CS CI
  have n0 : (r0 != r0) = false := by simp
  have n1 : (r1 != r1) = false := by simp
  have n2 : (r2 != r2) = false := by simp
  have n3 : (r3 != r3) = false := by simp
  have H0 := Lib.hid (PfH.new w t m k s c h 29)
  go_enter Try.func5, Try.ntmps5
  go_wp2_with fail
  refine (toProfile_any _ _ _ _ _ _ _).mono ?_
  rintro e w1 ⟨rfl, hb⟩
  have H1 := Lib.hid (H0.out.keep hb)
  clear hb
  go_wp2_with fail
  refine (CS.out _).mono ?_
  rintro e w2 ⟨rfl, hb⟩
  have H2 := Lib.hid (H1.out.keep hb)
  clear hb
  obtain ⟨c0, c1, c2, c3, c4, c5, c6, c7⟩ := H2.out
  go_wp2_with fail
  refine (toProfile_any _ _ _ _ _ _ _).mono ?_
  rintro e w3 ⟨rfl, hb⟩
  have H3 := Lib.hid (H2.out.keep hb)
  clear hb
  clear c0 c1 c2 c3 c4 c5 c6 c7
  go_wp2_with fail
  refine (CI.out _).mono ?_
  rintro e w4 ⟨rfl, hb⟩
  have H4 := Lib.hid (H3.out.keep hb)
  clear hb
  go_wp2_with fail
  go_ret
  exact ⟨rfl, H4.out.bel⟩
end Go.Proofs.Ytffggloampjjdaa


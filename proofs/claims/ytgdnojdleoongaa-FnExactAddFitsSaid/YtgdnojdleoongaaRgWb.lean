/-
  The walks of laws.FnExactValidFit, FnExactDailyRate, FnExactOffAt.
-/
import Derived.Test.YtgdnojdleoongaaRgT
namespace Go.Proofs.Ytgdnojdleoongaa
open Go.RowKit

theorem toFitF (f : Ft) (w : World) : Calls Try.prog 20 #[.agg #[.int .i64 f.n, .int .i64 f.x, .int .i64 f.y, .int .i64 f.xx, .int .i64 f.xy]] w fun e w' => e = .returned (.agg #[.int .i64 f.n, .int .i64 f.x, .int .i64 f.y, .int .i64 f.xx, .int .i64 f.xy]) ∧ Below w.heap.size w w' := toFit_any f.n f.x f.y f.xx f.xy w
set_option maxRecDepth 100000 in
set_option maxHeartbeats 4000000 in
theorem FnExactValidFit_walk (n x y xx xy : Int) (w : World) :
    Calls Try.prog 6 #[.agg #[.int .i64 n, .int .i64 x, .int .i64 y, .int .i64 xx, .int .i64 xy]] w fun e w' => e = .returned (.bool true) ∧ Below w.heap.size w w' := by
  have H0 := Lib.hid (FtH.new w ⟨n, x, y, xx, xy⟩ 34)
  have CS := Lib.hid (fun W => ValidFitS_any n x y xx xy W)
  have CI := Lib.hid (fun W => ValidFitI_any n x y xx xy W)
  generalize okFt ⟨n, x, y, xx, xy⟩ = r at *
  have n0 : (r != r) = false := by simp
  go_enter Try.func6, Try.ntmps6
  obtain ⟨c0, c1, c2, c3, c4, c5⟩ := H0.out.1.c5
  go_wp2_with fail
  refine (toFit_any _ _ _ _ _ _).mono ?_
  rintro en w1 ⟨rfl, hb⟩
  have H1 := Lib.hid (H0.out.keep hb)
  clear hb H0 c0 c1 c2 c3 c4 c5
  obtain ⟨c0, c1, c2, c3, c4, c5⟩ := H1.out.1.c5
  go_wp2_with fail
  refine (CS.out _).mono ?_
  rintro en w2 ⟨rfl, hb⟩
  have H2 := Lib.hid (H1.out.keep hb)
  clear hb H1 c0 c1 c2 c3 c4 c5
  obtain ⟨c0, c1, c2, c3, c4, c5⟩ := H2.out.1.c5
  go_wp2_with fail
  refine (toFit_any _ _ _ _ _ _).mono ?_
  rintro en w3 ⟨rfl, hb⟩
  have H3 := Lib.hid (H2.out.keep hb)
  clear hb H2 c0 c1 c2 c3 c4 c5
  obtain ⟨c0, c1, c2, c3, c4, c5⟩ := H3.out.1.c5
  go_wp2_with fail
  refine (CI.out _).mono ?_
  rintro en w4 ⟨rfl, hb⟩
  have H4 := Lib.hid (H3.out.keep hb)
  clear hb H3 c0 c1 c2 c3 c4 c5
  go_wp2_with fail
  go_ret
  exact ⟨rfl, H4.out.2⟩
set_option maxRecDepth 100000 in
set_option maxHeartbeats 4000000 in
theorem FnExactDailyRate_walk (n x y xx xy : Int) (w : World) :
    Calls Try.prog 7 #[.agg #[.int .i64 n, .int .i64 x, .int .i64 y, .int .i64 xx, .int .i64 xy]] w fun e w' => e = .returned (.bool true) ∧ Below w.heap.size w w' := by
  have H0 := Lib.hid (FtH.new w ⟨n, x, y, xx, xy⟩ 34)
  have CS := Lib.hid (fun W => DailyRateS_any ⟨n, x, y, xx, xy⟩ W)
  have CI := Lib.hid (fun W => DailyRateI_any ⟨n, x, y, xx, xy⟩ W)
  simp only at CS CI
  generalize drE ⟨n, x, y, xx, xy⟩ = r at *
  obtain ⟨r0, r1⟩ := r
  simp only at CS CI
  have n0 : (r0 != r0) = false := by simp
  have n1 : (r1 != r1) = false := by simp
  go_enter Try.func7, Try.ntmps7
  obtain ⟨c0, c1, c2, c3, c4, c5⟩ := H0.out.1.c5
  go_wp2_with fail
  refine (toFit_any _ _ _ _ _ _).mono ?_
  rintro en w1 ⟨rfl, hb⟩
  have H1 := Lib.hid (H0.out.keep hb)
  clear hb H0 c0 c1 c2 c3 c4 c5
  obtain ⟨c0, c1, c2, c3, c4, c5⟩ := H1.out.1.c5
  go_wp2_with fail
  refine (CS.out _).mono ?_
  rintro en w2 ⟨rfl, hb⟩
  have H2 := Lib.hid (H1.out.keep hb)
  clear hb H1 c0 c1 c2 c3 c4 c5
  obtain ⟨c0, c1, c2, c3, c4, c5⟩ := H2.out.1.c5
  go_wp2_with fail
  refine (toFit_any _ _ _ _ _ _).mono ?_
  rintro en w3 ⟨rfl, hb⟩
  have H3 := Lib.hid (H2.out.keep hb)
  clear hb H2 c0 c1 c2 c3 c4 c5
  obtain ⟨c0, c1, c2, c3, c4, c5⟩ := H3.out.1.c5
  go_wp2_with fail
  refine (CI.out _).mono ?_
  rintro en w4 ⟨rfl, hb⟩
  have H4 := Lib.hid (H3.out.keep hb)
  clear hb H3 c0 c1 c2 c3 c4 c5
  go_wp2_with fail
  go_ret
  exact ⟨rfl, H4.out.2⟩
set_option maxRecDepth 100000 in
set_option maxHeartbeats 4000000 in
theorem FnExactOffAt_walk (n x y xx xy : Int) (t : Int) (w : World) (_h : -9223372036854775808 ≤ t ∧ t ≤ 9223372036854775807) :
    Calls Try.prog 8 #[.agg #[.int .i64 n, .int .i64 x, .int .i64 y, .int .i64 xx, .int .i64 xy], .int .i64 t] w fun e w' => e = .returned (.bool true) ∧ Below w.heap.size w w' := by
  clear _h
  have H0 := Lib.hid (FtH.new w ⟨n, x, y, xx, xy⟩ 34)
  have CS := Lib.hid (fun W => OffAtS_any ⟨n, x, y, xx, xy⟩ t W)
  have CI := Lib.hid (fun W => OffAtI_any ⟨n, x, y, xx, xy⟩ t W)
  simp only at CS CI
  generalize oaE ⟨n, x, y, xx, xy⟩ t = r at *
  obtain ⟨r0, r1⟩ := r
  simp only at CS CI
  have n0 : (r0 != r0) = false := by simp
  have n1 : (r1 != r1) = false := by simp
  go_enter Try.func8, Try.ntmps8
  obtain ⟨c0, c1, c2, c3, c4, c5⟩ := H0.out.1.c5
  go_wp2_with fail
  refine (toFit_any _ _ _ _ _ _).mono ?_
  rintro en w1 ⟨rfl, hb⟩
  have H1 := Lib.hid (H0.out.keep hb)
  clear hb H0 c0 c1 c2 c3 c4 c5
  obtain ⟨c0, c1, c2, c3, c4, c5⟩ := H1.out.1.c5
  go_wp2_with fail
  refine (CS.out _).mono ?_
  rintro en w2 ⟨rfl, hb⟩
  have H2 := Lib.hid (H1.out.keep hb)
  clear hb H1 c0 c1 c2 c3 c4 c5
  obtain ⟨c0, c1, c2, c3, c4, c5⟩ := H2.out.1.c5
  go_wp2_with fail
  refine (toFit_any _ _ _ _ _ _).mono ?_
  rintro en w3 ⟨rfl, hb⟩
  have H3 := Lib.hid (H2.out.keep hb)
  clear hb H2 c0 c1 c2 c3 c4 c5
  obtain ⟨c0, c1, c2, c3, c4, c5⟩ := H3.out.1.c5
  go_wp2_with fail
  refine (CI.out _).mono ?_
  rintro en w4 ⟨rfl, hb⟩
  have H4 := Lib.hid (H3.out.keep hb)
  clear hb H3 c0 c1 c2 c3 c4 c5
  go_wp2_with fail
  go_ret
  exact ⟨rfl, H4.out.2⟩
end Go.Proofs.Ytgdnojdleoongaa

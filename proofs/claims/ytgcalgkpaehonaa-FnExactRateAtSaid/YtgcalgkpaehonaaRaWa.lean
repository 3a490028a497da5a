/-
  The walks of laws.FnExactValidRate, FnExactRateAt, FnExactOtherTemp.
-/
import Derived.Test.YtgcalgkpaehonaaRaW
import Derived.Test.YtgcalgkpaehonaaRaO
namespace Go.Proofs.Ytgcalgkpaehonaa
open Go.RowKit

set_option maxRecDepth 100000 in
set_option maxHeartbeats 4000000 in
theorem FnExactValidRate_walk (b l c m : Int) (w : World) :
    Calls Try.prog 3 #[.agg #[.int .i64 b, .int .i64 l, .int .i64 c, .int .i64 m]] w fun e w' => e = .returned (.bool true) ∧ Below w.heap.size w w' := by
  have H0 := Lib.hid (RtH.new w b l c m 23)
  have CS := Lib.hid (fun W => ValidRateS_any b l c m W)
  have CI := Lib.hid (fun W => ValidRateI_any b l c m W)
  generalize okRt b l c m = r at *
  have n0 : (r != r) = false := by simp
  go_enter Try.func3, Try.ntmps3
  go_wp2_with fail
  refine (toRate_any _ _ _ _ _).mono ?_
  rintro en w1 ⟨rfl, hb⟩
  have H1 := Lib.hid (H0.out.keep hb)
  clear hb H0
  obtain ⟨c0, c1, c2, c3, c4⟩ := H1.out.1.c4
  go_wp2_with fail
  refine (CS.out _).mono ?_
  rintro en w2 ⟨rfl, hb⟩
  have H2 := Lib.hid (H1.out.keep hb)
  clear hb c0 c1 c2 c3 c4 H1
  obtain ⟨c0, c1, c2, c3, c4⟩ := H2.out.1.c4
  go_wp2_with fail
  refine (toRate_any _ _ _ _ _).mono ?_
  rintro en w3 ⟨rfl, hb⟩
  have H3 := Lib.hid (H2.out.keep hb)
  clear hb c0 c1 c2 c3 c4 H2
  obtain ⟨c0, c1, c2, c3, c4⟩ := H3.out.1.c4
  go_wp2_with fail
  refine (CI.out _).mono ?_
  rintro en w4 ⟨rfl, hb⟩
  have H4 := Lib.hid (H3.out.keep hb)
  clear hb c0 c1 c2 c3 c4 H3
  obtain ⟨c0, c1, c2, c3, c4⟩ := H4.out.1.c4
  go_wp2_with fail
  go_ret
  exact ⟨rfl, H4.out.2⟩
set_option maxRecDepth 100000 in
set_option maxHeartbeats 4000000 in
theorem FnExactRateAt_walk (b l c m : Int) (t : Int) (w : World) (_ht : -9223372036854775808 ≤ t ∧ t ≤ 9223372036854775807) :
    Calls Try.prog 5 #[.agg #[.int .i64 b, .int .i64 l, .int .i64 c, .int .i64 m], .int .i64 t] w fun e w' => e = .returned (.bool true) ∧ Below w.heap.size w w' := by
  clear _ht
  have H0 := Lib.hid (RtH.new w b l c m 23)
  have CS := Lib.hid (fun W => RateAtS_any b l c m t W)
  have CI := Lib.hid (fun W => RateAtI_any b l c m t W)
  generalize raE b l c m t = r at *
  obtain ⟨r0, r1⟩ := r
  simp only at CS CI
  have n0 : (r0 != r0) = false := by simp
  have n1 : (r1 != r1) = false := by simp
  go_enter Try.func5, Try.ntmps5
  go_wp2_with fail
  refine (toRate_any _ _ _ _ _).mono ?_
  rintro en w1 ⟨rfl, hb⟩
  have H1 := Lib.hid (H0.out.keep hb)
  clear hb H0
  obtain ⟨c0, c1, c2, c3, c4⟩ := H1.out.1.c4
  go_wp2_with fail
  refine (CS.out _).mono ?_
  rintro en w2 ⟨rfl, hb⟩
  have H2 := Lib.hid (H1.out.keep hb)
  clear hb c0 c1 c2 c3 c4 H1
  obtain ⟨c0, c1, c2, c3, c4⟩ := H2.out.1.c4
  go_wp2_with fail
  refine (toRate_any _ _ _ _ _).mono ?_
  rintro en w3 ⟨rfl, hb⟩
  have H3 := Lib.hid (H2.out.keep hb)
  clear hb c0 c1 c2 c3 c4 H2
  obtain ⟨c0, c1, c2, c3, c4⟩ := H3.out.1.c4
  go_wp2_with fail
  refine (CI.out _).mono ?_
  rintro en w4 ⟨rfl, hb⟩
  have H4 := Lib.hid (H3.out.keep hb)
  clear hb c0 c1 c2 c3 c4 H3
  obtain ⟨c0, c1, c2, c3, c4⟩ := H4.out.1.c4
  go_wp2_with fail
  go_ret
  exact ⟨rfl, H4.out.2⟩
set_option maxRecDepth 100000 in
set_option maxHeartbeats 4000000 in
theorem FnExactOtherTemp_walk (b l c m : Int) (t : Int) (w : World) (_ht : -9223372036854775808 ≤ t ∧ t ≤ 9223372036854775807) :
    Calls Try.prog 10 #[.agg #[.int .i64 b, .int .i64 l, .int .i64 c, .int .i64 m], .int .i64 t] w fun e w' => e = .returned (.bool true) ∧ Below w.heap.size w w' := by
  clear _ht
  have H0 := Lib.hid (RtH.new w b l c m 23)
  have CS := Lib.hid (fun W => OtherTempS_any b l c m t W)
  have CI := Lib.hid (fun W => OtherTempI_any b l c m t W)
  generalize otE b l c m t = r at *
  obtain ⟨r0, r1⟩ := r
  simp only at CS CI
  have n0 : (r0 != r0) = false := by simp
  have n1 : (r1 != r1) = false := by simp
  go_enter Try.func10, Try.ntmps10
  go_wp2_with fail
  refine (toRate_any _ _ _ _ _).mono ?_
  rintro en w1 ⟨rfl, hb⟩
  have H1 := Lib.hid (H0.out.keep hb)
  clear hb H0
  obtain ⟨c0, c1, c2, c3, c4⟩ := H1.out.1.c4
  go_wp2_with fail
  refine (CS.out _).mono ?_
  rintro en w2 ⟨rfl, hb⟩
  have H2 := Lib.hid (H1.out.keep hb)
  clear hb c0 c1 c2 c3 c4 H1
  obtain ⟨c0, c1, c2, c3, c4⟩ := H2.out.1.c4
  go_wp2_with fail
  refine (toRate_any _ _ _ _ _).mono ?_
  rintro en w3 ⟨rfl, hb⟩
  have H3 := Lib.hid (H2.out.keep hb)
  clear hb c0 c1 c2 c3 c4 H2
  obtain ⟨c0, c1, c2, c3, c4⟩ := H3.out.1.c4
  go_wp2_with fail
  refine (CI.out _).mono ?_
  rintro en w4 ⟨rfl, hb⟩
  have H4 := Lib.hid (H3.out.keep hb)
  clear hb c0 c1 c2 c3 c4 H3
  obtain ⟨c0, c1, c2, c3, c4⟩ := H4.out.1.c4
  go_wp2_with fail
  go_ret
  exact ⟨rfl, H4.out.2⟩
end Go.Proofs.Ytgcalgkpaehonaa


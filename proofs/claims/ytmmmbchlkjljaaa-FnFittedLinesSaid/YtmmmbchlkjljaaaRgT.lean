/-
  Daily rates and values of the fitted line, both sides; the walks of their laws.
-/
import Derived.Test.YtmmmbchlkjljaaaRgP
namespace Go.Proofs.Ytmmmbchlkjljaaa
open Go.RowKit

set_option maxRecDepth 100000 in
set_option maxHeartbeats 4000000 in
theorem lineAt_any (f : Ft) (h : Int) (w : World) (hf : FtB f) (hd : 1 ≤ dF f) (hh : 0 ≤ h ∧ h ≤ 10000) :
    Calls Try.prog 70 #[.agg #[.int .i64 f.n, .int .i64 f.x, .int .i64 f.y, .int .i64 f.xx, .int .i64 f.xy, .int .i64 (nF f), .int .i64 (dF f)], .int .i64 h] w (OneN (oaF f h) w) := by
  obtain ⟨⟨a1, a2⟩, ⟨b1, b2⟩, ⟨d1, d2⟩, e1, e2⟩ := atF_bd hf hh
  have CN := Lib.hid (fun W => nearestw_any (atF f h) (dF f) W hd (by have := hf.d; omega) (by omega) (by omega))
  have e3 : atF f h = f.xx * f.y - f.x * f.xy + nF f * h := rfl
  have e4 : near (atF f h) (dF f) = oaF f h := rfl
  rw [e4] at CN
  rw [e3] at CN e1 e2
  clear e3 e4 hf hd
  generalize oaF f h = z at *
  generalize nF f = a at *
  generalize dF f = d at *
  go_enter Try.func70, Try.ntmps70
  go_wp2_with fail
  refine (CN.out _).mono ?_
  rintro e w1 ⟨rfl, hb⟩
  have L := Lib.hid (bT (bA (bR w) (.cells #[.int .i64 f.n, .int .i64 f.x, .int .i64 f.y, .int .i64 f.xx, .int .i64 f.xy, .int .i64 a, .int .i64 d] 83)) hb)
  clear hb
  go_wp2_with fail
  go_ret
  exact ⟨rfl, L.out⟩
set_option maxRecDepth 100000 in
set_option maxHeartbeats 2000000 in
theorem DailyRateS_any (f : Ft) (w : World) :
    Calls Try.prog 39 #[.agg #[.int .i64 f.n, .int .i64 f.x, .int .i64 f.y, .int .i64 f.xx, .int .i64 f.xy]] w (TwoN (drE f).1 (drE f).2 w) := by
  have H0 := Lib.hid (FtH.new w f 41)
  have CO := Lib.hid (fun W => l14Code_any f W)
  cases h1 : okFt f
  · rw [drE_1 h1]
    rw [lnC_1 h1] at CO
    go_enter Try.func39, Try.ntmps39
    obtain ⟨c0, c1, c2, c3, c4, c5⟩ := H0.out.1.c5
    go_wp2_with fail
    refine (CO.out _).mono ?_
    rintro e w1 ⟨rfl, hb⟩
    have H1 := Lib.hid (H0.out.keep hb)
    clear hb H0 c0 c1 c2 c3 c4 c5
    obtain ⟨c0, c1, c2, c3, c4, c5⟩ := H1.out.1.c5
    go_wp2_with fail
    go_ret2
    exact ⟨rfl, H1.out.2⟩
  by_cases h2 : dF f = 0
  · rw [drE_6 h1 h2]
    rw [lnC_6 h1 h2] at CO
    go_enter Try.func39, Try.ntmps39
    obtain ⟨c0, c1, c2, c3, c4, c5⟩ := H0.out.1.c5
    go_wp2_with fail
    refine (CO.out _).mono ?_
    rintro e w1 ⟨rfl, hb⟩
    have H1 := Lib.hid (H0.out.keep hb)
    clear hb H0 c0 c1 c2 c3 c4 c5
    obtain ⟨c0, c1, c2, c3, c4, c5⟩ := H1.out.1.c5
    go_wp2_with fail
    go_ret2
    exact ⟨rfl, H1.out.2⟩
  rw [lnC_0 h1 h2] at CO
  have hf := okFt_bd h1
  have hd : 1 ≤ dF f := by have := hf.d; omega
  rw [drE_0 h1 h2]
  have CS := Lib.hid (fun W => l14Slope_any f W hf)
  have rb := rate_bd hf
  have CN := Lib.hid (fun W => l14Near_any (24000 * nF f) (dF f) W hd (by have := hf.d; omega) (by omega) (by omega))
  clear hf hd
  generalize near (24000 * nF f) (dF f) = z at *
  generalize nF f = a at *
  generalize dF f = d at *
  go_enter Try.func39, Try.ntmps39
  obtain ⟨c0, c1, c2, c3, c4, c5⟩ := H0.out.1.c5
  go_wp2_with fail
  refine (CO.out _).mono ?_
  rintro e w1 ⟨rfl, hb⟩
  have H1 := Lib.hid (H0.out.keep hb)
  clear hb H0 c0 c1 c2 c3 c4 c5
  obtain ⟨c0, c1, c2, c3, c4, c5⟩ := H1.out.1.c5
  go_wp2_with fail
  refine (CS.out _).mono ?_
  rintro e w2 ⟨rfl, hb⟩
  have H2 := Lib.hid (H1.out.keep hb)
  clear hb H1 c0 c1 c2 c3 c4 c5
  go_wp2_with fail
  refine (CN.out _).mono ?_
  rintro e w3 ⟨rfl, rfl⟩
  go_wp2_with fail
  go_ret2
  exact ⟨rfl, H2.out.2⟩
set_option maxRecDepth 100000 in
set_option maxHeartbeats 2000000 in
theorem OffAtS_any (f : Ft) (t : Int) (w : World) :
    Calls Try.prog 38 #[.agg #[.int .i64 f.n, .int .i64 f.x, .int .i64 f.y, .int .i64 f.xx, .int .i64 f.xy], .int .i64 t] w (TwoN (oaE f t).1 (oaE f t).2 w) := by
  have H0 := Lib.hid (FtH.new w f 41)
  have CO := Lib.hid (fun W => l14Code_any f W)
  cases h1 : okFt f
  · rw [oaE_1 h1]
    rw [lnC_1 h1] at CO
    go_enter Try.func38, Try.ntmps38
    obtain ⟨c0, c1, c2, c3, c4, c5⟩ := H0.out.1.c5
    go_wp2_with fail
    refine (CO.out _).mono ?_
    rintro e w1 ⟨rfl, hb⟩
    have H1 := Lib.hid (H0.out.keep hb)
    clear hb H0 c0 c1 c2 c3 c4 c5
    obtain ⟨c0, c1, c2, c3, c4, c5⟩ := H1.out.1.c5
    go_wp2_with fail
    go_ret2
    exact ⟨rfl, H1.out.2⟩
  by_cases h2 : dF f = 0
  · rw [oaE_6 h1 h2]
    rw [lnC_6 h1 h2] at CO
    go_enter Try.func38, Try.ntmps38
    obtain ⟨c0, c1, c2, c3, c4, c5⟩ := H0.out.1.c5
    go_wp2_with fail
    refine (CO.out _).mono ?_
    rintro e w1 ⟨rfl, hb⟩
    have H1 := Lib.hid (H0.out.keep hb)
    clear hb H0 c0 c1 c2 c3 c4 c5
    obtain ⟨c0, c1, c2, c3, c4, c5⟩ := H1.out.1.c5
    go_wp2_with fail
    go_ret2
    exact ⟨rfl, H1.out.2⟩
  rw [lnC_0 h1 h2] at CO
  have hf := okFt_bd h1
  have hd : 1 ≤ dF f := by have := hf.d; omega
  cases h3 : inB t 0 10000
  · rw [oaE_2 h1 h2 h3]
    go_enter Try.func38, Try.ntmps38
    obtain ⟨c0, c1, c2, c3, c4, c5⟩ := H0.out.1.c5
    go_wp2_with fail
    refine (CO.out _).mono ?_
    rintro e w1 ⟨rfl, hb⟩
    have H1 := Lib.hid (H0.out.keep hb)
    clear hb H0 c0 c1 c2 c3 c4 c5
    obtain ⟨c0, c1, c2, c3, c4, c5⟩ := H1.out.1.c5
    go_wp2_with (go_at_call 52; refine (l00In_any _ _ _ _).mono ?_; rintro e wq ⟨rfl, rfl⟩)
    go_ret2
    exact ⟨rfl, H1.out.2⟩
  rw [oaE_0 h1 h2 h3]
  have CA := Lib.hid (fun W => l14At_any f t W hf hd (inB_true.1 h3))
  clear hf hd
  go_enter Try.func38, Try.ntmps38
  obtain ⟨c0, c1, c2, c3, c4, c5⟩ := H0.out.1.c5
  go_wp2_with fail
  refine (CO.out _).mono ?_
  rintro e w1 ⟨rfl, hb⟩
  have H1 := Lib.hid (H0.out.keep hb)
  clear hb H0 c0 c1 c2 c3 c4 c5
  obtain ⟨c0, c1, c2, c3, c4, c5⟩ := H1.out.1.c5
  go_wp2_with (go_at_call 52; refine (l00In_any _ _ _ _).mono ?_; rintro e wq ⟨rfl, rfl⟩)
  refine (CA.out _).mono ?_
  rintro e w2 ⟨rfl, hb⟩
  have L := Lib.hid (bT H1.out.2 hb)
  clear hb
  go_wp2_with fail
  go_ret2
  exact ⟨rfl, L.out⟩
set_option maxRecDepth 100000 in
set_option maxHeartbeats 4000000 in
theorem DailyRateI_any (f : Ft) (w : World) :
    Calls Try.prog 36 #[.agg #[.int .i64 f.n, .int .i64 f.x, .int .i64 f.y, .int .i64 f.xx, .int .i64 f.xy]] w (TwoN (drE f).1 (drE f).2 w) := by
  have H0 := Lib.hid (FtH.new w f 41)
  cases h1 : okFt f
  · rw [drE_1 h1]
    have CO := Lib.hid (fun W => lineOf_no f W h1)
    go_enter Try.func36, Try.ntmps36
    obtain ⟨c0, c1, c2, c3, c4, c5⟩ := H0.out.1.c5
    go_wp2_with fail
    refine (CO.out _).mono ?_
    rintro e w1 ⟨rfl, hb⟩
    have H1 := Lib.hid (H0.out.keep hb)
    clear hb H0 c0 c1 c2 c3 c4 c5
    go_wp2_with fail
    go_ret2
    exact ⟨rfl, bA H1.out.2 _⟩
  by_cases h2 : dF f = 0
  · rw [drE_6 h1 h2]
    have CO := Lib.hid (fun W => lineOf_flat f W h1 h2)
    go_enter Try.func36, Try.ntmps36
    obtain ⟨c0, c1, c2, c3, c4, c5⟩ := H0.out.1.c5
    go_wp2_with fail
    refine (CO.out _).mono ?_
    rintro e w1 ⟨rfl, hb⟩
    have H1 := Lib.hid (H0.out.keep hb)
    clear hb H0 c0 c1 c2 c3 c4 c5
    go_wp2_with fail
    go_ret2
    exact ⟨rfl, bA H1.out.2 _⟩
  have CO := Lib.hid (fun W => lineOf_yes f W h1 h2)
  have hf := okFt_bd h1
  have hd : 1 ≤ dF f := by have := hf.d; omega
  rw [drE_0 h1 h2]
  have rb := rate_bd hf
  have CN := Lib.hid (fun W => ratePerDay_any (nF f) (dF f) W rb hd (by have := hf.d; omega))
  clear hf hd rb
  unfold LnC at CO
  generalize near (24000 * nF f) (dF f) = z at *
  generalize nF f = a at *
  generalize dF f = d at *
  go_enter Try.func36, Try.ntmps36
  obtain ⟨c0, c1, c2, c3, c4, c5⟩ := H0.out.1.c5
  go_wp2_with fail
  refine (CO.out _).mono ?_
  rintro e w1 ⟨rfl, hb⟩
  have H1 := Lib.hid (H0.out.keep hb)
  clear hb H0 c0 c1 c2 c3 c4 c5
  go_wp2_with fail
  refine (CN.out _).mono ?_
  rintro e w2 ⟨rfl, hb⟩
  have L := Lib.hid (bT (bA H1.out.2 (.cells #[.int .i64 f.n, .int .i64 f.x, .int .i64 f.y, .int .i64 f.xx, .int .i64 f.xy, .int .i64 a, .int .i64 d] 83)) hb)
  clear hb
  go_wp2_with fail
  go_ret2
  exact ⟨rfl, L.out⟩
set_option maxRecDepth 100000 in
set_option maxHeartbeats 4000000 in
theorem OffAtI_any (f : Ft) (t : Int) (w : World) :
    Calls Try.prog 35 #[.agg #[.int .i64 f.n, .int .i64 f.x, .int .i64 f.y, .int .i64 f.xx, .int .i64 f.xy], .int .i64 t] w (TwoN (oaE f t).1 (oaE f t).2 w) := by
  have H0 := Lib.hid (FtH.new w f 41)
  cases h1 : okFt f
  · rw [oaE_1 h1]
    have CO := Lib.hid (fun W => lineOf_no f W h1)
    go_enter Try.func35, Try.ntmps35
    obtain ⟨c0, c1, c2, c3, c4, c5⟩ := H0.out.1.c5
    go_wp2_with fail
    refine (CO.out _).mono ?_
    rintro e w1 ⟨rfl, hb⟩
    have H1 := Lib.hid (H0.out.keep hb)
    clear hb H0 c0 c1 c2 c3 c4 c5
    go_wp2_with fail
    go_ret2
    exact ⟨rfl, bA H1.out.2 _⟩
  by_cases h2 : dF f = 0
  · rw [oaE_6 h1 h2]
    have CO := Lib.hid (fun W => lineOf_flat f W h1 h2)
    go_enter Try.func35, Try.ntmps35
    obtain ⟨c0, c1, c2, c3, c4, c5⟩ := H0.out.1.c5
    go_wp2_with fail
    refine (CO.out _).mono ?_
    rintro e w1 ⟨rfl, hb⟩
    have H1 := Lib.hid (H0.out.keep hb)
    clear hb H0 c0 c1 c2 c3 c4 c5
    go_wp2_with fail
    go_ret2
    exact ⟨rfl, bA H1.out.2 _⟩
  have CO := Lib.hid (fun W => lineOf_yes f W h1 h2)
  have hf := okFt_bd h1
  have hd : 1 ≤ dF f := by have := hf.d; omega
  cases h3 : inB t 0 10000
  · rw [oaE_2 h1 h2 h3]
    go_enter Try.func35, Try.ntmps35
    obtain ⟨c0, c1, c2, c3, c4, c5⟩ := H0.out.1.c5
    go_wp2_with fail
    refine (CO.out _).mono ?_
    rintro e w1 ⟨rfl, hb⟩
    have H1 := Lib.hid (H0.out.keep hb)
    clear hb H0 c0 c1 c2 c3 c4 c5
    go_wp2_with (go_at_call 55; refine (isBetween_any _ _ _ _).mono ?_; rintro e wq ⟨rfl, rfl⟩)
    go_ret2
    exact ⟨rfl, bA H1.out.2 _⟩
  rw [oaE_0 h1 h2 h3]
  have CA := Lib.hid (fun W => lineAt_any f t W hf hd (inB_true.1 h3))
  clear hf hd
  go_enter Try.func35, Try.ntmps35
  obtain ⟨c0, c1, c2, c3, c4, c5⟩ := H0.out.1.c5
  go_wp2_with fail
  refine (CO.out _).mono ?_
  rintro e w1 ⟨rfl, hb⟩
  have H1 := Lib.hid (H0.out.keep hb)
  clear hb H0 c0 c1 c2 c3 c4 c5
  go_wp2_with (go_at_call 55; refine (isBetween_any _ _ _ _).mono ?_; rintro e wq ⟨rfl, rfl⟩)
  refine (CA.out _).mono ?_
  rintro e w2 ⟨rfl, hb⟩
  have L := Lib.hid (bT (bA H1.out.2 (.cells #[.int .i64 f.n, .int .i64 f.x, .int .i64 f.y, .int .i64 f.xx, .int .i64 f.xy, .int .i64 (nF f), .int .i64 (dF f)] 83)) hb)
  clear hb
  go_wp2_with fail
  go_ret2
  exact ⟨rfl, L.out⟩
end Go.Proofs.Ytmmmbchlkjljaaa

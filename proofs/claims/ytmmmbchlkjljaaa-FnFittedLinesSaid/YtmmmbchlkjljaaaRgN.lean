/-
  The fitted line, the document's side: rounding, slope, code, daily rate, value at an hour.
-/
import Derived.Test.YtmmmbchlkjljaaaRgV
import Derived.Test.YtmmmbchlkjljaaaFloor
namespace Go.Proofs.Ytmmmbchlkjljaaa
open Go.RowKit

set_option maxHeartbeats 1000000 in
theorem l14Near_any (n d : Int) (w : World) (hd : 1 ≤ d) (hd2 : d ≤ 100000000000000000) (h1 : -9000000000000000000 ≤ n) (h2 : n ≤ 9000000000000000000) :
    Calls Try.prog 79 #[.int .i64 n, .int .i64 d] w fun e w' => e = .returned (.int .i64 (near n d)) ∧ w = w' := by
  obtain ⟨r1, r2, r3, r4⟩ := near_rest (n := n) hd
  obtain ⟨q1, q2⟩ := quo_le (n := n) hd (show (0 : Int) ≤ 9000000000000000000 by omega) h1 h2
  have HU := Lib.hid (near_up (n := n) hd)
  have HD := Lib.hid (near_dn (n := n) hd)
  generalize near n d = z at *
  have CD := Lib.hid (fun W => l02Down_any n d W (by omega) (by omega) hd)
  generalize n / d = q at *
  have g0 : IntKind.i64.wrap (q * d) = q * d := IntWalk.i64_in _ (by omega)
  by_cases hc : d - (n - q * d) ≤ n - q * d
  · have HE := Lib.hid (HU.out hc)
    have hcb : decide (d - (n - q * d) ≤ n - q * d) = true := by simpa using hc
    clear HU HD
    go_enter Try.func79, Try.ntmps79
    go_wp2_with fail
    refine (CD.out _).mono ?_
    rintro e w2 ⟨rfl, rfl⟩
    go_wp2_with fail
    go_ret
    exact ⟨ret_int HE.out, rfl⟩
  · have HE := Lib.hid (HD.out hc)
    have hcb : decide (d - (n - q * d) ≤ n - q * d) = false := by simpa using hc
    clear HU HD
    go_enter Try.func79, Try.ntmps79
    go_wp2_with fail
    refine (CD.out _).mono ?_
    rintro e w2 ⟨rfl, rfl⟩
    go_wp2_with fail
    go_ret
    exact ⟨ret_int HE.out, rfl⟩
set_option maxHeartbeats 1000000 in
theorem l14Slope_any (f : Ft) (w : World) (hf : FtB f) :
    Calls Try.prog 78 #[.agg #[.int .i64 f.n, .int .i64 f.x, .int .i64 f.y, .int .i64 f.xx, .int .i64 f.xy]] w (TwoN (nF f) (dF f) w) := by
  obtain ⟨h1, h2, h3, h4, h5, h6, h7⟩ := hf
  have a1 := mulB (a := f.n) (b := f.xy) (A := 60) (B := 60000000000) (by omega) (by omega) (by omega) (by omega)
  have a2 := mulB (a := f.x) (b := f.y) (A := 600000) (B := 6000000) (by omega) (by omega) (by omega) (by omega)
  have a3 := mulB (a := f.n) (b := f.xx) (A := 60) (B := 6000000000) (by omega) (by omega) (by omega) (by omega)
  have a4 := mulB (a := f.x) (b := f.x) (A := 600000) (B := 600000) (by omega) (by omega) (by omega) (by omega)
  unfold nF dF at *
  have g1 : IntKind.i64.wrap (f.n * f.xy) = f.n * f.xy := IntWalk.i64_in _ (by omega)
  have g2 : IntKind.i64.wrap (f.x * f.y) = f.x * f.y := IntWalk.i64_in _ (by omega)
  have g3 : IntKind.i64.wrap (f.n * f.xy - f.x * f.y) = f.n * f.xy - f.x * f.y := IntWalk.i64_in _ (by omega)
  have g4 : IntKind.i64.wrap (f.n * f.xx) = f.n * f.xx := IntWalk.i64_in _ (by omega)
  have g5 : IntKind.i64.wrap (f.x * f.x) = f.x * f.x := IntWalk.i64_in _ (by omega)
  have g6 : IntKind.i64.wrap (f.n * f.xx - f.x * f.x) = f.n * f.xx - f.x * f.x := IntWalk.i64_in _ (by omega)
  go_enter Try.func78, Try.ntmps78
  go_wp2_with fail
  go_quiet (fail)
  go_wp2_with fail
  go_ret2
  exact ⟨rfl, bD (bA (bR _) _) _⟩
/-- A box of sums of a call. -/
def FtH (w : World) (f : Ft) (w' : World) : Prop := BoxL w' w.heap.size [.int .i64 f.n, .int .i64 f.x, .int .i64 f.y, .int .i64 f.xx, .int .i64 f.xy] ∧ Below w.heap.size w w'
theorem FtH.new (w : World) (f : Ft) (T : TypeId) : FtH w f (w.alloc (.cells #[.int .i64 f.n, .int .i64 f.x, .int .i64 f.y, .int .i64 f.xx, .int .i64 f.xy] T)) := ⟨BoxL.new w [.int .i64 f.n, .int .i64 f.x, .int .i64 f.y, .int .i64 f.xx, .int .i64 f.xy] T, bA (bR _) _⟩
theorem FtH.keep {w : World} {f : Ft} {x y : World} (h : FtH w f x) (hb : Below x.heap.size x y) : FtH w f y := ⟨h.1.keep hb, bT h.2 hb⟩
theorem lnC_1 {f : Ft} (h : okFt f = false) : lnC f = 1 := by simp [lnC, h]
theorem lnC_6 {f : Ft} (h : okFt f = true) (h2 : dF f = 0) : lnC f = 6 := by simp [lnC, h, h2]
theorem lnC_0 {f : Ft} (h : okFt f = true) (h2 : ¬ dF f = 0) : lnC f = 0 := by simp [lnC, h, h2]
set_option maxRecDepth 100000 in
set_option maxHeartbeats 2000000 in
theorem l14Code_any (f : Ft) (w : World) :
    Calls Try.prog 76 #[.agg #[.int .i64 f.n, .int .i64 f.x, .int .i64 f.y, .int .i64 f.xx, .int .i64 f.xy]] w (OneN (lnC f) w) := by
  have H0 := Lib.hid (FtH.new w f 41)
  have CO := Lib.hid (fun W => l14FitOk_any f.n f.x f.y f.xx f.xy W)
  cases h1 : okFt f
  · rw [lnC_1 h1]
    rw [show okFt ⟨f.n, f.x, f.y, f.xx, f.xy⟩ = false from h1] at CO
    go_enter Try.func76, Try.ntmps76
    obtain ⟨c0, c1, c2, c3, c4, c5⟩ := H0.out.1.c5
    go_wp2_with fail
    refine (CO.out _).mono ?_
    rintro e w1 ⟨rfl, hb⟩
    have H1 := Lib.hid (H0.out.keep hb)
    clear hb H0 c0 c1 c2 c3 c4 c5
    go_wp2_with fail
    go_ret
    exact ⟨rfl, H1.out.2⟩
  rw [show okFt ⟨f.n, f.x, f.y, f.xx, f.xy⟩ = true from h1] at CO
  have CS := Lib.hid (fun W => l14Slope_any f W (okFt_bd h1))
  by_cases h2 : dF f = 0
  · rw [lnC_6 h1 h2]
    have hz : (dF f == 0) = true := by simpa using h2
    go_enter Try.func76, Try.ntmps76
    obtain ⟨c0, c1, c2, c3, c4, c5⟩ := H0.out.1.c5
    go_wp2_with fail
    refine (CO.out _).mono ?_
    rintro e w1 ⟨rfl, hb⟩
    have H1 := Lib.hid (H0.out.keep hb)
    clear hb H0 c0 c1 c2 c3 c4 c5
    obtain ⟨c0, c1, c2, c3, c4, c5⟩ := H1.out.1.c5
    go_wp2_with fail
    refine (CS.out _).mono ?_
    rintro e w2 ⟨rfl, hb⟩
    have H2 := Lib.hid (H1.out.keep hb)
    clear hb H1 c0 c1 c2 c3 c4 c5
    go_wp2_with fail
    go_ret
    exact ⟨rfl, H2.out.2⟩
  · rw [lnC_0 h1 h2]
    have hz : (dF f == 0) = false := by simpa using h2
    go_enter Try.func76, Try.ntmps76
    obtain ⟨c0, c1, c2, c3, c4, c5⟩ := H0.out.1.c5
    go_wp2_with fail
    refine (CO.out _).mono ?_
    rintro e w1 ⟨rfl, hb⟩
    have H1 := Lib.hid (H0.out.keep hb)
    clear hb H0 c0 c1 c2 c3 c4 c5
    obtain ⟨c0, c1, c2, c3, c4, c5⟩ := H1.out.1.c5
    go_wp2_with fail
    refine (CS.out _).mono ?_
    rintro e w2 ⟨rfl, hb⟩
    have H2 := Lib.hid (H1.out.keep hb)
    clear hb H1 c0 c1 c2 c3 c4 c5
    go_wp2_with fail
    go_ret
    exact ⟨rfl, H2.out.2⟩
set_option maxRecDepth 100000 in
set_option maxHeartbeats 4000000 in
theorem l14At_any (f : Ft) (h : Int) (w : World) (hf : FtB f) (hd : 1 ≤ dF f) (hh : 0 ≤ h ∧ h ≤ 10000) :
    Calls Try.prog 77 #[.agg #[.int .i64 f.n, .int .i64 f.x, .int .i64 f.y, .int .i64 f.xx, .int .i64 f.xy], .int .i64 h] w (OneN (oaF f h) w) := by
  have H0 := Lib.hid (FtH.new w f 41)
  have CS := Lib.hid (fun W => l14Slope_any f W hf)
  have CD := Lib.hid (fun W => l02Down_any (nF f) (dF f) W (by have := hf.nn; omega) (by have := hf.nn; omega) hd)
  obtain ⟨⟨a1, a2, a3, a4⟩, ⟨b1, b2⟩, ⟨p1, p2⟩, ⟨s1, s2⟩, ⟨t1, t2⟩, ⟨k1, k2⟩, m1, m2⟩ := doc_bd hf hd hh
  obtain ⟨e1, e2⟩ := doc_at hf hd h
  have CN := Lib.hid (fun W => l14Near_any (f.n * atF f h) (f.n * dF f) W k1 (by omega) (by omega) (by omega))
  rw [← e1] at CN m1 m2
  rw [e1, e2] at CN
  rw [← e1] at CN
  obtain ⟨r1, r2, r3, r4⟩ := near_rest (n := nF f) hd
  have hn7 := hf.nn
  have hd7 := hf.d
  have hy7 := hf.y
  clear e1 e2 hf
  generalize oaF f h = z at *
  generalize nF f / dF f = q at *
  generalize nF f = a at *
  generalize dF f = d at *
  have y1 : -4320000000006000000 ≤ f.y + q * (f.n * h - f.x) ∧ f.y + q * (f.n * h - f.x) ≤ 4320000000006000000 := by omega
  go_enter Try.func77, Try.ntmps77
  obtain ⟨c0, c1, c2, c3, c4, c5⟩ := H0.out.1.c5
  go_wp2_with fail
  refine (CS.out _).mono ?_
  rintro e w1 ⟨rfl, hb⟩
  have H1 := Lib.hid (H0.out.keep hb)
  clear hb H0 c0 c1 c2 c3 c4 c5
  obtain ⟨c0, c1, c2, c3, c4, c5⟩ := H1.out.1.c5
  go_wp2_with fail
  refine (CD.out _).mono ?_
  rintro e w2 ⟨rfl, rfl⟩
  go_wp2_with fail
  refine (CN.out _).mono ?_
  rintro e w3 ⟨rfl, rfl⟩
  go_wp2_with fail
  go_ret
  exact ⟨rfl, H1.out.2⟩
end Go.Proofs.Ytmmmbchlkjljaaa

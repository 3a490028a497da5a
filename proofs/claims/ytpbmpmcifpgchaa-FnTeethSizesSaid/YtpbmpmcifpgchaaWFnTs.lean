/-
  The walk of laws.FnTeethSizes.
-/
import Derived.Test.YtpbmpmcifpgchaaAi
import Derived.Test.YtpbmpmcifpgchaaTh
import Derived.Test.YtpbmpmcifpgchaaFm
namespace Go.Proofs.Ytpbmpmcifpgchaa
open Go.RowKit

theorem thF_code (t m k s c h b : Int) : ((thF t m k s c h b).2.2 = 0 ∧ okPf t m k s c h = true ∧ (0 ≤ b ∧ b ≤ 10 * m) ∧ (thF t m k s c h b).1 = (piL (10 * m) - b) / 2 ∧ (thF t m k s c h b).2.1 = upq (piU (10 * m) - b) 2) ∨ ((thF t m k s c h b).2.2 != 0) = true := by
  cases o1 : okPf t m k s c h
  · rw [thF_n1 o1]; exact .inr rfl
  cases o2 : inB b 0 (10 * m)
  · rw [thF_n2 o1 o2]; exact .inr rfl
  · rw [thF_yes o1 o2]; exact .inl ⟨rfl, rfl, inB_true.1 o2, rfl, rfl⟩
theorem fmF_code (x y d : Int) : ((fmF x y d).2 = 0 ∧ ((6 ≤ x ∧ x ≤ 240) ∧ (6 ≤ y ∧ y ≤ 240)) ∧ (0 ≤ (fmF x y d).1 ∧ (fmF x y d).1 ≤ 500) ∧ 5 * (fmF x y d).1 * (x + y) ≤ d) ∨ ((fmF x y d).2 != 0) = true := by
  cases o1 : okP (x, y)
  · rw [fmF_n1 o1]; exact .inr rfl
  cases o2 : inB d 1 1000000000
  · rw [fmF_n2 o1 o2]; exact .inr rfl
  by_cases o3 : fmZ x y d = 0
  · rw [fmF_n3 o1 o2 o3]; exact .inr rfl
  · rw [fmF_yes o1 o2 o3]
    obtain ⟨a1, a2, a3, a4⟩ := okP_bd o1
    have hd := inB_true.1 o2
    simp only at a1 a2 a3 a4
    obtain ⟨_, q0, _⟩ := fm_bd a1 a3 hd.1
    have q1 : fmZ x y d ≤ d / (5 * (x + y)) := by unfold fmZ; omega
    have q2 := (le_div (by omega)).1 q1
    have e : 5 * fmZ x y d * (x + y) = fmZ x y d * (5 * (x + y)) := by grind
    refine .inl ⟨rfl, ⟨⟨a1, a2⟩, a3, a4⟩, ?_, by rw [e]; exact q2⟩
    have : fmZ x y d = min (d / (5 * (x + y))) 500 := rfl
    simp only
    omega
theorem size_facts {m b : Int} (hm : 1 ≤ m ∧ m ≤ 500) (hb : 0 ≤ b ∧ b ≤ 10 * m) : 2 * ((piL (10 * m) - b) / 2) + b ≤ piL (10 * m) ∧ piU (10 * m) ≤ 2 * upq (piU (10 * m) - b) 2 + b ∧ (-5000 ≤ (piL (10 * m) - b) / 2 ∧ (piL (10 * m) - b) / 2 ≤ 40000) ∧ (-5000 ≤ upq (piU (10 * m) - b) 2 ∧ upq (piU (10 * m) - b) 2 ≤ 40000) := by
  have h1 := piL_bd (n := 10 * m) (by omega) (by omega)
  have h2 := piU_bd (n := 10 * m) (by omega) (by omega)
  unfold upq
  generalize piL (10 * m) = A at *
  generalize piU (10 * m) = U at *
  omega
theorem roo_lt {t m k : Int} (hm : 1 ≤ m ∧ m ≤ 500) (hk : 1 ≤ k ∧ k ≤ 20) : roo t m k < pit t m := by
  have : 0 < 2 * (k + 2) * m := Int.mul_pos (by omega) (by omega)
  unfold roo; omega
set_option maxRecDepth 100000 in
set_option maxHeartbeats 16000000 in
theorem FnTeethSizes_walk (a : Option Addr) (len cap : Nat) (zs : List Int) (w : World) (h : IsRow .u8 w a len cap zs) :
    Calls Try.prog 9 #[.slice a len cap] w fun e w' => e = .returned (.bool true) ∧ Below w.heap.size w w' := by
  have l1 := (row_of h).1
  unfold maxLen at l1
  have HA := Lib.hid h
  clear h
  by_cases hl : 4096 < len
  · have hd : decide (4096 < (len : Int)) = true := decide_eq_true (by omega)
    go_enter Try.func9, Try.ntmps9
    go_wp2_with fail
    refine (f6bigR_any _ _ _ _ (by omega)).mono ?_
    rw [hd]
    rintro e w1 ⟨rfl, rfl⟩
    go_wp2_with fail
    go_ret
    exact ⟨rfl, bR _⟩
  have hd : decide (4096 < (len : Int)) = false := decide_eq_false (by omega)
  go_enter Try.func9, Try.ntmps9
  go_wp2_with fail
  refine (f6bigR_any _ _ _ _ (by omega)).mono ?_
  rw [hd]
  rintro e w1 ⟨rfl, rfl⟩
  go_wp2_with fail
  refine (DrawThicknessBounds_any _ a len cap zs HA.out).mono ?_
  rintro e w1 ⟨t, m, k, s, c, h, b, rfl, hb⟩
  have L0 := Lib.hid hb
  have A1 := Lib.hid (HA.out.keep hb)
  have H0 := Lib.hid (PfH.new w1 t m k s c h 30)
  have CA := Lib.hid (fun W => ThicknessBoundsI_any t m k s c h b W)
  have CB := Lib.hid (fun W => ThicknessBoundsS_any t m k s c h b W)
  have CC := Lib.hid (fun W => DiametersI_any t m k s c h W)
  have CD := Lib.hid (fun W => DiametersS_any t m k s c h W)
  have VI := Lib.hid (fun W => ValidProfileI_any t m k s c h W)
  have VS := Lib.hid (fun W => ValidProfileS_any t m k s c h W)
  have HT := Lib.hid (thF_code t m k s c h b)
  have HD := Lib.hid (fun q : okPf t m k s c h = true => And.intro (diF_yes q) (okPf_bd q))
  clear hb HA hd hl l1
  generalize thF t m k s c h b = r at *
  obtain ⟨x1, x2, x3⟩ := r
  generalize diF t m k s c h = q at *
  obtain ⟨y1, y2, y3, y4⟩ := q
  generalize hv : okPf t m k s c h = v at *
  clear hv
  simp only at CA CB CC CD HT
  have n1 : (x1 != x1) = false := by simp
  have n2 : (x2 != x2) = false := by simp
  have n3 : (x3 != x3) = false := by simp
  have n4 : (y1 != y1) = false := by simp
  have n5 : (y2 != y2) = false := by simp
  have n6 : (y3 != y3) = false := by simp
  have n7 : (y4 != y4) = false := by simp
  have n8 : (v != v) = false := by simp
  go_wp2_with fail
  refine (CA.out _).mono ?_
  rintro e v1 ⟨rfl, hb⟩
  have H1 := Lib.hid (H0.out.keep hb)
  clear hb H0
  obtain ⟨c0, c1, c2, c3, c4, c5, c6, c7⟩ := H1.out
  go_wp2_with fail
  refine (CB.out _).mono ?_
  rintro e v2 ⟨rfl, hb⟩
  have H2 := Lib.hid (H1.out.keep hb)
  clear hb H1
  clear c0 c1 c2 c3 c4 c5 c6 c7
  obtain ⟨c0, c1, c2, c3, c4, c5, c6, c7⟩ := H2.out
  go_wp2_with fail
  refine (CC.out _).mono ?_
  rintro e v3 ⟨rfl, hb⟩
  have H3 := Lib.hid (H2.out.keep hb)
  clear hb H2
  clear c0 c1 c2 c3 c4 c5 c6 c7
  obtain ⟨c0, c1, c2, c3, c4, c5, c6, c7⟩ := H3.out
  go_wp2_with fail
  refine (CD.out _).mono ?_
  rintro e v4 ⟨rfl, hb⟩
  have H4h := Lib.hid (H3.out.keep hb)
  clear hb H3
  have H4 := H4h.out
  clear H4h c0 c1 c2 c3 c4 c5 c6 c7 CA CB CC CD
  go_upto_region 8 with fail
  have A4 := Lib.hid ((A1.out.keep (bA (bR w1) (.cells #[.int .i64 t, .int .i64 m, .int .i64 k, .int .i64 s, .int .i64 c, .int .i64 h] 30))))
  generalize w1.heap.size = b3 at *
  go_region_held3 (fun w' => w'.cell? ⟨b3, 0, none⟩ = some (.int .i64 t) ∧ w'.cell? ⟨b3, 1, none⟩ = some (.int .i64 m) ∧ w'.cell? ⟨b3, 2, none⟩ = some (.int .i64 k) ∧ w'.cell? ⟨b3, 3, none⟩ = some (.int .i64 s) ∧ w'.cell? ⟨b3, 4, none⟩ = some (.int .i64 c) ∧ w'.cell? ⟨b3, 5, none⟩ = some (.int .i64 h) ∧ b3 < w'.heap.size ∧ Below w1.heap.size w1 w') (first | exact H4.drew | assumption | exact PfH.keep hb (by assumption))
    (first
      | (go_at_call 30; refine (VI.out _).mono ?_; rintro e w' ⟨rfl, hb⟩)
      | (go_at_call 31; refine (VS.out _).mono ?_; rintro e w' ⟨rfl, hb⟩))
  have H5 : PfH w1 b3 t m k s c h w' := by assumption
  have L5 := Lib.hid (bT L0.out H5.bel)
  have A5 := Lib.hid (A1.out.keep H5.bel)
  have H5h := Lib.hid H5
  clear hb H4 H5 A4 VI VS n1 n2 n3 n4 n5 n6 n7 n8
  generalize w' = w5 at *
  go_wp2_with fail
  refine (DrawFitModule_any _ a len cap zs A5.out).mono ?_
  rintro e w6 ⟨x, y, d, hd, rfl, hb⟩
  have L6 := Lib.hid (bT L5.out hb)
  have H6 := Lib.hid (H5h.out.keep hb)
  have P6 := Lib.hid (PrH.new w6 x y 52)
  have FI := Lib.hid (fun W => FitModuleI_any x y d W)
  have FS := Lib.hid (fun W => FitModuleS_any x y d W)
  have HF := Lib.hid (fmF_code x y d)
  clear hb L5 A5 H5h A1
  generalize fmF x y d = f at *
  obtain ⟨z, cd⟩ := f
  simp only at FI FS HF
  have n1 : (z != z) = false := by simp
  have n2 : (cd != cd) = false := by simp
  go_wp2_with fail
  have H7 := Lib.hid (H6.out.keep (bA (bR w6) (.cells #[.int .i64 x, .int .i64 y] 52)))
  clear H6
  refine (FI.out _).mono ?_
  rintro e w7 ⟨rfl, hb⟩
  have P7 := Lib.hid (P6.out.keep hb)
  have H8 := Lib.hid (H7.out.keep hb)
  clear hb P6 H7
  obtain ⟨p0, p1, p2, p3⟩ := P7.out
  go_wp2_with fail
  refine (FS.out _).mono ?_
  rintro e w8 ⟨rfl, hb⟩
  have P8 := Lib.hid (P7.out.keep hb)
  have H9 := Lib.hid (H8.out.keep hb)
  have L8 := Lib.hid (bT L6.out P8.out.bel)
  clear hb P7 H8 p0 p1 p2 p3 FI FS
  obtain ⟨p0, p1, p2, p3⟩ := P8.out
  obtain ⟨c0, c1, c2, c3, c4, c5, c6, c7⟩ := H9.out
  rcases HF.out with ⟨rfl, ⟨⟨a1, a2⟩, a3, a4⟩, ⟨z0, z1⟩, hle⟩ | hcd
  · have hm5 := mul_bd0 (x := 5 * z) (y := x + y) (a := 2500) (b := 480) (by omega) (by omega) (by omega) (by omega)
    clear HF
    rcases HT.out with ⟨rfl, hv, ⟨b0, b1⟩, rfl, rfl⟩ | hx
    · obtain ⟨hq, ht, hm, hk, _⟩ := HD.out hv
      obtain ⟨rfl, rfl, rfl, rfl⟩ : y1 = pit t m ∧ y2 = out_ t m k ∧ y3 = roo t m k ∧ y4 = 0 := by injection hq with e1 e2; injection e2 with e2 e3; injection e3 with e3 e4; exact ⟨e1, e2, e3, e4⟩
      have PB := Lib.hid (fun W => PiBoundsI_any (10 * m) W)
      rw [pbF_yes (inB_true.2 (show 0 ≤ 10 * m ∧ 10 * m ≤ 1000000000 by omega))] at PB
      obtain ⟨sf1, sf2, ⟨sf3, sf4⟩, sf5, sf6⟩ := size_facts hm ⟨b0, b1⟩
      have o1 := (out_bd ht hm hk).1
      have o2 := roo_lt (t := t) hm hk
      clear HT HD hq hv
      generalize (piL (10 * m) - b) / 2 = X1 at *
      generalize upq (piU (10 * m) - b) 2 = X2 at *
      generalize pit t m = Y1 at *
      generalize out_ t m k = Y2 at *
      generalize roo t m k = Y3 at *
      go_wp2_with fail
      refine (PB.out _).mono ?_
      rintro e w9 ⟨rfl, hb⟩
      have L9 := Lib.hid (bT L8.out hb)
      clear hb p0 p1 p2 p3 c0 c1 c2 c3 c4 c5 c6 c7
      generalize piL (10 * m) = PL at *
      generalize piU (10 * m) = PU at *
      go_wp2_with fail
      go_ret
      exact ⟨rfl, L9.out⟩
    · clear HT HD
      go_wp2_with fail
      go_ret
      exact ⟨rfl, L8.out⟩
  · clear HF
    have hcd2 : (cd == 0) = false := by simpa using hcd
    rcases HT.out with ⟨rfl, hv, ⟨b0, b1⟩, rfl, rfl⟩ | hx
    · obtain ⟨hq, ht, hm, hk, _⟩ := HD.out hv
      obtain ⟨rfl, rfl, rfl, rfl⟩ : y1 = pit t m ∧ y2 = out_ t m k ∧ y3 = roo t m k ∧ y4 = 0 := by injection hq with e1 e2; injection e2 with e2 e3; injection e3 with e3 e4; exact ⟨e1, e2, e3, e4⟩
      have PB := Lib.hid (fun W => PiBoundsI_any (10 * m) W)
      rw [pbF_yes (inB_true.2 (show 0 ≤ 10 * m ∧ 10 * m ≤ 1000000000 by omega))] at PB
      obtain ⟨sf1, sf2, ⟨sf3, sf4⟩, sf5, sf6⟩ := size_facts hm ⟨b0, b1⟩
      have o1 := (out_bd ht hm hk).1
      have o2 := roo_lt (t := t) hm hk
      clear HT HD hq hv
      generalize (piL (10 * m) - b) / 2 = X1 at *
      generalize upq (piU (10 * m) - b) 2 = X2 at *
      generalize pit t m = Y1 at *
      generalize out_ t m k = Y2 at *
      generalize roo t m k = Y3 at *
      go_wp2_with fail
      refine (PB.out _).mono ?_
      rintro e w9 ⟨rfl, hb⟩
      have L9 := Lib.hid (bT L8.out hb)
      clear hb p0 p1 p2 p3 c0 c1 c2 c3 c4 c5 c6 c7
      generalize piL (10 * m) = PL at *
      generalize piU (10 * m) = PU at *
      go_wp2_with fail
      go_ret
      exact ⟨rfl, L9.out⟩
    · clear HT HD
      go_wp2_with fail
      go_ret
      exact ⟨rfl, L8.out⟩
end Go.Proofs.Ytpbmpmcifpgchaa

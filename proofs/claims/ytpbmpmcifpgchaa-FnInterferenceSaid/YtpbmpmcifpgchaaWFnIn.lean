/-
  The walk of laws.FnInterference.
-/
import Derived.Test.YtpbmpmcifpgchaaAf
import Derived.Test.YtpbmpmcifpgchaaGa
import Derived.Test.YtpbmpmcifpgchaaRt
namespace Go.Proofs.Ytpbmpmcifpgchaa
open Go.RowKit

theorem gaN_at (f : Int → Bool) : ∀ n : Nat, 1 ≤ gaN f n → f (gaN f n) = false
  | 0, h => by simp [gaN] at h
  | n + 1, h => by
    unfold gaN at h ⊢
    by_cases hf : f ((n : Int) + 1) = true
    · simp only [hf, if_true] at h ⊢
      exact gaN_at f n h
    · simp only [hf]
      simpa using hf
theorem gaN_above (f : Int → Bool) : ∀ (n : Nat) (z : Int), gaN f n < z → z ≤ n → f z = true
  | 0, z, h, h2 => by simp [gaN] at h; omega
  | n + 1, z, h, h2 => by
    unfold gaN at h
    by_cases hf : f ((n : Int) + 1) = true
    · simp only [hf, if_true] at h
      by_cases e : z = (n : Int) + 1
      · rw [e]; exact hf
      · exact gaN_above f n z h (by omega)
    · simp only [hf] at h
      have h3 : (n : Int) + 1 < z := by simpa using h
      omega
theorem bey_mono {t m k k2 h p l : Int} (ht : 6 ≤ t ∧ t ≤ 240) (hm : 1 ≤ m ∧ m ≤ 500) (hk : 1 ≤ k) (hkk : k ≤ k2) (hh : 1 ≤ h) (hb : bey (out_ t m k * h) p l = true) : bey (out_ t m k2 * h) p l = true := by
  have h0 := pit_bd ht hm
  have h1 : 2 * k * m ≤ 2 * k2 * m := Int.mul_le_mul_of_nonneg_right (by omega) (by omega)
  have h2 : 0 ≤ 2 * k * m := Int.mul_nonneg (by omega) (by omega)
  have h3 : out_ t m k * h ≤ out_ t m k2 * h := Int.mul_le_mul_of_nonneg_right (by unfold out_; omega) (by omega)
  have h4 : 0 ≤ out_ t m k * h := Int.mul_nonneg (by unfold out_; omega) (by omega)
  have h5 := sq_mono h4 h3
  unfold bey at hb ⊢
  have := of_decide_eq_true hb
  exact decide_eq_true (by omega)
theorem twC_sym (t m k s c h t2 m2 k2 s2 c2 h2 : Int) : twC t2 m2 k2 s2 c2 h2 t m k s c h = twC t m k s c h t2 m2 k2 s2 c2 h2 := by
  cases o1 : okPf t m k s c h
  · rw [twC_n1 o1, twC_n2 o1]
  cases o2 : okPf t2 m2 k2 s2 c2 h2
  · rw [twC_n1 o2, twC_n2 o2]
  by_cases hs : m = m2 ∧ s = s2 ∧ c = c2 ∧ h = h2
  · obtain ⟨rfl, rfl, rfl, rfl⟩ := hs
    rw [twC_yes o1 o2, twC_yes o2 o1]
  · rw [twC_n3 o1 o2 hs, twC_n3 o2 o1 (fun q => hs ⟨q.1.symm, q.2.1.symm, q.2.2.1.symm, q.2.2.2.symm⟩)]
theorem itF_sym (t m k s c h t2 k2 : Int) : itF t2 m k2 s c h t k = itF t m k s c h t2 k2 := by
  unfold itF
  rw [bey_comm _ _ (pit t2 m) (pit t m) s, bey_comm _ _ (pit t2 m) (pit t m) s, Bool.or_comm]
/-- With no addendum free of interference, two profiles interfere. -/
theorem ga_none {t m k s c h t2 k2 : Int} (e : okPf t m k s c h = true) (e2 : okPf t2 m k2 s c h = true) (hg : gaN (itK t m s c h t2) 20 = 0) : itF t m k s c h t2 k2 = true := by
  have h1 := gaN_above (itK t m s c h t2) 20 1 (by omega) (by omega)
  have L := lim_of e
  have L2 := lim_of e2
  unfold itK itF at h1
  unfold itF
  rw [Bool.or_eq_true] at h1 ⊢
  rcases h1 with h1 | h1
  · exact .inl (bey_mono L.1 L.2.1 (by omega) L.2.2.1.1 L.2.2.2.2.2.1 h1)
  · exact .inr (bey_mono L2.1 L2.2.1 (by omega) L2.2.2.1.1 L2.2.2.2.2.2.1 h1)
theorem okPf_add {t m k s c h z : Int} (e : okPf t m k s c h = true) (hz : 1 ≤ z ∧ z ≤ 20) : okPf t m z s c h = true := by
  obtain ⟨h1, h2, h3, h4⟩ := okPf_bd e
  rw [okPf_go (inB_true.2 h1) (inB_true.2 h2) (inB_true.2 hz)]; exact h4
set_option maxRecDepth 100000 in
set_option maxHeartbeats 8000000 in
theorem FnInterference_walk (a : Option Addr) (len cap : Nat) (zs : List Int) (w : World) (h : IsRow .u8 w a len cap zs) :
    Calls Try.prog 8 #[.slice a len cap] w fun e w' => e = .returned (.bool true) ∧ Below w.heap.size w w' := by
  have l1 := (row_of h).1
  unfold maxLen at l1
  have HA := Lib.hid h
  clear h
  by_cases hl : 4096 < len
  · have hd : decide (4096 < (len : Int)) = true := decide_eq_true (by omega)
    go_enter Try.func8, Try.ntmps8
    go_wp2_with fail
    refine (f6bigR_any _ _ _ _ (by omega)).mono ?_
    rw [hd]
    rintro e w1 ⟨rfl, rfl⟩
    go_wp2_with fail
    go_ret
    exact ⟨rfl, bR _⟩
  have hd : decide (4096 < (len : Int)) = false := decide_eq_false (by omega)
  go_enter Try.func8, Try.ntmps8
  go_wp2_with fail
  refine (f6bigR_any _ _ _ _ (by omega)).mono ?_
  rw [hd]
  rintro e w1 ⟨rfl, rfl⟩
  go_wp2_with fail
  refine (DrawInterferes_any _ a len cap zs HA.out).mono ?_
  rintro e w1 ⟨t, m, k, s, c, h, t2, m2, k2, s2, c2, h2, rfl, hb⟩
  have L0 := Lib.hid hb
  have CI := Lib.hid (fun W => InterferesI_any t m k s c h t2 m2 k2 s2 c2 h2 W)
  have CS := Lib.hid (fun W => InterferesS_any t m k s c h t2 m2 k2 s2 c2 h2 W)
  have CB := Lib.hid (fun W => InterferesI_any t2 m2 k2 s2 c2 h2 t m k s c h W)
  have GI := Lib.hid (fun W => GreatestAddendumI_any t m k s c h t2 m2 k2 s2 c2 h2 W)
  have GS := Lib.hid (fun W => GreatestAddendumS_any t m k s c h t2 m2 k2 s2 c2 h2 W)
  have H0 := Lib.hid (PwH.new w1 t m k s c h t2 m2 k2 s2 c2 h2 30 30)
  clear hb HA hd hl l1
  by_cases hz : twC t m k s c h t2 m2 k2 s2 c2 h2 = 0
  · have hz' : twC t2 m2 k2 s2 c2 h2 t m k s c h = 0 := by rw [twC_sym]; exact hz
    rw [inF_yes hz] at CI CS
    rw [inF_yes hz'] at CB
    obtain ⟨o1, o2, rfl, rfl, rfl, rfl⟩ := twC_zero hz
    rw [itF_sym] at CB
    by_cases hg : gaN (itK t m2 s2 c2 h2 t2) 20 = 0
    · rw [gaF_3 hz hg] at GI GS
      rw [ga_none o1 o2 hg] at CI CS CB
      clear hz hz' o1 o2 hg
      go_wp2_with fail
      refine (CI.out _).mono ?_
      rintro e v1 ⟨rfl, hb⟩
      have H1 := Lib.hid (H0.out.keep hb)
      clear hb H0
      obtain ⟨g0, g1, g2, g3, g4, g5, g6, g7, g8, g9, g10, g11, g12, g13, g14⟩ := H1.out
      go_wp2_with fail
      refine (CS.out _).mono ?_
      rintro e v2 ⟨rfl, hb⟩
      have H2 := Lib.hid (H1.out.keep hb)
      clear hb H1
      clear g0 g1 g2 g3 g4 g5 g6 g7 g8 g9 g10 g11 g12 g13 g14
      obtain ⟨g0, g1, g2, g3, g4, g5, g6, g7, g8, g9, g10, g11, g12, g13, g14⟩ := H2.out
      go_wp2_with fail
      refine (CB.out _).mono ?_
      rintro e v3 ⟨rfl, hb⟩
      have H3 := Lib.hid (H2.out.keep hb)
      clear hb H2
      clear g0 g1 g2 g3 g4 g5 g6 g7 g8 g9 g10 g11 g12 g13 g14
      obtain ⟨g0, g1, g2, g3, g4, g5, g6, g7, g8, g9, g10, g11, g12, g13, g14⟩ := H3.out
      go_wp2_with fail
      refine (GI.out _).mono ?_
      rintro e v4 ⟨rfl, hb⟩
      have H4 := Lib.hid (H3.out.keep hb)
      clear hb H3
      clear g0 g1 g2 g3 g4 g5 g6 g7 g8 g9 g10 g11 g12 g13 g14
      obtain ⟨g0, g1, g2, g3, g4, g5, g6, g7, g8, g9, g10, g11, g12, g13, g14⟩ := H4.out
      go_wp2_with fail
      refine (GS.out _).mono ?_
      rintro e v5 ⟨rfl, hb⟩
      have H5 := Lib.hid (H4.out.keep hb)
      clear hb H4
      go_wp2_with fail
      go_ret
      exact ⟨rfl, bT L0.out H5.out.bel⟩
    · rw [gaF_yes hz hg] at GI GS
      have gb := gaN_bd (itK t m2 s2 c2 h2 t2) 20
      have g1 : 1 ≤ gaN (itK t m2 s2 c2 h2 t2) 20 := by omega
      have ga := gaN_at (itK t m2 s2 c2 h2 t2) 20 g1
      have gu := gaN_above (itK t m2 s2 c2 h2 t2) 20 (gaN (itK t m2 s2 c2 h2 t2) 20 + 1) (by omega)
      generalize gaN (itK t m2 s2 c2 h2 t2) 20 = g at *
      have gb1 : g ≤ 20 := by omega
      have X1 := Lib.hid (fun W => InterferesI_any t m2 g s2 c2 h2 t2 m2 g s2 c2 h2 W)
      rw [inF_yes (twC_yes (okPf_add o1 ⟨g1, gb1⟩) (okPf_add o2 ⟨g1, gb1⟩)), show itF t m2 g s2 c2 h2 t2 g = false from ga] at X1
      have X2 := Lib.hid (fun (W : World) (hh : g + 1 ≤ 20) => InterferesI_any t m2 (g + 1) s2 c2 h2 t2 m2 (g + 1) s2 c2 h2 W)
      have HX := Lib.hid (fun hh : g + 1 ≤ 20 => And.intro (inF_yes (twC_yes (okPf_add o1 (z := g + 1) ⟨by omega, hh⟩) (okPf_add o2 (z := g + 1) ⟨by omega, hh⟩))) (show itF t m2 (g + 1) s2 c2 h2 t2 (g + 1) = true from gu (by omega)))
      clear hz hz' o1 o2 hg ga gu gb
      generalize itF t m2 k s2 c2 h2 t2 k2 = r at *
      have n1 : (r != r) = false := by simp
      have n2 : (g != g) = false := by simp
      have hg0 : (g == 0) = false := by simp; omega
      go_wp2_with fail
      refine (CI.out _).mono ?_
      rintro e v1 ⟨rfl, hb⟩
      have H1 := Lib.hid (H0.out.keep hb)
      clear hb H0
      obtain ⟨g0, g1, g2, g3, g4, g5, g6, g7, g8, g9, g10, g11, g12, g13, g14⟩ := H1.out
      go_wp2_with fail
      refine (CS.out _).mono ?_
      rintro e v2 ⟨rfl, hb⟩
      have H2 := Lib.hid (H1.out.keep hb)
      clear hb H1
      clear g0 g1 g2 g3 g4 g5 g6 g7 g8 g9 g10 g11 g12 g13 g14
      obtain ⟨g0, g1, g2, g3, g4, g5, g6, g7, g8, g9, g10, g11, g12, g13, g14⟩ := H2.out
      go_wp2_with fail
      refine (CB.out _).mono ?_
      rintro e v3 ⟨rfl, hb⟩
      have H3 := Lib.hid (H2.out.keep hb)
      clear hb H2
      clear g0 g1 g2 g3 g4 g5 g6 g7 g8 g9 g10 g11 g12 g13 g14
      obtain ⟨g0, g1, g2, g3, g4, g5, g6, g7, g8, g9, g10, g11, g12, g13, g14⟩ := H3.out
      go_wp2_with fail
      refine (GI.out _).mono ?_
      rintro e v4 ⟨rfl, hb⟩
      have H4 := Lib.hid (H3.out.keep hb)
      clear hb H3
      clear g0 g1 g2 g3 g4 g5 g6 g7 g8 g9 g10 g11 g12 g13 g14
      obtain ⟨g0, g1, g2, g3, g4, g5, g6, g7, g8, g9, g10, g11, g12, g13, g14⟩ := H4.out
      go_wp2_with fail
      refine (GS.out _).mono ?_
      rintro e v5 ⟨rfl, hb⟩
      have H5 := Lib.hid (H4.out.keep hb)
      clear hb H4
      obtain ⟨g0, g1, g2, g3, g4, g5, g6, g7, g8, g9, g10, g11, g12, g13, g14⟩ := H5.out
      have L5 := Lib.hid (bT L0.out H5.out.bel)
      have P5 := Lib.hid (PwH.new v5 t m2 g s2 c2 h2 t2 m2 g s2 c2 h2 30 30)
      have Q5 := Lib.hid ((BoxL.new v5 [.int .i64 t, .int .i64 m2, .int .i64 g, .int .i64 s2, .int .i64 c2, .int .i64 h2] 30).alloc (.cells #[.int .i64 t2, .int .i64 m2, .int .i64 g, .int .i64 s2, .int .i64 c2, .int .i64 h2] 30))
      have R5 := Lib.hid (BoxL.at_ (w := v5.alloc (.cells #[.int .i64 t, .int .i64 m2, .int .i64 g, .int .i64 s2, .int .i64 c2, .int .i64 h2] 30)) (b := v5.heap.size + 1) (vs := [.int .i64 t2, .int .i64 m2, .int .i64 g, .int .i64 s2, .int .i64 c2, .int .i64 h2]) (T := 30) (by simp))
      clear H5
      go_wp2_with fail
      refine (X1.out _).mono ?_
      rintro e v6 ⟨rfl, hb⟩
      have P6 := Lib.hid (bT L5.out (P5.out.keep hb).bel)
      have Q6 := Lib.hid (Q5.out.keep hb)
      have R6 := Lib.hid (R5.out.keep hb)
      clear hb P5 Q5 R5 g0 g1 g2 g3 g4 g5 g6 g7 g8 g9 g10 g11 g12 g13 g14
      by_cases h20 : g = 20
      · subst h20
        go_wp2_with fail
        go_ret
        exact ⟨rfl, P6.out⟩
      · have h20' : (g == 20) = false := by simpa using h20
        have X3 := Lib.hid (fun W => X2.out W (by omega))
        have hx := HX.out (by omega)
        rw [hx.1, hx.2] at X3
        have hsz := P6.out.size
        have hv := L5.out.size
        clear X2 HX hx
        obtain ⟨q0, q1, q2, q3, q4, q5, q6⟩ := Q6.out.c6
        obtain ⟨r0, r1, r2, r3, r4, r5⟩ := Q6.out.f6
        obtain ⟨u0, u1, u2, u3, u4, u5, u6⟩ := R6.out.c6
        obtain ⟨y0, y1, y2, y3, y4, y5⟩ := R6.out.f6
        generalize hb1 : v5.heap.size + 1 = b1 at *
        have k1 : ¬ v5.heap.size = b1 := by omega
        have k2 : ¬ b1 = v5.heap.size := by omega
        have k3 : w.heap.size ≤ v5.heap.size := hv
        have k4 : w.heap.size ≤ b1 := by omega
        clear hb1
        generalize v5.heap.size = b0 at *
        go_wp2_with fail
        refine (X3.out _).mono ?_
        rintro e v7 ⟨rfl, hb⟩
        have P7 := Lib.hid (bT ((P6.out.setCell k3 _).setCell k4 _) hb)
        clear hb q0 q1 q2 q3 q4 q5 q6 r0 r1 r2 r3 r4 r5 u0 u1 u2 u3 u4 u5 u6 y0 y1 y2 y3 y4 y5
        go_wp2_with fail
        go_ret
        exact ⟨rfl, P7.out⟩
  · have hz' : ¬ twC t2 m2 k2 s2 c2 h2 t m k s c h = 0 := by rw [twC_sym]; exact hz
    rw [inF_no hz] at CI CS
    rw [inF_no hz', twC_sym] at CB
    rw [gaF_no hz] at GI GS
    generalize twC t m k s c h t2 m2 k2 s2 c2 h2 = z at *
    have hz1 : (z != 0) = true := by simpa using hz
    have hz2 : (z != z) = false := by simp
    clear hz hz'
    go_wp2_with fail
    refine (CI.out _).mono ?_
    rintro e v1 ⟨rfl, hb⟩
    have H1 := Lib.hid (H0.out.keep hb)
    clear hb H0
    obtain ⟨g0, g1, g2, g3, g4, g5, g6, g7, g8, g9, g10, g11, g12, g13, g14⟩ := H1.out
    go_wp2_with fail
    refine (CS.out _).mono ?_
    rintro e v2 ⟨rfl, hb⟩
    have H2 := Lib.hid (H1.out.keep hb)
    clear hb H1
    clear g0 g1 g2 g3 g4 g5 g6 g7 g8 g9 g10 g11 g12 g13 g14
    obtain ⟨g0, g1, g2, g3, g4, g5, g6, g7, g8, g9, g10, g11, g12, g13, g14⟩ := H2.out
    go_wp2_with fail
    refine (CB.out _).mono ?_
    rintro e v3 ⟨rfl, hb⟩
    have H3 := Lib.hid (H2.out.keep hb)
    clear hb H2
    clear g0 g1 g2 g3 g4 g5 g6 g7 g8 g9 g10 g11 g12 g13 g14
    obtain ⟨g0, g1, g2, g3, g4, g5, g6, g7, g8, g9, g10, g11, g12, g13, g14⟩ := H3.out
    go_wp2_with fail
    refine (GI.out _).mono ?_
    rintro e v4 ⟨rfl, hb⟩
    have H4 := Lib.hid (H3.out.keep hb)
    clear hb H3
    clear g0 g1 g2 g3 g4 g5 g6 g7 g8 g9 g10 g11 g12 g13 g14
    obtain ⟨g0, g1, g2, g3, g4, g5, g6, g7, g8, g9, g10, g11, g12, g13, g14⟩ := H4.out
    go_wp2_with fail
    refine (GS.out _).mono ?_
    rintro e v5 ⟨rfl, hb⟩
    have H5 := Lib.hid (H4.out.keep hb)
    clear hb H4
    go_wp2_with fail
    go_ret
    exact ⟨rfl, bT L0.out H5.out.bel⟩
end Go.Proofs.Ytpbmpmcifpgchaa

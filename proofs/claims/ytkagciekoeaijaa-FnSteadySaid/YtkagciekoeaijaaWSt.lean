/-
  The walk of laws.FnSteady.
-/
import Derived.Test.YtkagciekoeaijaaEsV
import Derived.Test.YtkagciekoeaijaaEsE
import Derived.Test.YtkagciekoeaijaaEsI
import Derived.Test.YtkagciekoeaijaaEsW
import Derived.Test.YtkagciekoeaijaaRoll
namespace Go.Proofs.Ytkagciekoeaijaa
open Go.RowKit

/-- What the law says of the steady energy's result. -/
theorem sdE_cases (t u i l m q : Int) : (sdE t u i l m q).2 = 1 ∨ (sdE t u i l m q).2 = 2 ∨ ((sdE t u i l m q).2 = 3 ∧ (stE t u i l m q m 0).2 = 0) ∨
    ((sdE t u i l m q).2 = 0 ∧ Esc t u i l m ∧ okEs t u i l m = true ∧ inB q 0 1000 = true ∧ (0 ≤ (sdE t u i l m q).1 ∧ (sdE t u i l m q).1 ≤ m) ∧ tkS u l q (sdE t u i l m q).1 = true ∧ nxS u i l m q (sdE t u i l m q).1 = (sdE t u i l m q).1 ∧ ∀ y, (sdE t u i l m q).1 < y → y ≤ m → tkS u l q y = true → nxS u i l m q y < y) := by
  cases h1 : okEs t u i l m
  · rw [sdE_1 h1]; exact .inl rfl
  cases h2 : inB q 0 1000
  · rw [sdE_2 h1 h2]; exact .inr (.inl rfl)
  have H := esc_of h1
  have hq := inB_true.1 h2
  have hm := H.hm
  have hu := H.hu
  cases h3 : (stlF (nxS u i l m q) (tkS u l q) m).2.2
  · rw [sdE_3 h1 h2 h3]
    have hb := okBt_yes h1 (inB_true.2 (show 0 ≤ m ∧ m ≤ m by omega)) (inB_true.2 (show (0 : Int) ≤ 0 ∧ (0 : Int) ≤ 1000000000 by omega))
    rw [stE_0 (cdE_0 hb h2) h3]
    exact .inr (.inr (.inl ⟨rfl, rfl⟩))
  · rw [sdE_0 h1 h2 h3]
    have := steady_of (monF H hq) (by omega) h3
    exact .inr (.inr (.inr ⟨rfl, H, rfl, rfl, this⟩))
theorem steady_st {t u i l m q x : Int} (h1 : okEs t u i l m = true) (h2 : inB q 0 1000 = true) (hx : 0 ≤ x ∧ x ≤ m) (hg : tkS u l q x = true) (hf : nxS u i l m q x = x) : stE t u i l m q x 0 = (0, 3) ∧ swE t u i l m q x 0 = (x, 1, true, 0) := by
  have hb := okBt_yes h1 (inB_true.2 hx) (inB_true.2 (show (0 : Int) ≤ 0 ∧ (0 : Int) ≤ 1000000000 by omega))
  have c := cdE_0 hb h2
  refine ⟨stE_3 c (by rw [stlF_end hg (by omega)]), ?_⟩
  rw [swE_tick c hg (by omega), hf]; rfl
/-- A greater energy is not restored by a tick. -/
theorem steady_more {t u i l m q x y : Int} (h1 : okEs t u i l m = true) (h2 : inB q 0 1000 = true) (hx : 0 ≤ x) (hxy : x < y) (hall : ∀ y, x < y → y ≤ m → tkS u l q y = true → nxS u i l m q y < y) :
    ((swE t u i l m q y 0).2.2.2 != 0) = true ∨ ((swE t u i l m q y 0).2.2.2 != 0) = false ∧ (swE t u i l m q y 0).2.2.1 = false ∨ ((swE t u i l m q y 0).2.2.2 != 0) = false ∧ (swE t u i l m q y 0).2.2.1 = true ∧ (swE t u i l m q y 0).1 < y := by
  by_cases hy : y ≤ m
  · have hb := okBt_yes h1 (inB_true.2 (show 0 ≤ y ∧ y ≤ m by omega)) (inB_true.2 (show (0 : Int) ≤ 0 ∧ (0 : Int) ≤ 1000000000 by omega))
    have c := cdE_0 hb h2
    cases ht : tkS u l q y
    · rw [swE_miss c ht]; exact .inr (.inl ⟨rfl, rfl⟩)
    · rw [swE_tick c ht (by omega)]
      exact .inr (.inr ⟨rfl, rfl, hall y hxy hy ht⟩)
  · have hb : okBt t u i l m y 0 = false := okBt_n2 (inB_false.2 (by omega))
    have c := cdE_1 (q := q) hb
    rw [swE_no (by omega), c]; exact .inl rfl
set_option maxRecDepth 100000 in
set_option maxHeartbeats 4000000 in
theorem FnSteady_walk (a : Option Addr) (len cap : Nat) (zs : List Int) (w : World) (h : IsRow .u8 w a len cap zs) :
    Calls Try.prog 4 #[.slice a len cap] w fun e w' => e = .returned (.bool true) ∧ Below w.heap.size w w' := by
  have l1 := (row_of h).1
  unfold maxLen at l1
  have HA := Lib.hid h
  clear h
  by_cases hl : 4096 < len
  · have hd : decide (4096 < (len : Int)) = true := decide_eq_true (by omega)
    go_enter Try.func4, Try.ntmps4
    go_wp2_with fail
    refine (f6bigR_any _ _ _ _ (by omega)).mono ?_
    rw [hd]
    rintro e w1 ⟨rfl, rfl⟩
    go_wp2_with fail
    go_ret
    exact ⟨rfl, bR _⟩
  have hd : decide (4096 < (len : Int)) = false := decide_eq_false (by omega)
  go_enter Try.func4, Try.ntmps4
  go_wp2_with fail
  refine (f6bigR_any _ _ _ _ (by omega)).mono ?_
  rw [hd]
  rintro e w1 ⟨rfl, rfl⟩
  go_wp2_with fail
  refine (DrawSteadyEnergy_any _ a len cap zs HA.out).mono ?_
  rintro e w1 ⟨t, u, i, l, m, q, hm, hq, rfl, hb⟩
  have L0 := Lib.hid hb
  have A1 := Lib.hid (HA.out.keep hb)
  have H0 := Lib.hid (EsH.new w1 t u i l m 25)
  have CI := Lib.hid (fun W => SteadyEnergyI_any t u i l m q W)
  have CS := Lib.hid (fun W => SteadyEnergyS_any t u i l m q W)
  have ST := Lib.hid (fun e k W => StopAfterI_any t u i l m q e k W)
  have SW := Lib.hid (fun e k W => SwingI_any t u i l m q e k W)
  have HC := sdE_cases t u i l m q
  have HST := Lib.hid (fun x => steady_st (t := t) (u := u) (i := i) (l := l) (m := m) (q := q) (x := x))
  have HMO := Lib.hid (fun x y => steady_more (t := t) (u := u) (i := i) (l := l) (m := m) (q := q) (x := x) (y := y))
  clear hb HA hd hl l1
  generalize sdE t u i l m q = r at *
  obtain ⟨x, c⟩ := r
  have n0 : (x != x) = false := by simp
  have n1 : (c != c) = false := by simp
  simp only at CI CS HC
  go_wp2_with fail
  refine (CI.out _).mono ?_
  rintro e w2 ⟨rfl, hb⟩
  have H1 := Lib.hid (H0.out.keep hb)
  clear hb H0
  obtain ⟨g0, g1, g2, g3, g4, g5⟩ := H1.out.1.c5
  go_wp2_with fail
  refine (CS.out _).mono ?_
  rintro e w3 ⟨rfl, hb⟩
  have H2 := Lib.hid (H1.out.keep hb)
  clear hb H1 g0 g1 g2 g3 g4 g5
  obtain ⟨g0, g1, g2, g3, g4, g5⟩ := H2.out.1.c5
  unfold TwoBl at ST
  rcases HC with hc | hc | ⟨hc, hs⟩ | ⟨hc, hE, hok, hqq, hx, hg, hf, hall⟩
  · subst hc
    generalize hR : stE t u i l m q m 0 = R
    have ST1 := Lib.hid (ST.out m 0)
    rw [hR] at ST1
    obtain ⟨r0, r1⟩ := R
    simp only at ST1
    clear hR ST
    go_wp2_with fail
    refine (ST1.out _).mono ?_
    rintro e w4 ⟨rfl, hb⟩
    have L4 := Lib.hid (bT L0.out (H2.out.keep hb).2)
    clear hb
    go_wp2_with fail
    go_ret
    exact ⟨rfl, L4.out⟩
  · subst hc
    generalize hR : stE t u i l m q m 0 = R
    have ST1 := Lib.hid (ST.out m 0)
    rw [hR] at ST1
    obtain ⟨r0, r1⟩ := R
    simp only at ST1
    clear hR ST
    go_wp2_with fail
    refine (ST1.out _).mono ?_
    rintro e w4 ⟨rfl, hb⟩
    have L4 := Lib.hid (bT L0.out (H2.out.keep hb).2)
    clear hb
    go_wp2_with fail
    go_ret
    exact ⟨rfl, L4.out⟩
  · subst hc
    generalize hR : stE t u i l m q m 0 = R at hs
    have ST1 := Lib.hid (ST.out m 0)
    rw [hR] at ST1
    obtain ⟨r0, r1⟩ := R
    simp only at ST1 hs
    subst hs
    clear hR ST
    go_wp2_with fail
    refine (ST1.out _).mono ?_
    rintro e w4 ⟨rfl, hb⟩
    have L4 := Lib.hid (bT L0.out (H2.out.keep hb).2)
    clear hb
    go_wp2_with fail
    go_ret
    exact ⟨rfl, L4.out⟩
  · subst hc
    obtain ⟨hst, hsw⟩ := HST.out x hok hqq hx hg hf
    have SW1 := Lib.hid (SW.out x 0)
    have ST1 := Lib.hid (ST.out x 0)
    rw [hst] at ST1
    rw [hsw] at SW1
    have HM := Lib.hid (fun y (hy : x < y) => HMO.out x y hok hqq hx.1 hy hall)
    have hm2 := hE.hm.2
    unfold SgP at SW1 SW
    simp only at SW1 ST1
    clear hst hsw HST HMO hall hf hg hE hok hqq ST
    go_wp2_with fail
    refine (SW1.out _).mono ?_
    rintro e w4 ⟨rfl, hb⟩
    have H3 := Lib.hid ((H2.out.keep hb).keep (bA (bR _) (.cells #[.int .i64 x, .int .i64 1] 28)))
    have Y3 := Lib.hid (BoxL.new w4 [.int .i64 x, .int .i64 1] 28)
    clear hb H2 g0 g1 g2 g3 g4 g5
    obtain ⟨g0, g1, g2, g3, g4, g5⟩ := H3.out.1.c5
    go_upto_region 12 with fail
    generalize w4.alloc (.cells #[.int .i64 x, .int .i64 1] 28) = W4 at *
    generalize w4.heap.size = b11 at *
    go_wp2_with fail
    refine (ST1.out _).mono ?_
    rintro e w5 ⟨rfl, hb⟩
    have H4 := Lib.hid (H3.out.keep hb)
    have Y4 := Lib.hid (Y3.out.keep hb)
    have A5 := A1.out.keep H4.out.2
    have RO := Lib.hid (fun sd => show Calls Try.prog 13 #[.slice a len cap, .int .u64 sd] w5.drew (fun en w' => en = .returned (.pointer (some ⟨w5.heap.size, 0, none⟩)) ∧ SrcAt w' w5.heap.size a len cap 0 ∧ Below w5.heap.size w5 w') from (f6roll_any w5.drew a len cap zs sd (A5.keep (bR _).drew)).mono fun en w' ⟨he, hs, hb⟩ => ⟨he, hs, bT (bR w5).drew hb⟩)
    have L5 := Lib.hid (bT L0.out H4.out.2)
    have h5 := H4.out.1.lt
    have hw5 := L5.out.size
    have n3p : w1.heap.size ≠ w5.heap.size := by omega
    have n11p : b11 ≠ w5.heap.size := by have := Y4.out.lt; omega
    have X5 := Lib.hid H4.out.1
    clear hb H3 Y3 g0 g1 g2 g3 g4 g5 A1 A5 H4
    obtain ⟨g0, g1, g2, g3, g4, g5⟩ := X5.out.c5
    have hmx : 0 ≤ m - x := by omega
    have q1 : IntKind.i64.wrap (m - x) = m - x := wrI _ (by omega)
    have q2 : IntKind.i64.wrap (m - x + 1) = m - x + 1 := wrI _ (by omega)
    have q3 : IntKind.i64.wrap (x + 1) = x + 1 := wrI _ (by omega)
    go_upto_region 13 with fail
    go_cut [16] (fun s16 wx => ∃ y : Int, s16 = .int .i64 y ∧ x < y ∧ y ≤ 300000 ∧ BoxL wx w1.heap.size [.int .i64 t, .int .i64 u, .int .i64 i, .int .i64 l, .int .i64 m] ∧ BoxL wx b11 [.int .i64 x, .int .i64 1] ∧ Below w.heap.size w wx)
    case first =>
      go_region_with (first
        | (go_at_call 13; refine (RO.out _).mono ?_; rintro en w6 ⟨rfl, s6, hb⟩; have X6 := Lib.hid (X5.out.keep hb); clear g0 g1 g2 g3 g4 g5; obtain ⟨g0, g1, g2, g3, g4, g5⟩ := X6.out.c5; have Y6 := Lib.hid (Y4.out.keep hb); have L6 := Lib.hid (bT L5.out hb); have S6 := Lib.hid s6; clear hb s6)
        | (go_at_call 14; refine (below_any _ w5.heap.size a len cap 0 _ (by exact S6.out) (by omega) (by omega) (by omega)).mono ?_; rintro en w7 ⟨r, r0, r1, rfl, s7, g7⟩; have q5 : IntKind.i64.wrap (x + 1 + r) = x + 1 + r := wrI _ (by omega); have X7 := Lib.hid (BoxL.grownA X6.out g7 n3p); have Y7 := Lib.hid (BoxL.grownA Y6.out g7 n11p); have L7 := Lib.hid (grownE_bel L6.out g7 hw5); clear s7 g7))
      all_goals (go_wp2_with fail; go_meet; exact ⟨_, rfl, by omega, by omega, X7.out, Y7.out, L7.out⟩)
    case rest =>
      obtain ⟨y, rfl, hy, hy2, hX, hY, hL⟩ := hcut
      have HM1 := HM.out y hy
      have SW2 := Lib.hid (SW.out y 0)
      have X8 := Lib.hid hX
      have Y8 := Lib.hid hY
      have L8 := Lib.hid hL
      clear hX hY hL HM SW X5 Y4 L5 RO g0 g1 g2 g3 g4 g5
      generalize wc = w8 at *
      obtain ⟨g0, g1, g2, g3, g4, g5⟩ := X8.out.c5
      generalize swE t u i l m q y 0 = R at *
      obtain ⟨z, zk, zt, zc⟩ := R
      simp only at SW2 HM1
      go_wp2_with fail
      refine (SW2.out _).mono ?_
      rintro en w9 ⟨rfl, hb⟩
      have Y9 := Lib.hid (Y8.out.keep hb)
      have L9 := Lib.hid (bT L8.out hb)
      clear hb X8 Y8 L8 g0 g1 g2 g3 g4 g5
      obtain ⟨d0, d1, d2⟩ := Y9.out.c2
      have n19 : ¬ b11 = w9.heap.size := by omega
      rcases HM1 with h | ⟨h, h2⟩ | ⟨h, h2, h3⟩
      · go_wp2_with fail
        go_ret
        exact ⟨rfl, by first | exact L9.out | exact bA L9.out _⟩
      · subst h2
        go_wp2_with fail
        go_ret
        exact ⟨rfl, by first | exact L9.out | exact bA L9.out _⟩
      · subst h2
        have h4 : decide (z < y) = true := by simpa using h3
        go_wp2_with fail
        go_ret
        exact ⟨by first | rfl | simp, by first | exact L9.out | exact bA L9.out _⟩
end Go.Proofs.Ytkagciekoeaijaa

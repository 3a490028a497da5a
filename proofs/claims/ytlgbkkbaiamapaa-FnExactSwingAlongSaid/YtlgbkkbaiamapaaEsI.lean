/-
  Escapements, the program's side: SteadyEnergy, StopAfter, allTick.
-/
import Derived.Test.YtlgbkkbaiamapaaEsG
import Derived.Test.YtlgbkkbaiamapaaEsU
namespace Go.Proofs.Ytlgbkkbaiamapaa
open Go.RowKit

theorem isNoTorque_any (q : Int) (w : World) :
    Calls Try.prog 40 #[.int .i64 q] w fun e w' => e = .returned (.bool (!inB q 0 1000)) ∧ w = w' := by
  go_enter Try.func40, Try.ntmps40
  go_wp2_with (go_at_call 35; refine (isBetween_any _ _ _ _).mono ?_; rintro e w1 ⟨rfl, rfl⟩)
  go_ret
  exact ⟨rfl, rfl⟩
set_option maxRecDepth 100000 in
set_option maxHeartbeats 4000000 in
theorem SteadyEnergyI_any (t u i l m q : Int) (w : World) :
    Calls Try.prog 29 #[.agg #[.int .i64 t, .int .i64 u, .int .i64 i, .int .i64 l, .int .i64 m], .int .i64 q] w (TwoBl (sdE t u i l m q).1 (sdE t u i l m q).2 w) := by
  have CO := Lib.hid (fun W => ValidEscapementI_any t u i l m W)
  have H0 := Lib.hid (EsH.new w t u i l m 25)
  cases h1 : okEs t u i l m
  · rw [sdE_1 h1]
    rw [h1] at CO
    go_enter Try.func29, Try.ntmps29
    go_wp2_with fail
    refine (CO.out _).mono ?_
    rintro en w1 ⟨rfl, hb⟩
    have L := Lib.hid (H0.out.keep hb).2
    clear hb H0
    go_wp2_with fail
    go_ret2
    exact ⟨rfl, L.out⟩
  rw [h1] at CO
  cases h2 : inB q 0 1000
  · rw [sdE_2 h1 h2]
    go_enter Try.func29, Try.ntmps29
    go_wp2_with fail
    refine (CO.out _).mono ?_
    rintro en w1 ⟨rfl, hb⟩
    have L := Lib.hid (H0.out.keep hb).2
    clear hb H0
    go_wp2_with (go_at_call 40; refine (isNoTorque_any _ _).mono ?_; rintro e w1 ⟨rfl, rfl⟩)
    go_ret2
    exact ⟨rfl, L.out⟩
  have HE := Lib.hid (esc_of h1)
  have HQ := Lib.hid (inB_true.1 h2)
  have hm : 0 ≤ m := by have := HE.out.hm; have := HE.out.hu; omega
  have ST := Lib.hid (fun W => settle_any t u i l m q m 0 W HE.out ⟨hm, Int.le_refl _⟩ HQ.out (by omega))
  have S3 := Lib.hid (sdE_3 h1 h2)
  have S0 := Lib.hid (sdE_0 h1 h2)
  clear h1
  generalize stlF (nxS u i l m q) (tkS u l q) m = r at *
  obtain ⟨r0, r1, r2⟩ := r
  simp only at S3 S0
  go_enter Try.func29, Try.ntmps29
  go_wp2_with fail
  refine (CO.out _).mono ?_
  rintro en w1 ⟨rfl, hb⟩
  have H1 := Lib.hid (H0.out.keep hb)
  clear hb H0
  obtain ⟨c0, c1, c2, c3, c4, c5⟩ := H1.out.1.c5
  go_wp2_with (first | (go_at_call 40; refine (isNoTorque_any _ _).mono ?_; rintro e w1 ⟨rfl, rfl⟩))
  refine (ST.out _).mono ?_
  rintro en w2 ⟨rfl, hb⟩
  have L := Lib.hid (bT H1.out.2 (by first | exact hb | exact bT (bA (bR _) _) hb))
  clear hb
  cases r2
  · have HR := Lib.hid (S3.out rfl)
    go_wp2_with fail
    go_ret2
    exact ⟨by rw [HR.out]; rfl, by first | exact L.out | exact bA L.out _⟩
  · have HR := Lib.hid (S0.out rfl)
    go_wp2_with fail
    go_ret2
    exact ⟨by rw [HR.out]; rfl, by first | exact L.out | exact bA L.out _⟩
set_option maxRecDepth 100000 in
set_option maxHeartbeats 4000000 in
theorem StopAfterI_any (t u i l m q e k : Int) (w : World) :
    Calls Try.prog 31 #[.agg #[.int .i64 t, .int .i64 u, .int .i64 i, .int .i64 l, .int .i64 m], .int .i64 q, .agg #[.int .i64 e, .int .i64 k]] w (TwoBl (stE t u i l m q e k).1 (stE t u i l m q e k).2 w) := by
  have CO := Lib.hid (fun W => ValidBeatI_any t u i l m e k W)
  have H0 := Lib.hid (EbH.new w t u i l m e k 25 31)
  cases h1 : okBt t u i l m e k
  · have e1 := cdE_1 (q := q) h1
    have HR := Lib.hid (show stE t u i l m q e k = (0, 1) by rw [stE_no (by omega), e1])
    clear e1
    rw [h1] at CO
    go_enter Try.func31, Try.ntmps31
    go_wp2_with fail
    refine (CO.out _).mono ?_
    rintro en w1 ⟨rfl, hb⟩
    have L := Lib.hid (H0.out.keep hb).bel
    clear hb H0
    go_wp2_with fail
    go_ret2
    exact ⟨by rw [HR.out]; rfl, L.out⟩
  rw [h1] at CO
  cases h2 : inB q 0 1000
  · have e1 := cdE_2 h1 h2
    have HR := Lib.hid (show stE t u i l m q e k = (0, 2) by rw [stE_no (by omega), e1])
    clear e1
    go_enter Try.func31, Try.ntmps31
    go_wp2_with fail
    refine (CO.out _).mono ?_
    rintro en w1 ⟨rfl, hb⟩
    have L := Lib.hid (H0.out.keep hb).bel
    clear hb H0
    go_wp2_with (go_at_call 40; refine (isNoTorque_any _ _).mono ?_; rintro e w1 ⟨rfl, rfl⟩)
    go_ret2
    exact ⟨by rw [HR.out]; rfl, L.out⟩
  have HQ := Lib.hid (inB_true.1 h2)
  obtain ⟨hE, he, hk⟩ := okBt_bd h1
  have ST := Lib.hid (fun W => settle_any t u i l m q e k W hE he HQ.out hk)
  have hlen := stlF_len (f := nxS u i l m q) (t := tkS u l q) e.toNat e (Nat.le_refl _)
  have S3 := Lib.hid (stE_3 (cdE_0 h1 h2))
  have S0 := Lib.hid (stE_0 (cdE_0 h1 h2))
  have hm := hE.hm
  clear h1 hE
  generalize stlF (nxS u i l m q) (tkS u l q) e = r at *
  obtain ⟨r0, r1, r2⟩ := r
  simp only at S3 S0 hlen
  have hr1 : r1 ≤ 100000 := by omega
  have ek : k + (r1 : Int) - k = (r1 : Int) := by omega
  clear hlen hm
  go_enter Try.func31, Try.ntmps31
  go_wp2_with fail
  refine (CO.out _).mono ?_
  rintro en w1 ⟨rfl, hb⟩
  have H1 := Lib.hid (H0.out.keep hb)
  clear hb H0
  obtain ⟨c0, c1, c2, c3, c4, c5, c6⟩ := H1.out.cells
  go_wp2_with (first | (go_at_call 40; refine (isNoTorque_any _ _).mono ?_; rintro e w1 ⟨rfl, rfl⟩))
  refine (ST.out _).mono ?_
  rintro en w2 ⟨rfl, hb⟩
  have H2 := Lib.hid (H1.out.keep hb)
  clear hb c0 c1 c2 c3 c4 c5 c6
  obtain ⟨c0, c1, c2, c3, c4, c5, c6⟩ := H2.out.cells
  cases r2
  · have HR := Lib.hid (S0.out rfl)
    have lt5 : w.heap.size + 1 < w2.heap.size := H2.out.2.1.lt
    have n5 : ¬ w.heap.size + 1 = w2.heap.size := by omega
    go_wp2_with fail
    go_ret2
    exact ⟨by rw [HR.out]; exact retT (by omega) rfl, by first | exact H2.out.bel | exact bA H2.out.bel _⟩
  · have HR := Lib.hid (S3.out rfl)
    go_wp2_with fail
    go_ret2
    exact ⟨by rw [HR.out]; rfl, by first | exact H2.out.bel | exact bA H2.out.bel _⟩
set_option maxRecDepth 100000 in
set_option maxHeartbeats 4000000 in
theorem allTick_any (t u i l m q e k : Int) (n : Nat) (w : World) (H : Esc t u i l m) (he : 0 ≤ e ∧ e ≤ m) (hq : 0 ≤ q ∧ q ≤ 1000) (hk : 0 ≤ k ∧ k ≤ 1000000000) (hn : n ≤ 2000) :
    Calls Try.prog 48 #[.agg #[.int .i64 t, .int .i64 u, .int .i64 i, .int .i64 l, .int .i64 m], .int .i64 q, .int .i64 n, .agg #[.int .i64 e, .int .i64 k]] w (BoolBel (allF (nxS u i l m q) (tkS u l q) n e) w) := by
  have HF := Lib.hid (monF H hq)
  have NX := Lib.hid (fun e k W (he : 0 ≤ e ∧ e ≤ m) (hk : 0 ≤ k ∧ k ≤ 9000000000) => show Calls Try.prog 43 #[.agg #[.int .i64 t, .int .i64 u, .int .i64 i, .int .i64 l, .int .i64 m], .int .i64 q, .agg #[.int .i64 e, .int .i64 k]] W (NxF (nxS u i l m q) (tkS u l q) e k W) from next_any t u i l m e k q W H he hq hk)
  have H0 := Lib.hid (EbH.new w t u i l m e k 25 31)
  have HA := Lib.hid (And.intro he hk)
  have lw5 : w.heap.size ≤ w.heap.size + 1 := by omega
  have n35 : ¬ w.heap.size = w.heap.size + 1 := by omega
  clear H hq he hk
  generalize nxS u i l m q = f at *
  generalize tkS u l q = g at *
  go_enter Try.func48, Try.ntmps48
  go_wp2_with fail
  generalize (w.alloc (.cells #[.int .i64 t, .int .i64 u, .int .i64 i, .int .i64 l, .int .i64 m] 25)).alloc (.cells #[.int .i64 e, .int .i64 k] 31) = W0 at *
  generalize w.heap.size + 1 = b5 at *
  go_loopw [12] (fun v wr => ∃ (e1 k1 : Int) (j : Nat), v = .int .i64 j ∧ j ≤ n ∧ (0 ≤ e1 ∧ e1 ≤ m) ∧ (0 ≤ k1 ∧ k1 ≤ 1000000000 + (j : Int)) ∧ allF f g (n - j) e1 = allF f g n e ∧ EbH w w.heap.size b5 t u i l m e1 k1 wr) (fun v _ => n - (intOf v).toNat)
  case atStart => exact ⟨e, k, 0, rfl, Nat.zero_le _, HA.out.1, by have := HA.out.2; omega, rfl, H0.out⟩
  case round =>
    obtain ⟨e1, k1, j, rfl, hj, hx, hk1, hs, hH⟩ := hrel
    have H1 := Lib.hid hH
    have HS := Lib.hid hs
    clear hs H0
    obtain ⟨c0, c1, c2, c3, c4, c5, c6⟩ := hH.cells
    clear hH
    by_cases hlt : j < n
    · obtain ⟨r, hr⟩ : ∃ r, n - j = r + 1 := ⟨n - j - 1, by omega⟩
      have N1 := Lib.hid (fun W => NX.out e1 k1 W hx (by omega))
      have hb3 := HF.out.bd e1 hx.1 hx.2
      go_wp2_with fail
      refine (N1.out _).mono ?_
      rintro en w2 ⟨rfl, hb⟩
      have H2 := Lib.hid (H1.out.keep hb)
      clear hb H1 c0 c1 c2 c3 c4 c5 c6
      obtain ⟨c0, c1, c2, c3, c4, c5, c6⟩ := H2.out.cells
      obtain ⟨f0, f1⟩ := H2.out.2.1.f2
      cases hg : g e1
      · have HR := Lib.hid (show false = allF f g n e by rw [← HS.out, hr, allF_no hg])
        go_wp2_with fail
        go_ret
        exact ⟨by rw [← HR.out]; rfl, by first | exact H2.out.bel | exact bA H2.out.bel _⟩
      · have HR := Lib.hid (show allF f g r (f e1) = allF f g n e by rw [← HS.out, hr, allF_go hg])
        have hlt2 : b5 < w2.heap.size := H2.out.2.1.lt
        have n5 : ¬ b5 = w2.heap.size := by omega
        have Z5 := Lib.hid (show BoxL (((w2.setCell ⟨b5, 0, none⟩ (.int .i64 (f e1))).setCell ⟨b5, 1, none⟩ (.int .i64 (k1 + 1))).alloc (.cells #[.int .i64 (f e1), .int .i64 (k1 + 1)] 31)) b5 [.int .i64 (f e1), .int .i64 (k1 + 1)] from ((H2.out.2.1.setE (i := 0) (v := .int .i64 (f e1)) rfl).setE (i := 1) (v := .int .i64 (k1 + 1)) rfl).alloc _)
        have Z3 := Lib.hid (show BoxL (((w2.setCell ⟨b5, 0, none⟩ (.int .i64 (f e1))).setCell ⟨b5, 1, none⟩ (.int .i64 (k1 + 1))).alloc (.cells #[.int .i64 (f e1), .int .i64 (k1 + 1)] 31)) w.heap.size [.int .i64 t, .int .i64 u, .int .i64 i, .int .i64 l, .int .i64 m] from ((H2.out.1.other n35).other n35).alloc _)
        have ZB := Lib.hid (bA (bsetE (o := 1) (v := .int .i64 (k1 + 1)) (bsetE (o := 0) (v := .int .i64 (f e1)) H2.out.2.2 lw5) lw5) (.cells #[.int .i64 (f e1), .int .i64 (k1 + 1)] 31))
        go_wp2_with fail
        go_roundw
        case rel => exact ⟨f e1, k1 + 1, j + 1, by go_num, by omega, hb3, by omega, by rw [show n - (j + 1) = r by omega]; exact HR.out, Z3.out, Z5.out, ZB.out⟩
        case measure => simp [intOf]; omega
    · obtain rfl : j = n := by omega
      have HR := Lib.hid (show true = allF f g j e by rw [← HS.out, Nat.sub_self]; rfl)
      go_wp2_with fail
      go_ret
      exact ⟨by rw [← HR.out]; rfl, H1.out.bel⟩
end Go.Proofs.Ytlgbkkbaiamapaa

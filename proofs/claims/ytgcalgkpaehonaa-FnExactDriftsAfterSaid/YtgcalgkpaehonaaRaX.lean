/-
  Best bases: the document's side.
-/
import Derived.Test.YtgcalgkpaehonaaRaU
import Derived.Test.YtgcalgkpaehonaaRaO
namespace Go.Proofs.Ytgcalgkpaehonaa
open Go.RowKit

theorem l00MaxR_any (x y : Int) (w : World) :
    Calls Try.prog 55 #[.int .i64 x, .int .i64 y] w fun e w' => e = .returned (.int .i64 (max x y)) ∧ w = w' := by
  by_cases h : y < x
  · go_enter Try.func55, Try.ntmps55
    go_wp2
    go_ret
    exact ⟨ret_int (by omega), rfl⟩
  · go_enter Try.func55, Try.ntmps55
    go_wp2
    go_ret
    exact ⟨ret_int (by omega), rfl⟩
theorem l00MinR_any (x y : Int) (w : World) :
    Calls Try.prog 56 #[.int .i64 x, .int .i64 y] w fun e w' => e = .returned (.int .i64 (min x y)) ∧ w = w' := by
  by_cases h : x < y
  · go_enter Try.func56, Try.ntmps56
    go_wp2
    go_ret
    exact ⟨ret_int (by omega), rfl⟩
  · go_enter Try.func56, Try.ntmps56
    go_wp2
    go_ret
    exact ⟨ret_int (by omega), rfl⟩

set_option maxRecDepth 100000 in
set_option maxHeartbeats 4000000 in
theorem BestBaseS_any (b l c m : Int) (ps : List (Int × Int)) (v : Value) (w : World) (ha : SlP w v ps) (hmax : ps.length ≤ 1000000000000) :
    Calls Try.prog 31 #[.agg #[.int .i64 b, .int .i64 l, .int .i64 c, .int .i64 m], v] w (TwoN (bbE b l c m ps).1 (bbE b l c m ps).2 w) := by
  have CO := Lib.hid (fun W => l12Ok_any b l c m W)
  have CL := Lib.hid (fun v W (h : SlP W v ps) => l12List_any ps v W h hmax)
  have B0 := Lib.hid (BoxL.new w [.int .i64 b, .int .i64 l, .int .i64 c, .int .i64 m] 25)
  have L0 := Lib.hid (bA (bR w) (.cells #[.int .i64 b, .int .i64 l, .int .i64 c, .int .i64 m] 25))
  have A0 := Lib.hid (ha.keep (bA (bR w) (.cells #[.int .i64 b, .int .i64 l, .int .i64 c, .int .i64 m] 25)))
  obtain ⟨ao, cap, rfl, _⟩ := ha
  cases h1 : okRt b l c m
  · rw [bbE_1 h1]
    rw [h1] at CO
    go_enter Try.func31, Try.ntmps31
    go_wp2_with fail
    refine (CO.out _).mono ?_
    rintro e w1 ⟨rfl, hb⟩
    have B1 := Lib.hid (B0.out.keep hb)
    have L1 := Lib.hid (bT L0.out hb)
    have A1 := Lib.hid (A0.out.keep hb)
    clear hb B0 L0 A0
    obtain ⟨c0, c1, c2, c3, c4⟩ := B1.out.c4
    go_wp2_with fail
    go_ret2
    exact ⟨rfl, L1.out⟩
  rw [h1] at CO
  cases h2 : okSl ps
  · rw [bbE_2 h2]
    rw [h2] at CL
    go_enter Try.func31, Try.ntmps31
    go_wp2_with fail
    refine (CO.out _).mono ?_
    rintro e w1 ⟨rfl, hb⟩
    have B1 := Lib.hid (B0.out.keep hb)
    have L1 := Lib.hid (bT L0.out hb)
    have A1 := Lib.hid (A0.out.keep hb)
    clear hb B0 L0 A0
    obtain ⟨c0, c1, c2, c3, c4⟩ := B1.out.c4
    go_wp2_with fail
    refine (CL.out _ _ A1.out).mono ?_
    rintro e w2 ⟨rfl, hb⟩
    have B2 := Lib.hid (B1.out.keep hb)
    have L2 := Lib.hid (bT L1.out hb)
    have A2 := Lib.hid (A1.out.keep hb)
    clear hb B1 L1 A1 c0 c1 c2 c3 c4
    obtain ⟨c0, c1, c2, c3, c4⟩ := B2.out.c4
    go_wp2_with fail
    go_ret2
    exact ⟨rfl, L2.out⟩
  rw [h2] at CL
  have hR := rte_of h1
  by_cases h0 : ps.length = 0
  · rw [bbE_6 h1 h2 h0]
    have hz : ((ps.length : Int) == 0) = true := beq_iff_eq.2 (by omega)
    clear h0
    go_enter Try.func31, Try.ntmps31
    go_wp2_with fail
    refine (CO.out _).mono ?_
    rintro e w1 ⟨rfl, hb⟩
    have B1 := Lib.hid (B0.out.keep hb)
    have L1 := Lib.hid (bT L0.out hb)
    have A1 := Lib.hid (A0.out.keep hb)
    clear hb B0 L0 A0
    obtain ⟨c0, c1, c2, c3, c4⟩ := B1.out.c4
    go_wp2_with fail
    refine (CL.out _ _ A1.out).mono ?_
    rintro e w2 ⟨rfl, hb⟩
    have B2 := Lib.hid (B1.out.keep hb)
    have L2 := Lib.hid (bT L1.out hb)
    have A2 := Lib.hid (A1.out.keep hb)
    clear hb B1 L1 A1 c0 c1 c2 c3 c4
    obtain ⟨c0, c1, c2, c3, c4⟩ := B2.out.c4
    go_wp2_with fail
    go_ret2
    exact ⟨rfl, L2.out⟩
  have hz : ((ps.length : Int) == 0) = false := beq_eq_false_iff_ne.2 (by omega)
  rw [bbE_0 h1 h2 h0]
  have CS := Lib.hid (fun v W (h : SlP W v ps) => l12Sums_any b l c m ps v W h hR h2)
  have CH := Lib.hid (fun v W (h : SlP W v ps) => l12Hours_any ps v W h h2)
  have hln := (okSl_iff.1 h2).1
  have HL := Lib.hid (rnK_len (drS b l c m) ps ps.length)
  have HE := Lib.hid (last_rn (drS b l c m) ps)
  have hb := hR.hb
  have hh1 := hours_ge (okSl_iff.1 h2).2
  have hh2 := (sumH_bd h2 ps.length).2
  have hx := sumD_bd hR h2 ps.length
  have hs := sumD_bd hR.zero h2 ps.length
  rw [List.take_of_length_le (Nat.le_refl _)] at hh2 hx hs
  have HX := base_sum b l c m ps
  clear hR
  generalize smF (drS b l c m) ps = x at *
  generalize smF (drS 0 l c m) ps = s at *
  generalize smF hrS ps = h at *
  have hbh := mulB (a := b) (b := h) (A := 100000000) (B := 14400) (by omega) (by omega) (by omega) (by omega)
  have g1 : IntKind.i64.wrap (b * h) = b * h := IntWalk.i64_in _ (by omega)
  have g2 : IntKind.i64.wrap (x - b * h) = s := by rw [IntWalk.i64_in _ (by omega)]; omega
  have hh : 1 ≤ h := by omega
  have hq := bbQ_bd hh hs
  have ST := Lib.hid (bb_step (s := s) hh)
  have HQ := Lib.hid (show bbN s h = if h < 2 * ((-s) % h) then (-s) / h + 1 else (-s) / h from rfl)
  clear HX hbh
  go_enter Try.func31, Try.ntmps31
  go_wp2_with fail
  refine (CO.out _).mono ?_
  rintro e w1 ⟨rfl, hb⟩
  have B1 := Lib.hid (B0.out.keep hb)
  have L1 := Lib.hid (bT L0.out hb)
  have A1 := Lib.hid (A0.out.keep hb)
  clear hb B0 L0 A0
  obtain ⟨c0, c1, c2, c3, c4⟩ := B1.out.c4
  go_wp2_with fail
  refine (CL.out _ _ A1.out).mono ?_
  rintro e w2 ⟨rfl, hb⟩
  have B2 := Lib.hid (B1.out.keep hb)
  have L2 := Lib.hid (bT L1.out hb)
  have A2 := Lib.hid (A1.out.keep hb)
  clear hb B1 L1 A1 c0 c1 c2 c3 c4
  obtain ⟨c0, c1, c2, c3, c4⟩ := B2.out.c4
  go_wp2_with fail
  refine (CH.out _ _ A2.out).mono ?_
  rintro e w3 ⟨rfl, rfl⟩
  go_wp2_with fail
  have HK := Lib.hid (fun (w' : World) (hb : Below w2.heap.size w2 w') => RtC5.of B2.out hb)
  go_region_held3 (fun w' => w'.cell? ⟨w.heap.size, 0, none⟩ = some (.int .i64 b) ∧ w'.cell? ⟨w.heap.size, 1, none⟩ = some (.int .i64 l) ∧ w'.cell? ⟨w.heap.size, 2, none⟩ = some (.int .i64 c) ∧ w'.cell? ⟨w.heap.size, 3, none⟩ = some (.int .i64 m) ∧ Below w2.heap.size w2 w') (first | exact HK.out _ (bR _).drew | assumption | exact HK.out _ (bT (RtC5.bel (b0 := w.heap.size) (b := b) (l := l) (c := c) (m := m) (by assumption)) hb))
    (first
      | (go_at_call 45; refine (CS.out _ _ (by first | exact A2.out.keep (bR _).drew | exact A2.out.keep (RtC5.bel (b0 := w.heap.size) (b := b) (l := l) (c := c) (m := m) (by assumption)))).mono ?_; rintro en w' ⟨vs, rfl, hr, hb⟩; have HSL := Lib.hid (sl64_of hr))
      | (go_at_call 44; refine (l12Last_any _ _ _ HSL.out (by rw [HL.out]; omega)).mono ?_; rw [HE.out]; rintro en w' ⟨rfl, rfl⟩; have hb := bR w2))
  have HB3 := Lib.hid (RtC5.bel (b0 := w.heap.size) (b := b) (l := l) (c := c) (m := m) (w' := w') (by assumption))
  have L3 := Lib.hid (bT L2.out HB3.out)
  clear hb HK B2 L2 A2 HB3
  generalize w' = w5 at *
  obtain ⟨st1, st2, st3, r0, r1⟩ := ST.out
  have m1 : ((-s) / h + 1) * h = h - (-s) % h - s := by omega
  have m2 : (-s) / h * h = -((-s) % h) - s := by omega
  have m3 : h - (-s) % h - s + s = h - (-s) % h := by omega
  have m4 : -((-s) % h) - s + s = -((-s) % h) := by omega
  clear st1 st2 st3 ST CS CH HL HE
  go_wp2_with fail
  refine (l02Down_any _ _ _ (by omega) (by omega) (by omega)).mono ?_
  rintro e w6 ⟨rfl, rfl⟩
  generalize (-s) / h = q at *
  generalize (-s) % h = r at *
  have e1 : (((h - r).natAbs : Nat) : Int) = h - r := by omega
  have e2 : (((-r).natAbs : Nat) : Int) = r := by omega
  have CM := Lib.hid (fun W => l02Size_any (h - r) W (by omega))
  have CN := Lib.hid (fun W => l02Size_any (-r) W (by omega))
  rw [e1] at CM
  rw [e2] at CN
  clear e1 e2
  by_cases hc : h < 2 * r
  · have HQ2 := Lib.hid (HQ.out.trans (if_pos hc))
    have hc1 : h - r < r := by omega
    clear HQ
    go_wp2_with (first | (go_at_call 51; refine (CM.out _).mono ?_; rintro e w1 ⟨rfl, rfl⟩) | (go_at_call 51; refine (CN.out _).mono ?_; rintro e w1 ⟨rfl, rfl⟩) | (go_at_call 56; refine (l00MinR_any _ _ _).mono ?_; rintro e w1 ⟨rfl, rfl⟩) | (go_at_call 55; refine (l00MaxR_any _ _ _).mono ?_; rintro e w1 ⟨rfl, rfl⟩))
    go_ret2
    exact ⟨ret_two (by rw [HQ2.out]; exact bbC_eq _) rfl, L3.out⟩
  · have HQ2 := Lib.hid (HQ.out.trans (if_neg hc))
    have hc1 : ¬ h - r < r := by omega
    clear HQ
    go_wp2_with (first | (go_at_call 51; refine (CM.out _).mono ?_; rintro e w1 ⟨rfl, rfl⟩) | (go_at_call 51; refine (CN.out _).mono ?_; rintro e w1 ⟨rfl, rfl⟩) | (go_at_call 56; refine (l00MinR_any _ _ _).mono ?_; rintro e w1 ⟨rfl, rfl⟩) | (go_at_call 55; refine (l00MaxR_any _ _ _).mono ?_; rintro e w1 ⟨rfl, rfl⟩))
    go_ret2
    exact ⟨ret_two (by rw [HQ2.out]; exact bbC_eq _) rfl, L3.out⟩
end Go.Proofs.Ytgcalgkpaehonaa

/-
  Best bases: the program's side.
-/
import Derived.Test.YtgcalgkpaehonaaRaI
import Derived.Test.YtgcalgkpaehonaaRaO
namespace Go.Proofs.Ytgcalgkpaehonaa
open Go.RowKit

set_option maxRecDepth 100000 in
set_option maxHeartbeats 4000000 in
theorem BestBaseI_any (b l c m : Int) (ps : List (Int × Int)) (v : Value) (w : World) (ha : SlP w v ps) (hmax : ps.length ≤ 1000000000000) :
    Calls Try.prog 32 #[.agg #[.int .i64 b, .int .i64 l, .int .i64 c, .int .i64 m], v] w (TwoN (bbE b l c m ps).1 (bbE b l c m ps).2 w) := by
  have CO := Lib.hid (fun W => ValidRateI_any b l c m W)
  have CL := Lib.hid (fun v W (h : SlP W v ps) => ValidSegmentsI_any ps v W h hmax)
  have B0 := Lib.hid (BoxL.new w [.int .i64 b, .int .i64 l, .int .i64 c, .int .i64 m] 25)
  have L0 := Lib.hid (bA (bR w) (.cells #[.int .i64 b, .int .i64 l, .int .i64 c, .int .i64 m] 25))
  have A0 := Lib.hid (ha.keep (bA (bR w) (.cells #[.int .i64 b, .int .i64 l, .int .i64 c, .int .i64 m] 25)))
  have hA0 := Lib.hid ha
  obtain ⟨ao, cap, rfl, _⟩ := ha
  cases h1 : okRt b l c m
  · rw [bbE_1 h1]
    rw [h1] at CO
    go_enter Try.func32, Try.ntmps32
    go_wp2_with fail
    refine (CO.out _).mono ?_
    rintro e w1 ⟨rfl, hb⟩
    have B1 := Lib.hid (B0.out.keep hb)
    have L1 := Lib.hid (bT L0.out hb)
    have A1 := Lib.hid (A0.out.keep hb)
    clear hb B0 L0 A0
    obtain ⟨c0, c1, c2, c3, c4⟩ := B1.out.c4
    go_wp2_with fail
    go_ret2
    exact ⟨rfl, L1.out⟩
  rw [h1] at CO
  cases h2 : okSl ps
  · rw [bbE_2 h2]
    rw [h2] at CL
    go_enter Try.func32, Try.ntmps32
    go_wp2_with fail
    refine (CO.out _).mono ?_
    rintro e w1 ⟨rfl, hb⟩
    have B1 := Lib.hid (B0.out.keep hb)
    have L1 := Lib.hid (bT L0.out hb)
    have A1 := Lib.hid (A0.out.keep hb)
    clear hb B0 L0 A0
    obtain ⟨c0, c1, c2, c3, c4⟩ := B1.out.c4
    go_wp2_with fail
    refine (CL.out _ _ A1.out).mono ?_
    rintro e w2 ⟨rfl, hb⟩
    have B2 := Lib.hid (B1.out.keep hb)
    have L2 := Lib.hid (bT L1.out hb)
    have A2 := Lib.hid (A1.out.keep hb)
    clear hb B1 L1 A1 c0 c1 c2 c3 c4
    obtain ⟨c0, c1, c2, c3, c4⟩ := B2.out.c4
    go_wp2_with fail
    go_ret2
    exact ⟨rfl, L2.out⟩
  rw [h2] at CL
  have hR := rte_of h1
  by_cases h0 : ps.length = 0
  · rw [bbE_6 h1 h2 h0]
    have hz : ((ps.length : Int) == 0) = true := beq_iff_eq.2 (by omega)
    clear h0
    go_enter Try.func32, Try.ntmps32
    go_wp2_with fail
    refine (CO.out _).mono ?_
    rintro e w1 ⟨rfl, hb⟩
    have B1 := Lib.hid (B0.out.keep hb)
    have L1 := Lib.hid (bT L0.out hb)
    have A1 := Lib.hid (A0.out.keep hb)
    clear hb B0 L0 A0
    obtain ⟨c0, c1, c2, c3, c4⟩ := B1.out.c4
    go_wp2_with fail
    refine (CL.out _ _ A1.out).mono ?_
    rintro e w2 ⟨rfl, hb⟩
    have B2 := Lib.hid (B1.out.keep hb)
    have L2 := Lib.hid (bT L1.out hb)
    have A2 := Lib.hid (A1.out.keep hb)
    clear hb B1 L1 A1 c0 c1 c2 c3 c4
    obtain ⟨c0, c1, c2, c3, c4⟩ := B2.out.c4
    go_wp2_with fail
    go_ret2
    exact ⟨rfl, L2.out⟩
  have hz : ((ps.length : Int) == 0) = false := beq_eq_false_iff_ne.2 (by omega)
  rw [bbE_0 h1 h2 h0]
  have CS := Lib.hid (fun v W (h : SlP W v ps) => sumD_any 0 l c m ps v W h hR.zero h2)
  have CH := Lib.hid (fun v W (h : SlP W v ps) => sumH_any ps v W h h2)
  have hln := (okSl_iff.1 h2).1
  have hh1 := hours_ge (okSl_iff.1 h2).2
  have hh2 := (sumH_bd h2 ps.length).2
  have hs := sumD_bd hR.zero h2 ps.length
  rw [List.take_of_length_le (Nat.le_refl _)] at hh2 hs
  clear hR
  generalize smF (drS 0 l c m) ps = s at *
  generalize smF hrS ps = h at *
  have hh : 1 ≤ h := by omega
  have hq := bbN_bd hh hs
  have HQ := Lib.hid (bbN_near (s := s) hh)
  rw [← HQ.out] at hq
  have CN := Lib.hid (fun W => nearestOf_any s h W hh (by omega) (by omega) (by omega))
  have ha0 := hA0.out
  generalize near s h = q at *
  go_enter Try.func32, Try.ntmps32
  go_wp2_with fail
  refine (CO.out _).mono ?_
  rintro e w1 ⟨rfl, hb⟩
  have B1 := Lib.hid (B0.out.keep hb)
  have L1 := Lib.hid (bT L0.out hb)
  have A1 := Lib.hid (A0.out.keep hb)
  clear hb B0 L0 A0
  obtain ⟨c0, c1, c2, c3, c4⟩ := B1.out.c4
  go_wp2_with fail
  refine (CL.out _ _ A1.out).mono ?_
  rintro e w2 ⟨rfl, hb⟩
  have B2 := Lib.hid (B1.out.keep hb)
  have L2 := Lib.hid (bT L1.out hb)
  have A2 := Lib.hid (A1.out.keep hb)
  clear hb B1 L1 A1 c0 c1 c2 c3 c4
  obtain ⟨c0, c1, c2, c3, c4⟩ := B2.out.c4
  obtain ⟨w5, hw5⟩ : ∃ w5, w2.setCell ⟨w.heap.size, 0, none⟩ (.int .i64 0) = w5 := ⟨_, rfl⟩
  have f0 := B2.out.f4.1
  have X5 := Lib.hid (show w5.cell? ⟨w.heap.size, 0, none⟩ = some (.int .i64 0) ∧ w5.cell? ⟨w.heap.size, 1, none⟩ = some (.int .i64 l) ∧ w5.cell? ⟨w.heap.size, 2, none⟩ = some (.int .i64 c) ∧ w5.cell? ⟨w.heap.size, 3, none⟩ = some (.int .i64 m) from by
    rw [← hw5]
    refine ⟨by simp [go_sem, c0], by simp [go_sem, c1], by simp [go_sem, c2], by simp [go_sem, c3]⟩)
  have L5 := Lib.hid (show Below w.heap.size w w5 from hw5 ▸ L2.out.setCell (p := ⟨w.heap.size, 0, none⟩) (Nat.le_refl _) (.int .i64 0))
  have A5 := Lib.hid (show SlP w5 (.slice ao ps.length cap) ps from ha0.keep L5.out)
  obtain ⟨d0, d1, d2, d3⟩ := X5.out
  go_wp2_with fail
  clear hw5 B2 L2 A2 c0 c1 c2 c3 c4 f0 d0 d1 d2 d3
  refine (CS.out _ _ A5.out).mono ?_
  rintro e w6 ⟨rfl, hb⟩
  have L6 := Lib.hid (bT L5.out hb)
  have A6 := Lib.hid (A5.out.keep hb)
  clear hb X5 L5 A5
  go_wp2_with fail
  refine (CH.out _ _ A6.out).mono ?_
  rintro e w7 ⟨rfl, hb⟩
  have L7 := Lib.hid (bT L6.out hb)
  clear hb L6 A6
  go_wp2_with fail
  refine (CN.out _).mono ?_
  rintro e w8 ⟨rfl, hb⟩
  have L8 := Lib.hid (bT L7.out hb)
  clear hb L7
  go_wp2_with fail
  all_goals go_ret2
  all_goals exact ⟨ret_two (by rw [← HQ.out]; unfold bbC; omega) rfl, L8.out⟩
end Go.Proofs.Ytgcalgkpaehonaa

/-
  The walk of laws.FnExactMeanYear.
-/
import Derived.Test.YtpbepibklipfpaaDoorCaW
import Derived.Test.YtpbepibklipfpaaDoorMyr
namespace Go.Proofs.YtpbepibklipfpaaDoor
open Go.RowKit

set_option maxRecDepth 100000 in
set_option maxHeartbeats 8000000 in
theorem eqRatio_sameM (x0 x1 : Int) (w : World) :
    Calls Tryd.prog 13 #[.agg #[.int .i64 x0, .int .i64 x1], .agg #[.int .i64 x0, .int .i64 x1]] w (BoolBel true w) := by
  have h0 : (x0 != x0) = false := by simp
  have h1 : (x1 != x1) = false := by simp
  obtain ⟨c0, c1, _⟩ := ((BoxL.new w [.int .i64 x0, .int .i64 x1] 28).alloc (.cells #[.int .i64 x0, .int .i64 x1] 28)).c2
  obtain ⟨d0, d1, _⟩ := (BoxL.at_ (w := w.alloc (.cells #[.int .i64 x0, .int .i64 x1] 28)) (b := w.heap.size + 1) (vs := [.int .i64 x0, .int .i64 x1]) (T := 28) (by simp)).c2
  go_enter Tryd.func13, Tryd.ntmps13
  go_wp2_with fail
  go_ret
  exact ⟨rfl, bA (bA (bR _) _) _⟩
set_option maxRecDepth 100000 in
set_option maxHeartbeats 8000000 in
theorem FnExactMeanYear_walk (x : Value) (c : Cal) (b0 b1 : Addr) (w : World) (h : IsC w x c) (hS : Sent w b0 b1) :
    Calls Tryd.prog 3 #[x] w fun e w' => e = .returned (.bool true) ∧ Below w.heap.size w w' := by
  obtain ⟨pu, pv, rfl, hs, hM, hR⟩ := h
  have HSS := Lib.hid hS
  clear hS
  have CS := Lib.hid (fun x W (h : IsC W x c) => MeanYearS_any c x W h)
  have CI := Lib.hid (fun x W (h : IsC W x c) (hS : Sent W b0 b1) => MeanYearI_any c b0 b1 x W h hS)
  have hne : ((myE c).2 != (myE c).2) = false := by simp
  generalize (myE c).1.1 = z0 at *
  generalize (myE c).1.2 = z1 at *
  generalize (myE c).2 = q2 at *
  obtain ⟨nm, ms, rs, wk⟩ := c
  simp only at hs hM hR
  obtain ⟨p1, p2, rfl, _⟩ := hM.open
  obtain ⟨p3, p4, rfl, _⟩ := hR.open
  have HSZ := Lib.hid hs
  have X := Lib.hid (BoxL.new w [.string nm, .slice p1 ms.length p2, .slice p3 rs.length p4, .int .i64 wk] 25)
  have L0 := Lib.hid (bA (bR w) (.cells #[.string nm, .slice p1 ms.length p2, .slice p3 rs.length p4, .int .i64 wk] 25))
  have H0 := Lib.hid (hM.keep L0.out)
  have K0 := Lib.hid (hR.keep L0.out)
  obtain ⟨c0, c1, c2, c3, c4⟩ := X.out.c4q
  clear hM hR hs
  go_enter Tryd.func3, Tryd.ntmps3
  go_wp2_with fail
  generalize w.alloc (.cells #[.string nm, .slice p1 ms.length p2, .slice p3 rs.length p4, .int .i64 wk] 25) = W0 at *
  generalize hbl : w.heap.size = bl at X c0 c1 c2 c3 c4 ⊢
  have HBL := Lib.hid hbl
  clear hbl
  refine (szCalendar_any _ ⟨nm, ms, rs, wk⟩ 1048576 _ ⟨_, _, rfl, HSZ.out, H0.out, K0.out⟩ (by omega) (by omega)).mono ?_
  rintro e w1 ⟨r, rfl, r1, r2, r3, hb⟩
  have X1 := Lib.hid (X.out.keep hb)
  have L1 := Lib.hid (bT L0.out hb)
  have H1 := Lib.hid (H0.out.keep hb)
  have K1 := Lib.hid (K0.out.keep hb)
  have R := Lib.hid r3
  clear hb r3 c0 c1 c2 c3 c4
  obtain ⟨c0, c1, c2, c3, c4⟩ := X1.out.c4q
  by_cases hr : r < 0
  · go_wp2_with fail
    go_ret
    exact ⟨rfl, L1.out⟩
  · have HL := Lib.hid (R.out (by omega))
    go_wp2_with fail
    refine (toCalendar_any _ ⟨nm, ms, rs, wk⟩ _ ⟨_, _, rfl, HSZ.out, H1.out, K1.out⟩ HL.out).mono ?_
    rintro e w2 ⟨x1, rfl, hO, hb⟩
    have V1 := Lib.hid hO.is
    have H2 := Lib.hid (H1.out.keep hb)
    have K2 := Lib.hid (K1.out.keep hb)
    have L2 := Lib.hid (bT L1.out hb)
    have X2 := Lib.hid (X1.out.keep hb)
    clear c0 c1 c2 c3 c4 hO hb
    obtain ⟨c0, c1, c2, c3, c4⟩ := X2.out.c4q
    go_wp2_with fail
    refine (CS.out _ _ V1.out).mono ?_
    rintro e w3 ⟨rfl, hb⟩
    have H3 := Lib.hid (H2.out.keep hb)
    have K3 := Lib.hid (K2.out.keep hb)
    have L3 := Lib.hid (bT L2.out hb)
    have X3 := Lib.hid (X2.out.keep hb)
    clear c0 c1 c2 c3 c4 hb
    have hbD : Below w3.heap.size w3 (w3.alloc (.cells #[.int .i64 z0, .int .i64 z1] 28)) := bA (bR _) _
    have H3 := Lib.hid (H3.out.keep hbD)
    have K3 := Lib.hid (K3.out.keep hbD)
    have L3 := Lib.hid (bT L3.out hbD)
    have X3 := Lib.hid (X3.out.keep hbD)
    have D3 := Lib.hid (BoxL.new w3 [.int .i64 z0, .int .i64 z1] 28)
    clear hbD
    obtain ⟨c0, c1, c2, c3, c4⟩ := X3.out.c4q
    go_wp2_with fail
    generalize w3.alloc (.cells #[.int .i64 z0, .int .i64 z1] 28) = W3 at *
    generalize w3.heap.size = bd at *
    refine (toCalendar_any _ ⟨nm, ms, rs, wk⟩ _ ⟨_, _, rfl, HSZ.out, H3.out, K3.out⟩ HL.out).mono ?_
    rintro e w4 ⟨x2, rfl, hO, hb⟩
    obtain ⟨u, v, rfl, _, hM2, hR2⟩ := hO.is
    simp only at hM2 hR2
    obtain ⟨u1, u2, rfl, _⟩ := hM2.open
    obtain ⟨u3, u4, rfl, _⟩ := hR2.open
    have hb' : Below w4.heap.size w4 (w4.alloc (.cells #[.string nm, .slice u1 ms.length u2, .slice u3 rs.length u4, .int .i64 wk] 34)) := bA (bR _) _
    have A2 := Lib.hid (hM2.keep hb')
    have B2 := Lib.hid (hR2.keep hb')
    have H4 := Lib.hid ((H3.out.keep hb).keep hb')
    have K4 := Lib.hid ((K3.out.keep hb).keep hb')
    have L4 := Lib.hid (bT (bT L3.out hb) hb')
    have X4 := Lib.hid ((X3.out.keep hb).keep hb')
    have Y4 := Lib.hid (BoxL.new w4 [.string nm, .slice u1 ms.length u2, .slice u3 rs.length u4, .int .i64 wk] 34)
    have D4 := Lib.hid ((D3.out.keep hb).keep hb')
    clear c0 c1 c2 c3 c4 hO hM2 hR2 hb hb'
    obtain ⟨c0, c1, c2, c3, c4⟩ := X4.out.c4q
    obtain ⟨d0, d1, d2, d3, d4⟩ := Y4.out.c4q
    go_wp2_with fail
    generalize w4.alloc (.cells #[.string nm, .slice u1 ms.length u2, .slice u3 rs.length u4, .int .i64 wk] 34) = W4 at *
    generalize w4.heap.size = bx at *
    refine (CI.out _ _ ⟨_, _, rfl, HSZ.out, A2.out, B2.out⟩ (HSS.out.keep L4.out)).mono ?_
    rintro e w5 ⟨rfl, hb⟩
    have H5 := Lib.hid (H4.out.keep hb)
    have K5 := Lib.hid (K4.out.keep hb)
    have A3 := Lib.hid (A2.out.keep hb)
    have B3 := Lib.hid (B2.out.keep hb)
    have L5 := Lib.hid (bT L4.out hb)
    have X5 := Lib.hid (X4.out.keep hb)
    have Y5 := Lib.hid (Y4.out.keep hb)
    have D5 := Lib.hid (D4.out.keep hb)
    clear c0 c1 c2 c3 c4 d0 d1 d2 d3 d4 hb
    have hbD : Below w5.heap.size w5 (w5.alloc (.cells #[.int .i64 z0, .int .i64 z1] 28)) := bA (bR _) _
    have H5 := Lib.hid (H5.out.keep hbD)
    have K5 := Lib.hid (K5.out.keep hbD)
    have A3 := Lib.hid (A3.out.keep hbD)
    have B3 := Lib.hid (B3.out.keep hbD)
    have L5 := Lib.hid (bT L5.out hbD)
    have X5 := Lib.hid (X5.out.keep hbD)
    have Y5 := Lib.hid (Y5.out.keep hbD)
    have D5 := Lib.hid (D5.out.keep hbD)
    have G5 := Lib.hid (BoxL.new w5 [.int .i64 z0, .int .i64 z1] 28)
    clear hbD
    obtain ⟨e0, e1, _⟩ := D5.out.c2
    obtain ⟨g0, g1, _⟩ := G5.out.c2
    go_wp2_with fail
    generalize w5.alloc (.cells #[.int .i64 z0, .int .i64 z1] 28) = W5 at *
    generalize w5.heap.size = bg at *
    refine (eqRatio_sameM z0 z1 _).mono ?_
    rintro e w6 ⟨rfl, hb⟩
    have H5 := Lib.hid (H5.out.keep hb)
    have K5 := Lib.hid (K5.out.keep hb)
    have A3 := Lib.hid (A3.out.keep hb)
    have B3 := Lib.hid (B3.out.keep hb)
    have L5 := Lib.hid (bT L5.out hb)
    have X5 := Lib.hid (X5.out.keep hb)
    have Y5 := Lib.hid (Y5.out.keep hb)
    clear hb e0 e1 g0 g1 D3 D4 D5 G5
    obtain ⟨c0, c1, c2, c3, c4⟩ := X5.out.c4q
    obtain ⟨d0, d1, d2, d3, d4⟩ := Y5.out.c4q
    go_wp2_with fail
    have HS : FinC w bl bx nm wk (.slice p1 ms.length p2) (.slice p3 rs.length p4) (.slice u1 ms.length u2) (.slice u3 rs.length u4) ms rs w6 := ⟨c0, c1, c2, c3, d0, d1, d2, d3, c4, d4, H5.out, K5.out, A3.out, B3.out, L5.out⟩
    clear c0 c1 c2 c3 c4 d0 d1 d2 d3 d4 H0 H1 H2 H3 H4 K0 K1 K2 K3 K4 V1 A2 B2 A3 B3 H5 K5 L0 L1 L2 L3 L4 L5 X X1 X2 X3 X4 X5 Y4 Y5 CS CI
    go_region_held3 (fun w' => w'.cell? ⟨bl, 0, none⟩ = some (.string nm) ∧ w'.cell? ⟨bl, 1, none⟩ = some (.slice p1 ms.length p2) ∧ w'.cell? ⟨bl, 2, none⟩ = some (.slice p3 rs.length p4) ∧ w'.cell? ⟨bl, 3, none⟩ = some (.int .i64 wk) ∧ w'.cell? ⟨bx, 0, none⟩ = some (.string nm) ∧ w'.cell? ⟨bx, 1, none⟩ = some (.slice u1 ms.length u2) ∧ w'.cell? ⟨bx, 2, none⟩ = some (.slice u3 rs.length u4) ∧ w'.cell? ⟨bx, 3, none⟩ = some (.int .i64 wk) ∧ bl < w'.heap.size ∧ bx < w'.heap.size ∧ SlMo w' (.slice p1 ms.length p2) ms ∧ SlRu w' (.slice p3 rs.length p4) rs ∧ SlMo w' (.slice u1 ms.length u2) ms ∧ SlRu w' (.slice u3 rs.length u4) rs ∧ Below w.heap.size w w') (first | exact HS.drew | assumption | exact FinC.keep hb (by first | assumption | exact HS.drew))
      (first
        | (go_at_call 11; have hS : FinC w bl bx nm wk (.slice p1 ms.length p2) (.slice p3 rs.length p4) (.slice u1 ms.length u2) (.slice u3 rs.length u4) ms rs _ := (by first | assumption | exact HS.drew); refine (toCalendar_any _ ⟨nm, ms, rs, wk⟩ _ ⟨_, _, rfl, HSZ.out, hS.2.2.2.2.2.2.2.2.2.2.1, hS.2.2.2.2.2.2.2.2.2.2.2.1⟩ HL.out).mono ?_; clear hS; rintro e w' ⟨x3, rfl, hA, hb⟩; have hIs := hA.is; clear hA)
        | (go_at_call 14; have hS : FinC w bl bx nm wk (.slice p1 ms.length p2) (.slice p3 rs.length p4) (.slice u1 ms.length u2) (.slice u3 rs.length u4) ms rs _ := (by first | assumption | exact HS.drew); refine (eqCalendar_same ⟨nm, ms, rs, wk⟩ _ _ _ ⟨_, _, rfl, HSZ.out, hS.2.2.2.2.2.2.2.2.2.2.2.2.1, hS.2.2.2.2.2.2.2.2.2.2.2.2.2.1⟩ (by assumption) HL.out).mono ?_; clear hS; rintro e w' ⟨rfl, hb⟩))
    have HT' : FinC w bl bx nm wk (.slice p1 ms.length p2) (.slice p3 rs.length p4) (.slice u1 ms.length u2) (.slice u3 rs.length u4) ms rs w' := by assumption
    have HU := Lib.hid HT'.2.2.2.2.2.2.2.2.2.2.2.2.2.2
    clear HT' HS
    go_wp2_with fail
    go_ret
    exact ⟨rfl, HU.out⟩
end Go.Proofs.YtpbepibklipfpaaDoor

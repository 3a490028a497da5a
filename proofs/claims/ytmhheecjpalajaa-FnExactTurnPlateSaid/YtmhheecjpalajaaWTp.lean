/-
  The walk of laws.FnExactTurnPlate.
-/
import Derived.Test.YtmhheecjpalajaaPlAe
import Derived.Test.YtmhheecjpalajaaPlAb
namespace Go.Proofs.Ytmhheecjpalajaa
open Go.RowKit
set_option maxRecDepth 100000 in
set_option maxHeartbeats 8000000 in
theorem FnExactTurnPlate_walk (v : Value) (p : Pl4) (ss : List Sit) (w : World) (h : IsPt w v p ss) :
    Calls Try.prog 4 #[v] w fun e w' => e = .returned (.bool true) ∧ Below w.heap.size w w' := by
  obtain ⟨pa, pn, pc, rfl, hA⟩ := h
  obtain ⟨q, rs, s, hrl, hU⟩ := MpRet.u (p := p) (m := 2) (ss := ss)
  obtain ⟨W, H, M, G⟩ := p
  obtain ⟨Q1, Q2, Q3, Q4⟩ := q
  have HA := Lib.hid hA
  have CS := Lib.hid (fun g cap W' (h : SlSi W' (.slice (some ⟨g, 0, none⟩) ss.length cap) ss) => (TurnPlateS_any ⟨W, H, M, G⟩ ss g cap W' h).mono (hU W'))
  have CI := Lib.hid (fun g cap W' (h : SlSi W' (.slice (some ⟨g, 0, none⟩) ss.length cap) ss) (h1 : g < W'.heap.size) (h2 : SitesAt W' g ss) => (TurnPlateI_any ⟨W, H, M, G⟩ ss g cap W' h h1 h2).mono (hU W'))
  clear hU
  have hne : (s != s) = false := by simp
  have hne2 : ((1 : Int) + 5 * (rs.length : Int) != 1 + 5 * (rs.length : Int)) = false := by simp
  have hn1 : ¬ (1 : Int) + 5 * (rs.length : Int) < 0 := by omega
  have hn2 : ¬ (1 : Int) + 5 * (ss.length : Int) < 0 := by omega
  unfold MpU plV at CS CI
  unfold plV
  have X := Lib.hid (BoxL.new w [.int .i64 W, .int .i64 H, .int .i64 M, .int .i64 G, .slice pa pn pc] 24)
  have L0 := Lib.hid (bA (bR w) (.cells #[.int .i64 W, .int .i64 H, .int .i64 M, .int .i64 G, .slice pa pn pc] 24))
  obtain ⟨c0, c1, c2, c3, c4, c5⟩ := X.out.c5
  clear hA
  go_enter Try.func4, Try.ntmps4
  go_wp2_with fail
  generalize w.alloc (.cells #[.int .i64 W, .int .i64 H, .int .i64 M, .int .i64 G, .slice pa pn pc] 24) = W0 at *
  generalize hbl : w.heap.size = bl at X c0 c1 c2 c3 c4 c5 ⊢
  have HBL := Lib.hid hbl
  clear hbl
  refine (szPlate_any _ ⟨W, H, M, G⟩ ss 1048576 _ ⟨_, _, _, rfl, HA.out.keep L0.out⟩ (by omega) (by omega)).mono ?_
  rintro e w1 ⟨r0, rfl, r1, r2, r3, hb⟩
  have X1 := Lib.hid (X.out.keep hb)
  have L1 := Lib.hid (bT L0.out hb)
  have R := Lib.hid r3
  clear hb r3 c0 c1 c2 c3 c4 c5
  obtain ⟨c0, c1, c2, c3, c4, c5⟩ := X1.out.c5
  by_cases hr : r0 < 0
  · go_wp2_with fail
    go_ret
    exact ⟨rfl, L1.out⟩
  · have HL := Lib.hid (R.out (by omega))
    have hl := HL.out
    go_wp2_with fail
    refine (toPlate_at _ ⟨W, H, M, G⟩ ss _ ⟨_, _, _, rfl, HA.out.keep L1.out⟩ HL.out).mono ?_
    rintro e w2 ⟨g1, rfl, hS, hb⟩
    have V1 := Lib.hid hS.sl
    have L2 := Lib.hid (bT L1.out hb)
    have X2 := Lib.hid (X1.out.keep hb)
    clear c0 c1 c2 c3 c4 c5 hS hb
    obtain ⟨c0, c1, c2, c3, c4, c5⟩ := X2.out.c5
    unfold plV
    go_wp2_with fail
    refine (CS.out _ _ _ V1.out).mono ?_
    rintro e w3 ⟨uw, rfl, hSo, hb⟩
    obtain ⟨wa, wc, rfl⟩ := own_slice hSo.2.2
    have FW := Lib.hid (fun (k : Nat) (e : (Value.slice wa rs.length wc).ownBlock = some k) => own_blk hSo.2.2 k e)
    have hb' : Below w3.heap.size w3 (w3.alloc (.cells #[.int .i64 Q1, .int .i64 Q2, .int .i64 Q3, .int .i64 Q4, .slice wa rs.length wc] 28)) := bA (bR _) _
    have W3 := Lib.hid (hSo.keep hb')
    have L3 := Lib.hid (bT (bT L2.out hb) hb')
    have X3 := Lib.hid ((X2.out.keep hb).keep hb')
    have Z3 := Lib.hid (BoxL.new w3 [.int .i64 Q1, .int .i64 Q2, .int .i64 Q3, .int .i64 Q4, .slice wa rs.length wc] 28)
    have hs2 : w2.heap.size ≤ w3.heap.size := hb.size
    have hbl2 := X2.out.lt
    have hwz3 := L3.out.size
    clear c0 c1 c2 c3 c4 c5 hSo hb hb'
    obtain ⟨c0, c1, c2, c3, c4, c5⟩ := X3.out.c5
    go_wp2_with fail
    generalize w3.alloc (.cells #[.int .i64 Q1, .int .i64 Q2, .int .i64 Q3, .int .i64 Q4, .slice wa rs.length wc] 28) = W3' at *
    generalize hbw : w3.heap.size = bw at *
    have hbw3 := Z3.out.lt
    refine (toPlate_at _ ⟨W, H, M, G⟩ ss _ ⟨_, _, _, rfl, HA.out.keep L3.out⟩ HL.out).mono ?_
    rintro e w4 ⟨gx, rfl, hS, hb⟩
    obtain ⟨hx1, hx2, hx3⟩ := hS.at_
    have hb' : Below w4.heap.size w4 (w4.alloc (.cells #[.int .i64 W, .int .i64 H, .int .i64 M, .int .i64 G, .slice (some ⟨gx, 0, none⟩) ss.length ss.length] 28)) := bA (bR _) _
    have A4 := Lib.hid (hS.keep hb')
    have h34 : W3'.heap.size ≤ w4.heap.size := hb.size
    have L4 := Lib.hid (bT (bT L3.out hb) hb')
    have W4 := Lib.hid ((W3.out.keep hb).keep hb')
    have X4 := Lib.hid ((X3.out.keep hb).keep hb')
    have Z4 := Lib.hid ((Z3.out.keep hb).keep hb')
    have Y4 := Lib.hid (BoxL.new w4 [.int .i64 W, .int .i64 H, .int .i64 M, .int .i64 G, .slice (some ⟨gx, 0, none⟩) ss.length ss.length] 28)
    clear c0 c1 c2 c3 c4 c5 hS hb hb' hx3
    obtain ⟨c0, c1, c2, c3, c4, c5⟩ := X4.out.c5
    obtain ⟨d0, d1, d2, d3, d4, d5⟩ := Y4.out.c5
    unfold plV
    go_wp2_with fail
    generalize w4.alloc (.cells #[.int .i64 W, .int .i64 H, .int .i64 M, .int .i64 G, .slice (some ⟨gx, 0, none⟩) ss.length ss.length] 28) = W4' at *
    generalize hbx : w4.heap.size = bx at *
    have hbx4 := Y4.out.lt
    have hwz4 := L4.out.size
    refine (CI.out _ _ _ A4.out.sl A4.out.at_.2.1 A4.out.at_.2.2).mono ?_
    rintro e w5 ⟨ug, rfl, hSo, hb⟩
    obtain ⟨ga, gc, rfl⟩ := own_slice hSo.2.2
    have FG := Lib.hid (fun (k : Nat) (e : (Value.slice ga rs.length gc).ownBlock = some k) => own_blk hSo.2.2 k e)
    have hb' : Below w5.heap.size w5 (w5.alloc (.cells #[.int .i64 Q1, .int .i64 Q2, .int .i64 Q3, .int .i64 Q4, .slice ga rs.length gc] 28)) := bA (bR _) _
    have hs5 : W4'.heap.size ≤ w5.heap.size := hb.size
    have V5 := Lib.hid (BoxL.new w5 [.int .i64 Q1, .int .i64 Q2, .int .i64 Q3, .int .i64 Q4, .slice ga rs.length gc] 28)
    have Q5 := Lib.hid (show RwM w2.heap.size W4'.heap.size W3'.heap.size bw w5.heap.size [.int .i64 Q1, .int .i64 Q2, .int .i64 Q3, .int .i64 Q4] (.slice wa rs.length wc) (.slice ga rs.length gc) (.slice (some ⟨gx, 0, none⟩) ss.length ss.length) rs ss _ from ⟨(W4.out.keep hb).keep hb', hSo.keep hb', (A4.out.keep hb).keep hb', (Z4.out.keep hb).keep hb', V5.out⟩)
    have L5 := Lib.hid (bT (bT L4.out hb) hb')
    have X5 := Lib.hid ((X4.out.keep hb).keep hb')
    have Y5 := Lib.hid ((Y4.out.keep hb).keep hb')
    have U5 := Lib.hid ((Z4.out.keep hb).keep hb')
    clear c0 c1 c2 c3 c4 c5 d0 d1 d2 d3 d4 d5 hSo hb hb'
    obtain ⟨c0, c1, c2, c3, c4, c5⟩ := V5.out.c5
    obtain ⟨d0, d1, d2, d3, d4, d5⟩ := U5.out.c5
    go_wp2_with fail
    generalize w5.alloc (.cells #[.int .i64 Q1, .int .i64 Q2, .int .i64 Q3, .int .i64 Q4, .slice ga rs.length gc] 28) = W5' at *
    generalize hbg : w5.heap.size = bg at *
    refine (eqPlate_same ⟨Q1, Q2, Q3, Q4⟩ rs _ _ _ Q5.out.og.sl Q5.out.ow.sl).mono ?_
    rintro e w6 ⟨rfl, hb6⟩
    have Q6 := Lib.hid (Q5.out.keep hb6)
    have L6 := Lib.hid (bT L5.out hb6)
    have X6 := Lib.hid (X5.out.keep hb6)
    have Y6 := Lib.hid (Y5.out.keep hb6)
    clear hb6 c0 c1 c2 c3 c4 c5 d0 d1 d2 d3 d4 d5 V5 U5
    obtain ⟨c0, c1, c2, c3, c4, c5⟩ := X6.out.c5
    obtain ⟨d0, d1, d2, d3, d4, d5⟩ := Y6.out.c5
    go_wp2_with fail
    have HS : FinM w bl bx W H M G pa pn pc (.slice (some ⟨gx, 0, none⟩) ss.length ss.length) ss (RwM w2.heap.size W4'.heap.size W3'.heap.size bw bg [.int .i64 Q1, .int .i64 Q2, .int .i64 Q3, .int .i64 Q4] (.slice wa rs.length wc) (.slice ga rs.length gc) (.slice (some ⟨gx, 0, none⟩) ss.length ss.length) rs ss) w6 := ⟨c0, c1, c2, c3, c4, d0, d1, d2, d3, d4, c5, d5, HA.out.keep L6.out, X6.out, L6.out, Q6.out⟩
    clear c0 c1 c2 c3 c4 c5 d0 d1 d2 d3 d4 d5 V1 A4 L0 L1 L2 L3 L4 L5 L6 X X1 X2 X3 X4 X5 X6 Y4 Y5 Y6 CS W3 W4 Q5 Q6 Z3 Z4
    go_region_held3 (fun w' => w'.cell? ⟨bl, 0, none⟩ = some (.int .i64 W) ∧ w'.cell? ⟨bl, 1, none⟩ = some (.int .i64 H) ∧ w'.cell? ⟨bl, 2, none⟩ = some (.int .i64 M) ∧ w'.cell? ⟨bl, 3, none⟩ = some (.int .i64 G) ∧ w'.cell? ⟨bl, 4, none⟩ = some (.slice pa pn pc) ∧ w'.cell? ⟨bx, 0, none⟩ = some (.int .i64 W) ∧ w'.cell? ⟨bx, 1, none⟩ = some (.int .i64 H) ∧ w'.cell? ⟨bx, 2, none⟩ = some (.int .i64 M) ∧ w'.cell? ⟨bx, 3, none⟩ = some (.int .i64 G) ∧ w'.cell? ⟨bx, 4, none⟩ = some (.slice (some ⟨gx, 0, none⟩) ss.length ss.length) ∧ bl < w'.heap.size ∧ bx < w'.heap.size ∧ IsSi w' pa pn pc ss ∧ BoxL w' bl [.int .i64 W, .int .i64 H, .int .i64 M, .int .i64 G, .slice pa pn pc] ∧ Below w.heap.size w w' ∧ RwM w2.heap.size W4'.heap.size W3'.heap.size bw bg [.int .i64 Q1, .int .i64 Q2, .int .i64 Q3, .int .i64 Q4] (.slice wa rs.length wc) (.slice ga rs.length gc) (.slice (some ⟨gx, 0, none⟩) ss.length ss.length) rs ss w') (first | exact HS.drew | assumption | exact FinM.keep hb (by first | assumption | exact HS.drew))
      (first
        | (go_at_call 9; have hS : FinM w bl bx W H M G pa pn pc (.slice (some ⟨gx, 0, none⟩) ss.length ss.length) ss (RwM w2.heap.size W4'.heap.size W3'.heap.size bw bg [.int .i64 Q1, .int .i64 Q2, .int .i64 Q3, .int .i64 Q4] (.slice wa rs.length wc) (.slice ga rs.length gc) (.slice (some ⟨gx, 0, none⟩) ss.length ss.length) rs ss) _ := (by first | assumption | exact HS.drew); refine (toPlate_any _ ⟨W, H, M, G⟩ ss _ ⟨_, _, _, rfl, hS.2.2.2.2.2.2.2.2.2.2.2.2.1⟩ HL.out).mono ?_; clear hS; rintro e w' ⟨u3, rfl, hA, hb⟩; unfold plV)
        | (go_at_call 11; have hS : FinM w bl bx W H M G pa pn pc (.slice (some ⟨gx, 0, none⟩) ss.length ss.length) ss (RwM w2.heap.size W4'.heap.size W3'.heap.size bw bg [.int .i64 Q1, .int .i64 Q2, .int .i64 Q3, .int .i64 Q4] (.slice wa rs.length wc) (.slice ga rs.length gc) (.slice (some ⟨gx, 0, none⟩) ss.length ss.length) rs ss) _ := (by first | assumption | exact HS.drew); refine (eqPlate_same ⟨W, H, M, G⟩ ss _ _ _ hS.2.2.2.2.2.2.2.2.2.2.2.2.2.2.2.ox.sl (OwSi.sl (by assumption))).mono ?_; clear hS; rintro e w' ⟨rfl, hb⟩))
    have HT' : FinM w bl bx W H M G pa pn pc (.slice (some ⟨gx, 0, none⟩) ss.length ss.length) ss (RwM w2.heap.size W4'.heap.size W3'.heap.size bw bg [.int .i64 Q1, .int .i64 Q2, .int .i64 Q3, .int .i64 Q4] (.slice wa rs.length wc) (.slice ga rs.length gc) (.slice (some ⟨gx, 0, none⟩) ss.length ss.length) rs ss) w' := by assumption
    obtain ⟨_, _, _, _, _, d0, d1, d2, d3, d4, _, d5, _, X7', L7', Q7'⟩ := HT'
    have X7 := Lib.hid X7'
    have L7 := Lib.hid L7'
    have Q7 := Lib.hid Q7'
    clear HS X7' L7' Q7'
    try clear hb
    go_wp2_with fail
    refine (markPlate_any ⟨W, H, M, G⟩ 1 ss.length (siC ss) _ _ _ Q7.out.ox.2.2 (siC_len ss) (by omega) (by omega) (by omega)).mono ?_
    rintro e w8 ⟨rfl, _, hg⟩
    have W8 := Lib.hid (Q7.out.ow.grownM hg (fun k e e2 => by have := FW.out k e; have e3 : k = gx := Option.some.inj e2; omega))
    have G8 := Lib.hid (Q7.out.og.grownM hg (fun k e e2 => by have := FG.out k e; have e3 : k = gx := Option.some.inj e2; omega))
    have Z8 := Lib.hid (Q7.out.bw.grownM hg (fun e => by have e3 : bw = gx := Option.some.inj e; omega))
    have V8 := Lib.hid (Q7.out.bg.grownM hg (fun e => by have e3 : bg = gx := Option.some.inj e; omega))
    have X8 := Lib.hid (X7.out.grownM hg (fun e => by have e3 : bl = gx := Option.some.inj e; omega))
    have L8 := Lib.hid (bel_grownS L7.out hg (fun k e => by have e3 : gx = k := Option.some.inj e; omega))
    clear hg d0 d1 d2 d3 d4 d5 X7 L7 Q7
    obtain ⟨c0, c1, c2, c3, c4, c5⟩ := V8.out.c5
    obtain ⟨d0, d1, d2, d3, d4, d5⟩ := Z8.out.c5
    go_wp2_with fail
    refine (eqPlate_same ⟨Q1, Q2, Q3, Q4⟩ rs _ _ _ G8.out.sl W8.out.sl).mono ?_
    rintro e w9 ⟨rfl, hb9⟩
    have W9 := Lib.hid (W8.out.keep hb9)
    have G9 := Lib.hid (G8.out.keep hb9)
    have Z9 := Lib.hid (Z8.out.keep hb9)
    have V9 := Lib.hid (V8.out.keep hb9)
    have X9 := Lib.hid (X8.out.keep hb9)
    have L9 := Lib.hid (bT L8.out hb9)
    clear hb9 W8 G8 X8 L8 Z8 V8 c0 c1 c2 c3 c4 c5 d0 d1 d2 d3 d4 d5
    obtain ⟨c0, c1, c2, c3, c4, c5⟩ := V9.out.c5
    go_wp2_with fail
    refine (markPlate_any ⟨Q1, Q2, Q3, Q4⟩ 1 rs.length (siC rs) _ _ _ G9.out.2.2 (siC_len rs) (by omega) (by omega) (by omega)).mono ?_
    rintro e wa' ⟨rfl, hva, hga⟩
    have Ma := Lib.hid (mk_ow hva (by omega) (by omega))
    have Wa := Lib.hid (W9.out.grownM hga (fun k e e2 => by have := FG.out k e2.symm; have := FW.out k e; omega))
    have Va := Lib.hid (V9.out.grownM hga (fun e => by have := FG.out _ e.symm; omega))
    have Xa := Lib.hid (X9.out.grownM hga (fun e => by have := FG.out _ e.symm; omega))
    have Za := Lib.hid (Z9.out.grownM hga (fun e => by have := FG.out _ e.symm; omega))
    have La := Lib.hid (bel_grownS L9.out hga (fun k e => by have := FG.out k e; omega))
    clear hva hga W9 G9 X9 L9 Z9 V9 c0 c1 c2 c3 c4 c5
    obtain ⟨c0, c1, c2, c3, c4, c5⟩ := Va.out.c5
    go_wp2_with fail
    refine (heldPlate_same ⟨Q1, Q2, Q3, Q4⟩ 1 rs.length _ wa' Ma.out.sl (by omega) (by omega) (by omega)).mono ?_
    rintro e wb ⟨rfl, hb⟩
    have Mb := Lib.hid (Ma.out.keep hb)
    have Wb := Lib.hid (Wa.out.keep hb)
    have Vb := Lib.hid (Va.out.keep hb)
    have Xb := Lib.hid (Xa.out.keep hb)
    have Zb := Lib.hid (Za.out.keep hb)
    have Lb := Lib.hid (bT La.out hb)
    clear hb Ma Wa Va Xa Za La c0 c1 c2 c3 c4 c5
    obtain ⟨c0, c1, c2, c3, c4, c5⟩ := Xb.out.c5
    go_wp2_with fail
    refine (toPlate_at _ ⟨W, H, M, G⟩ ss _ ⟨_, _, _, rfl, HA.out.keep Lb.out⟩ HL.out).mono ?_
    rintro e wc' ⟨gy, rfl, hS, hb⟩
    have Sc := Lib.hid hS
    have Mc := Lib.hid (Mb.out.keep hb)
    have Wc := Lib.hid (Wb.out.keep hb)
    have Vc := Lib.hid (Vb.out.keep hb)
    have Zc := Lib.hid (Zb.out.keep hb)
    have Lc := Lib.hid (bT Lb.out hb)
    clear c0 c1 c2 c3 c4 c5 hS hb Mb Wb Lb Xb Vb Zb
    unfold plV
    go_wp2_with fail
    refine (CI.out _ _ _ Sc.out.sl Sc.out.at_.2.1 Sc.out.at_.2.2).mono ?_
    rintro e wd ⟨uh, rfl, hSo, hb⟩
    obtain ⟨ha, hc, rfl⟩ := own_slice hSo.2.2
    have hb' : Below wd.heap.size wd (wd.alloc (.cells #[.int .i64 Q1, .int .i64 Q2, .int .i64 Q3, .int .i64 Q4, .slice ha rs.length hc] 28)) := bA (bR _) _
    have Hd := Lib.hid (hSo.keep hb')
    have Md := Lib.hid ((Mc.out.keep hb).keep hb')
    have Wd := Lib.hid ((Wc.out.keep hb).keep hb')
    have Vd := Lib.hid ((Vc.out.keep hb).keep hb')
    have Zd := Lib.hid ((Zc.out.keep hb).keep hb')
    have Ld := Lib.hid (bT (bT Lc.out hb) hb')
    have Yd := Lib.hid (BoxL.new wd [.int .i64 Q1, .int .i64 Q2, .int .i64 Q3, .int .i64 Q4, .slice ha rs.length hc] 28)
    clear hSo hb hb' Mc Wc Lc Sc Vc Zc
    obtain ⟨c0, c1, c2, c3, c4, c5⟩ := Yd.out.c5
    obtain ⟨d0, d1, d2, d3, d4, d5⟩ := Zd.out.c5
    go_wp2_with fail
    generalize wd.alloc (.cells #[.int .i64 Q1, .int .i64 Q2, .int .i64 Q3, .int .i64 Q4, .slice ha rs.length hc] 28) = Wd' at *
    generalize hbh : wd.heap.size = bh at *
    refine (eqPlate_same ⟨Q1, Q2, Q3, Q4⟩ rs _ _ _ Hd.out.sl Wd.out.sl).mono ?_
    rintro e we ⟨rfl, hb⟩
    have Me := Lib.hid (Md.out.keep hb)
    have Ve := Lib.hid (Vd.out.keep hb)
    have Le := Lib.hid (bT Ld.out hb)
    clear hb Md Wd Ld Hd Vd Zd Yd c0 c1 c2 c3 c4 c5 d0 d1 d2 d3 d4 d5
    obtain ⟨c0, c1, c2, c3, c4, c5⟩ := Ve.out.c5
    go_wp2_with fail
    refine (heldPlate_same ⟨Q1, Q2, Q3, Q4⟩ 1 rs.length _ we Me.out.sl (by omega) (by omega) (by omega)).mono ?_
    rintro e wf ⟨rfl, hb⟩
    have Lf := Lib.hid (bT Le.out hb)
    clear hb
    go_wp2_with fail
    go_ret
    exact ⟨rfl, Lf.out⟩
end Go.Proofs.Ytmhheecjpalajaa

/-
  The walk of laws.FnExactClashes.
-/
import Derived.Test.YtgkfelochpllgaaPlW
import Derived.Test.YtgkfelochpllgaaPlP
import Derived.Test.YtgkfelochpllgaaEqC
namespace Go.Proofs.Ytgkfelochpllgaa
open Go.RowKit

theorem SlP.grownQ {W W' : World} {v : Value} {ts : List (Int × Int)} {row : Option Nat} (h : SlP W v ts) (g : W.grownBy W' row) (hn : ∀ k, v.ownBlock = some k → some k ≠ row) : SlP W' v ts := by
  obtain ⟨ao, cap, e, h1⟩ := h
  refine ⟨ao, cap, e, fun hl => ?_⟩
  obtain ⟨b, eg, hg, hc⟩ := h1 hl
  have e2 := g.block b hg (hn b (by rw [e, eg]; rfl))
  refine ⟨b, eg, Nat.lt_of_lt_of_le hg g.size, fun i hi => ?_⟩
  have := hc i hi
  unfold World.cell? at this ⊢
  simpa [e2] using this
theorem ownQ {W W' : World} {B : Nat} {t : TypeId} {sz n : Nat} {v : Value} {xs : List Value} {row : Option Nat} (h : W.ownsRow B t sz v n xs) (g : W.grownBy W' row) (hne : ∀ k, v.ownBlock = some k → some k ≠ row) : W'.ownsRow B t sz v n xs := by
  refine ⟨h.1, ?_⟩
  rcases h.2 with h0 | ⟨g', cap, cur, h0, hB, hh, r⟩
  · exact .inl h0
  · exact .inr ⟨g', cap, cur, h0, hB, (g.block g' (Array.getElem?_eq_some_iff.1 hh).1 (fun e => hne g' (by rw [h0]; rfl) e)).trans hh, r⟩
/-- The rows that a law with a list as its result keeps. -/
def RwC (B3 B5 : Nat) (vw vg u : Value) (r : List (Int × Int)) (ss : List Sit) (w' : World) : Prop := SlP w' vw r ∧ w'.ownsRow B5 85 2 vg r.length (pairC r) ∧ OwSi B3 w' u ss
theorem RwC.keep {B3 B5 : Nat} {vw vg u : Value} {r : List (Int × Int)} {ss : List Sit} {w' w2 : World} (h : RwC B3 B5 vw vg u r ss w') (hb : Below w'.heap.size w' w2) : RwC B3 B5 vw vg u r ss w2 := ⟨h.1.keep hb, own_keep h.2.1 hb, h.2.2.keep hb⟩
def FinC (W0 : World) (bl bx : Nat) (W H M G : Int) (pa : Option Addr) (pn pc : Nat) (u : Value) (ss : List Sit) (B3 B5 : Nat) (vw vg : Value) (r : List (Int × Int)) (w' : World) : Prop :=
  w'.cell? ⟨bl, 0, none⟩ = some (.int .i64 W) ∧ w'.cell? ⟨bl, 1, none⟩ = some (.int .i64 H) ∧ w'.cell? ⟨bl, 2, none⟩ = some (.int .i64 M) ∧ w'.cell? ⟨bl, 3, none⟩ = some (.int .i64 G) ∧ w'.cell? ⟨bl, 4, none⟩ = some (.slice pa pn pc) ∧ w'.cell? ⟨bx, 0, none⟩ = some (.int .i64 W) ∧ w'.cell? ⟨bx, 1, none⟩ = some (.int .i64 H) ∧ w'.cell? ⟨bx, 2, none⟩ = some (.int .i64 M) ∧ w'.cell? ⟨bx, 3, none⟩ = some (.int .i64 G) ∧ w'.cell? ⟨bx, 4, none⟩ = some u ∧ bl < w'.heap.size ∧ bx < w'.heap.size ∧ IsSi w' pa pn pc ss ∧ BoxL w' bl [.int .i64 W, .int .i64 H, .int .i64 M, .int .i64 G, .slice pa pn pc] ∧ Below W0.heap.size W0 w' ∧ RwC B3 B5 vw vg u r ss w'
theorem FinC.keep {W0 : World} {bl bx : Nat} {W H M G : Int} {pa : Option Addr} {pn pc : Nat} {u : Value} {ss : List Sit} {B3 B5 : Nat} {vw vg : Value} {r : List (Int × Int)} {w' w2 : World} (hb : Below w'.heap.size w' w2) (h : FinC W0 bl bx W H M G pa pn pc u ss B3 B5 vw vg r w') : FinC W0 bl bx W H M G pa pn pc u ss B3 B5 vw vg r w2 := by
  obtain ⟨a0, a1, a2, a3, a4, c0, c1, c2, c3, c4, e1, e2, e3, e4, e5, e6⟩ := h
  exact ⟨(hb.cell (p := ⟨bl, 0, none⟩) e1).trans a0, (hb.cell (p := ⟨bl, 1, none⟩) e1).trans a1, (hb.cell (p := ⟨bl, 2, none⟩) e1).trans a2, (hb.cell (p := ⟨bl, 3, none⟩) e1).trans a3, (hb.cell (p := ⟨bl, 4, none⟩) e1).trans a4,
    (hb.cell (p := ⟨bx, 0, none⟩) e2).trans c0, (hb.cell (p := ⟨bx, 1, none⟩) e2).trans c1, (hb.cell (p := ⟨bx, 2, none⟩) e2).trans c2, (hb.cell (p := ⟨bx, 3, none⟩) e2).trans c3, (hb.cell (p := ⟨bx, 4, none⟩) e2).trans c4, Nat.lt_of_lt_of_le e1 hb.size, Nat.lt_of_lt_of_le e2 hb.size, e3.keep hb, e4.keep hb, bT e5 hb, e6.keep hb⟩
theorem FinC.drew {W0 : World} {bl bx : Nat} {W H M G : Int} {pa : Option Addr} {pn pc : Nat} {u : Value} {ss : List Sit} {B3 B5 : Nat} {vw vg : Value} {r : List (Int × Int)} {w' : World} (h : FinC W0 bl bx W H M G pa pn pc u ss B3 B5 vw vg r w') : FinC W0 bl bx W H M G pa pn pc u ss B3 B5 vw vg r w'.drew := h.keep (bR _).drew
set_option maxRecDepth 100000 in
set_option maxHeartbeats 16000000 in
theorem FnExactClashes_walk (v : Value) (p : Pl4) (ss : List Sit) (w : World) (h : IsPt w v p ss) :
    Calls Try.prog 5 #[v] w fun e w' => e = .returned (.bool true) ∧ Below w.heap.size w w' := by
  obtain ⟨pa, pn, pc, rfl, hA⟩ := h
  obtain ⟨W, H, M, G⟩ := p
  have HA := Lib.hid hA
  have CS := Lib.hid (fun v W' (h : SlSi W' v ss) => ClashesS_any ⟨W, H, M, G⟩ ss v W' h)
  have CI := Lib.hid (fun v W' (h : SlSi W' v ss) => ClashesI_any ⟨W, H, M, G⟩ ss v W' h)
  have hml := clF_len W H M G ss
  simp only at CS CI
  generalize clF W H M G ss = q at *
  obtain ⟨r, s⟩ := q
  simp only at hml
  have hne : (s != s) = false := by simp
  have hne2 : ((1 : Int) + 2 * (r.length : Int) != 1 + 2 * (r.length : Int)) = false := by simp
  have hn1 : ¬ (1 : Int) + 2 * (r.length : Int) < 0 := by omega
  have hn2 : ¬ (1 : Int) + 5 * (ss.length : Int) < 0 := by omega
  unfold CoPost plV at CS CI
  simp only at CS CI
  unfold plV
  have X := Lib.hid (BoxL.new w [.int .i64 W, .int .i64 H, .int .i64 M, .int .i64 G, .slice pa pn pc] 42)
  have L0 := Lib.hid (bA (bR w) (.cells #[.int .i64 W, .int .i64 H, .int .i64 M, .int .i64 G, .slice pa pn pc] 42))
  obtain ⟨c0, c1, c2, c3, c4, c5⟩ := X.out.c5
  clear hA
  go_enter Try.func5, Try.ntmps5
  go_wp2_with fail
  generalize w.alloc (.cells #[.int .i64 W, .int .i64 H, .int .i64 M, .int .i64 G, .slice pa pn pc] 42) = W0 at *
  generalize hbl : w.heap.size = bl at X c0 c1 c2 c3 c4 c5 ⊢
  have HBL := Lib.hid hbl
  clear hbl
  refine (szPlate_any _ ⟨W, H, M, G⟩ ss 1048576 _ ⟨_, _, _, rfl, HA.out.keep L0.out⟩ (by omega) (by omega)).mono ?_
  rintro e w1 ⟨r0, rfl, r1, r2, r3, hb⟩
  have X1 := Lib.hid (X.out.keep hb)
  have L1 := Lib.hid (bT L0.out hb)
  have R := Lib.hid r3
  clear hb r3 c0 c1 c2 c3 c4 c5
  obtain ⟨c0, c1, c2, c3, c4, c5⟩ := X1.out.c5
  by_cases hr : r0 < 0
  · go_wp2_with fail
    go_ret
    exact ⟨rfl, L1.out⟩
  · have HL := Lib.hid (R.out (by omega))
    have hl := HL.out
    go_wp2_with fail
    refine (toPlate_any _ ⟨W, H, M, G⟩ ss _ ⟨_, _, _, rfl, HA.out.keep L1.out⟩ HL.out).mono ?_
    rintro e w2 ⟨u1, rfl, hS, hb⟩
    have V1 := Lib.hid hS.sl
    have L2 := Lib.hid (bT L1.out hb)
    have X2 := Lib.hid (X1.out.keep hb)
    clear c0 c1 c2 c3 c4 c5 hS hb
    obtain ⟨c0, c1, c2, c3, c4, c5⟩ := X2.out.c5
    unfold plV
    go_wp2_with fail
    refine (CS.out _ _ V1.out).mono ?_
    rintro e w3 ⟨vw, rfl, hSo⟩
    have FW := Lib.hid (fun (k : Nat) (e : vw.ownBlock = some k) => (own_blk hSo.1 k e).2)
    have W3 := Lib.hid (slP_of hSo.1)
    have L3 := Lib.hid (bT L2.out hSo.2)
    have X3 := Lib.hid (X2.out.keep hSo.2)
    have hbl3 := X3.out.lt
    have hw3 := L3.out.size
    clear c0 c1 c2 c3 c4 c5 hSo
    obtain ⟨c0, c1, c2, c3, c4, c5⟩ := X3.out.c5
    go_wp2_with fail
    refine (toPlate_any _ ⟨W, H, M, G⟩ ss _ ⟨_, _, _, rfl, HA.out.keep L3.out⟩ HL.out).mono ?_
    rintro e w4 ⟨u2, rfl, hS, hb⟩
    obtain ⟨_, ao, an, rfl, _⟩ := id hS.sl
    have FX := Lib.hid (fun (k : Nat) (e : (Value.slice ao ss.length an).ownBlock = some k) => own_blk hS.2.2 k e)
    have hb' : Below w4.heap.size w4 (w4.alloc (.cells #[.int .i64 W, .int .i64 H, .int .i64 M, .int .i64 G, .slice ao ss.length an] 49)) := bA (bR _) _
    have A4 := Lib.hid (hS.keep hb')
    have h34 : w3.heap.size ≤ w4.heap.size := hb.size
    have L4 := Lib.hid (bT (bT L3.out hb) hb')
    have W4 := Lib.hid ((W3.out.keep hb).keep hb')
    have X4 := Lib.hid ((X3.out.keep hb).keep hb')
    have Y4 := Lib.hid (BoxL.new w4 [.int .i64 W, .int .i64 H, .int .i64 M, .int .i64 G, .slice ao ss.length an] 49)
    have hsz4 := hb'.size
    clear c0 c1 c2 c3 c4 c5 hS hb hb'
    obtain ⟨c0, c1, c2, c3, c4, c5⟩ := X4.out.c5
    obtain ⟨d0, d1, d2, d3, d4, d5⟩ := Y4.out.c5
    unfold plV
    go_wp2_with fail
    generalize w4.alloc (.cells #[.int .i64 W, .int .i64 H, .int .i64 M, .int .i64 G, .slice ao ss.length an] 49) = W4' at *
    generalize hbx : w4.heap.size = bx at *
    refine (CI.out _ _ A4.out.sl).mono ?_
    rintro e w5 ⟨vg, rfl, hSo⟩
    have FG := Lib.hid (fun (k : Nat) (e : vg.ownBlock = some k) => own_blk hSo.1 k e)
    have Q5 := Lib.hid (show RwC w3.heap.size W4'.heap.size vw vg (.slice ao ss.length an) r ss w5 from ⟨W4.out.keep hSo.2, hSo.1, A4.out.keep hSo.2⟩)
    have L5 := Lib.hid (bT L4.out hSo.2)
    have X5 := Lib.hid (X4.out.keep hSo.2)
    have Y5 := Lib.hid (Y4.out.keep hSo.2)
    clear c0 c1 c2 c3 c4 c5 d0 d1 d2 d3 d4 d5 hSo
    go_wp2_with fail
    refine (eqClashS_same r _ _ _ (slP_of Q5.out.2.1) Q5.out.1 (by omega)).mono ?_
    rintro e w6 ⟨rfl, hb6⟩
    have Q6 := Lib.hid (Q5.out.keep hb6)
    have L6 := Lib.hid (bT L5.out hb6)
    have X6 := Lib.hid (X5.out.keep hb6)
    have Y6 := Lib.hid (Y5.out.keep hb6)
    clear hb6
    obtain ⟨c0, c1, c2, c3, c4, c5⟩ := X6.out.c5
    obtain ⟨d0, d1, d2, d3, d4, d5⟩ := Y6.out.c5
    go_wp2_with fail
    have HS : FinC w bl bx W H M G pa pn pc (.slice ao ss.length an) ss w3.heap.size W4'.heap.size vw vg r w6 := ⟨c0, c1, c2, c3, c4, d0, d1, d2, d3, d4, c5, d5, HA.out.keep L6.out, X6.out, L6.out, Q6.out⟩
    clear c0 c1 c2 c3 c4 c5 d0 d1 d2 d3 d4 d5 V1 A4 L0 L1 L2 L3 L4 L5 L6 X X1 X2 X3 X4 X5 X6 Y4 Y5 Y6 CS W3 W4 Q5 Q6
    go_region_held3 (fun w' => w'.cell? ⟨bl, 0, none⟩ = some (.int .i64 W) ∧ w'.cell? ⟨bl, 1, none⟩ = some (.int .i64 H) ∧ w'.cell? ⟨bl, 2, none⟩ = some (.int .i64 M) ∧ w'.cell? ⟨bl, 3, none⟩ = some (.int .i64 G) ∧ w'.cell? ⟨bl, 4, none⟩ = some (.slice pa pn pc) ∧ w'.cell? ⟨bx, 0, none⟩ = some (.int .i64 W) ∧ w'.cell? ⟨bx, 1, none⟩ = some (.int .i64 H) ∧ w'.cell? ⟨bx, 2, none⟩ = some (.int .i64 M) ∧ w'.cell? ⟨bx, 3, none⟩ = some (.int .i64 G) ∧ w'.cell? ⟨bx, 4, none⟩ = some (.slice ao ss.length an) ∧ bl < w'.heap.size ∧ bx < w'.heap.size ∧ IsSi w' pa pn pc ss ∧ BoxL w' bl [.int .i64 W, .int .i64 H, .int .i64 M, .int .i64 G, .slice pa pn pc] ∧ Below w.heap.size w w' ∧ RwC w3.heap.size W4'.heap.size vw vg (.slice ao ss.length an) r ss w') (first | exact HS.drew | assumption | exact FinC.keep hb (by first | assumption | exact HS.drew))
      (first
        | (go_at_call 19; have hS : FinC w bl bx W H M G pa pn pc (.slice ao ss.length an) ss w3.heap.size W4'.heap.size vw vg r _ := (by first | assumption | exact HS.drew); refine (toPlate_any _ ⟨W, H, M, G⟩ ss _ ⟨_, _, _, rfl, hS.2.2.2.2.2.2.2.2.2.2.2.2.1⟩ HL.out).mono ?_; clear hS; rintro e w' ⟨u3, rfl, hA, hb⟩; unfold plV)
        | (go_at_call 22; have hS : FinC w bl bx W H M G pa pn pc (.slice ao ss.length an) ss w3.heap.size W4'.heap.size vw vg r _ := (by first | assumption | exact HS.drew); refine (eqPlate_same ⟨W, H, M, G⟩ ss _ _ _ hS.2.2.2.2.2.2.2.2.2.2.2.2.2.2.2.2.2.sl (OwSi.sl (by assumption))).mono ?_; clear hS; rintro e w' ⟨rfl, hb⟩))
    have HT' : FinC w bl bx W H M G pa pn pc (.slice ao ss.length an) ss w3.heap.size W4'.heap.size vw vg r w' := by assumption
    obtain ⟨_, _, _, _, _, d0, d1, d2, d3, d4, _, d5, _, X7', L7', Q7'⟩ := HT'
    have X7 := Lib.hid X7'
    have L7 := Lib.hid L7'
    have Q7 := Lib.hid Q7'
    clear HS X7' L7' Q7'
    try clear hb
    go_wp2_with fail
    refine (markPlate_any ⟨W, H, M, G⟩ 1 ss.length (siC ss) _ _ _ Q7.out.2.2.2.2 (siC_len ss) (by omega) (by omega) (by omega)).mono ?_
    rintro e w8 ⟨rfl, _, hg⟩
    have W8 := Lib.hid (Q7.out.1.grownQ hg (fun k e e2 => by have := FX.out k e2.symm; have := FW.out k e; omega))
    have G8 := Lib.hid (ownQ Q7.out.2.1 hg (fun k e e2 => by have := FX.out k e2.symm; have := FG.out k e; omega))
    have X8 := Lib.hid (X7.out.grownQ hg (fun e => by have := FX.out _ e.symm; omega))
    have L8 := Lib.hid (bel_grownS L7.out hg (fun k e => by have := FX.out k e; omega))
    clear hg d0 d1 d2 d3 d4 d5 X7 L7 Q7
    go_wp2_with fail
    refine (eqClashS_same r _ _ _ (slP_of G8.out) W8.out (by omega)).mono ?_
    rintro e w9 ⟨rfl, hb9⟩
    have W9 := Lib.hid (W8.out.keep hb9)
    have G9 := Lib.hid (own_keep G8.out hb9)
    have X9 := Lib.hid (X8.out.keep hb9)
    have L9 := Lib.hid (bT L8.out hb9)
    clear hb9 W8 G8 X8 L8
    go_wp2_with fail
    refine (markClashS_any 1 r _ _ _ G9.out (by omega) (by omega) (by omega)).mono ?_
    rintro e wa ⟨rfl, hva, hga⟩
    have Ma := Lib.hid (slP_of hva)
    have Wa := Lib.hid (W9.out.grownQ hga (fun k e e2 => by have := FG.out k e2.symm; have := FW.out k e; omega))
    have Xa := Lib.hid (X9.out.grownQ hga (fun e => by have := FG.out _ e.symm; omega))
    have La := Lib.hid (bel_grownS L9.out hga (fun k e => by have := FG.out k e; omega))
    clear hva hga W9 G9 X9 L9
    go_wp2_with fail
    refine (heldClashS_same 1 r.length vg wa Ma.out (by omega) (by omega) (by omega)).mono ?_
    rintro e wa' ⟨rfl, rfl⟩
    obtain ⟨c0, c1, c2, c3, c4, c5⟩ := Xa.out.c5
    go_wp2_with fail
    refine (toPlate_any _ ⟨W, H, M, G⟩ ss _ ⟨_, _, _, rfl, HA.out.keep La.out⟩ HL.out).mono ?_
    rintro e wb ⟨u4, rfl, hS, hb⟩
    have Vb := Lib.hid hS.sl
    have Mb := Lib.hid (Ma.out.keep hb)
    have Wb := Lib.hid (Wa.out.keep hb)
    have Lb := Lib.hid (bT La.out hb)
    clear c0 c1 c2 c3 c4 c5 hS hb Ma Wa La Xa
    unfold plV
    go_wp2_with fail
    refine (CI.out _ _ Vb.out).mono ?_
    rintro e wc ⟨vh, rfl, hSo⟩
    have Hc := Lib.hid (slP_of hSo.1)
    have Mc := Lib.hid (Mb.out.keep hSo.2)
    have Wc := Lib.hid (Wb.out.keep hSo.2)
    have Lc := Lib.hid (bT Lb.out hSo.2)
    clear hSo Mb Wb Lb Vb
    go_wp2_with fail
    refine (eqClashS_same r _ _ _ Hc.out Wc.out (by omega)).mono ?_
    rintro e wd ⟨rfl, hbd⟩
    have Md := Lib.hid (Mc.out.keep hbd)
    have Ld := Lib.hid (bT Lc.out hbd)
    clear hbd Mc Wc Lc Hc
    go_wp2_with fail
    refine (heldClashS_same 1 r.length vg wd Md.out (by omega) (by omega) (by omega)).mono ?_
    rintro e wd' ⟨rfl, rfl⟩
    go_wp2_with fail
    go_ret
    exact ⟨rfl, Ld.out⟩
end Go.Proofs.Ytgkfelochpllgaa

/-
  The walk of laws.FnExactValidPlate.
-/
import Derived.Test.YtmdfhmoipgaliaaPlJ
namespace Go.Proofs.Ytmdfhmoipgaliaa
open Go.RowKit

/-- What stands when a law over plates compares its argument at the end. -/
def FinP (W0 : World) (bl bx : Nat) (W H M G : Int) (pa : Option Addr) (pn pc : Nat) (u : Value) (ss : List Sit) (w' : World) : Prop :=
  w'.cell? ⟨bl, 0, none⟩ = some (.int .i64 W) ∧ w'.cell? ⟨bl, 1, none⟩ = some (.int .i64 H) ∧ w'.cell? ⟨bl, 2, none⟩ = some (.int .i64 M) ∧ w'.cell? ⟨bl, 3, none⟩ = some (.int .i64 G) ∧ w'.cell? ⟨bl, 4, none⟩ = some (.slice pa pn pc) ∧ w'.cell? ⟨bx, 0, none⟩ = some (.int .i64 W) ∧ w'.cell? ⟨bx, 1, none⟩ = some (.int .i64 H) ∧ w'.cell? ⟨bx, 2, none⟩ = some (.int .i64 M) ∧ w'.cell? ⟨bx, 3, none⟩ = some (.int .i64 G) ∧ w'.cell? ⟨bx, 4, none⟩ = some u ∧ bl < w'.heap.size ∧ bx < w'.heap.size ∧ IsSi w' pa pn pc ss ∧ SlSi w' u ss ∧ Below W0.heap.size W0 w'
theorem FinP.keep {W0 : World} {bl bx : Nat} {W H M G : Int} {pa : Option Addr} {pn pc : Nat} {u : Value} {ss : List Sit} {w' w2 : World} (hb : Below w'.heap.size w' w2) (h : FinP W0 bl bx W H M G pa pn pc u ss w') : FinP W0 bl bx W H M G pa pn pc u ss w2 := by
  obtain ⟨a0, a1, a2, a3, a4, c0, c1, c2, c3, c4, e1, e2, e3, e4, e5⟩ := h
  exact ⟨(hb.cell (p := ⟨bl, 0, none⟩) e1).trans a0, (hb.cell (p := ⟨bl, 1, none⟩) e1).trans a1, (hb.cell (p := ⟨bl, 2, none⟩) e1).trans a2, (hb.cell (p := ⟨bl, 3, none⟩) e1).trans a3, (hb.cell (p := ⟨bl, 4, none⟩) e1).trans a4,
    (hb.cell (p := ⟨bx, 0, none⟩) e2).trans c0, (hb.cell (p := ⟨bx, 1, none⟩) e2).trans c1, (hb.cell (p := ⟨bx, 2, none⟩) e2).trans c2, (hb.cell (p := ⟨bx, 3, none⟩) e2).trans c3, (hb.cell (p := ⟨bx, 4, none⟩) e2).trans c4, Nat.lt_of_lt_of_le e1 hb.size, Nat.lt_of_lt_of_le e2 hb.size, e3.keep hb, e4.keep hb, bT e5 hb⟩
theorem FinP.drew {W0 : World} {bl bx : Nat} {W H M G : Int} {pa : Option Addr} {pn pc : Nat} {u : Value} {ss : List Sit} {w' : World} (h : FinP W0 bl bx W H M G pa pn pc u ss w') : FinP W0 bl bx W H M G pa pn pc u ss w'.drew := h.keep (bR _).drew
set_option maxRecDepth 100000 in
set_option maxHeartbeats 8000000 in
theorem FnExactValidPlate_walk (v : Value) (p : Pl4) (ss : List Sit)  (w : World) (h : IsPt w v p ss)  :
    Calls Try.prog 5 #[v] w fun e w' => e = .returned (.bool true) ∧ Below w.heap.size w w' := by
  obtain ⟨pa, pn, pc, rfl, hA⟩ := h
  obtain ⟨W, H, M, G⟩ := p
  have CS := Lib.hid (fun v W' (h : SlSi W' v ss) => ValidPlateS_any ⟨W, H, M, G⟩ ss v W' h)
  have CI := Lib.hid (fun v W' (h : SlSi W' v ss) => ValidPlateI_any ⟨W, H, M, G⟩ ss v W' h)
  have hne : (okPl W H M G ss != okPl W H M G ss) = false := by simp
  simp only at CS CI
  generalize okPl W H M G ss = q at *
  unfold plV at CS CI
  unfold plV
  have X := Lib.hid (BoxL.new w [.int .i64 W, .int .i64 H, .int .i64 M, .int .i64 G, .slice pa pn pc] 40)
  have L0 := Lib.hid (bA (bR w) (.cells #[.int .i64 W, .int .i64 H, .int .i64 M, .int .i64 G, .slice pa pn pc] 40))
  have H0 := Lib.hid (hA.keep L0.out)
  obtain ⟨c0, c1, c2, c3, c4, c5⟩ := X.out.c5
  clear hA
  go_enter Try.func5, Try.ntmps5
  go_wp2_with fail
  generalize w.alloc (.cells #[.int .i64 W, .int .i64 H, .int .i64 M, .int .i64 G, .slice pa pn pc] 40) = W0 at *
  generalize hbl : w.heap.size = bl at X c0 c1 c2 c3 c4 c5 ⊢
  have HBL := Lib.hid hbl
  clear hbl
  refine (szPlate_any _ ⟨W, H, M, G⟩ ss 1048576 _ ⟨_, _, _, rfl, H0.out⟩ (by omega) (by omega)).mono ?_
  rintro e w1 ⟨r, rfl, r1, r2, r3, hb⟩
  have X1 := Lib.hid (X.out.keep hb)
  have L1 := Lib.hid (bT L0.out hb)
  have H1 := Lib.hid (H0.out.keep hb)
  have R := Lib.hid r3
  clear hb r3 c0 c1 c2 c3 c4 c5
  obtain ⟨c0, c1, c2, c3, c4, c5⟩ := X1.out.c5
  by_cases hr : r < 0
  · go_wp2_with fail
    go_ret
    exact ⟨rfl, L1.out⟩
  · have HL := Lib.hid (R.out (by omega))
    go_wp2_with fail
    refine (toPlate_any _ ⟨W, H, M, G⟩ ss _ ⟨_, _, _, rfl, H1.out⟩ HL.out).mono ?_
    rintro e w2 ⟨u1, rfl, hS, hb⟩
    have V1 := Lib.hid hS.sl
    have H2 := Lib.hid (H1.out.keep hb)
    have L2 := Lib.hid (bT L1.out hb)
    have X2 := Lib.hid (X1.out.keep hb)
    clear c0 c1 c2 c3 c4 c5 hS hb
    obtain ⟨c0, c1, c2, c3, c4, c5⟩ := X2.out.c5
    unfold plV
    go_wp2_with fail
    refine (CS.out _ _ V1.out).mono ?_
    rintro e w3 ⟨rfl, hb⟩
    have H3 := Lib.hid (H2.out.keep hb)
    have L3 := Lib.hid (bT L2.out hb)
    have X3 := Lib.hid (X2.out.keep hb)
    clear c0 c1 c2 c3 c4 c5 hb
    obtain ⟨c0, c1, c2, c3, c4, c5⟩ := X3.out.c5
    go_wp2_with fail
    refine (toPlate_any _ ⟨W, H, M, G⟩ ss _ ⟨_, _, _, rfl, H3.out⟩ HL.out).mono ?_
    rintro e w4 ⟨u2, rfl, hS, hb⟩
    obtain ⟨_, ao, an, rfl, _⟩ := id hS.sl
    have hb' : Below w4.heap.size w4 (w4.alloc (.cells #[.int .i64 W, .int .i64 H, .int .i64 M, .int .i64 G, .slice ao ss.length an] 45)) := bA (bR _) _
    have A2 := Lib.hid (hS.sl.keep hb')
    have H4 := Lib.hid ((H3.out.keep hb).keep hb')
    have L4 := Lib.hid (bT (bT L3.out hb) hb')
    have X4 := Lib.hid ((X3.out.keep hb).keep hb')
    have Y4 := Lib.hid (BoxL.new w4 [.int .i64 W, .int .i64 H, .int .i64 M, .int .i64 G, .slice ao ss.length an] 45)
    clear c0 c1 c2 c3 c4 c5 hS hb hb'
    obtain ⟨c0, c1, c2, c3, c4, c5⟩ := X4.out.c5
    obtain ⟨d0, d1, d2, d3, d4, d5⟩ := Y4.out.c5
    unfold plV
    go_wp2_with fail
    generalize w4.alloc (.cells #[.int .i64 W, .int .i64 H, .int .i64 M, .int .i64 G, .slice ao ss.length an] 45) = W4 at *
    generalize w4.heap.size = bx at *
    refine (CI.out _ _ A2.out).mono ?_
    rintro e w5 ⟨rfl, hb⟩
    have H5 := Lib.hid (H4.out.keep hb)
    have A3 := Lib.hid (A2.out.keep hb)
    have L5 := Lib.hid (bT L4.out hb)
    have X5 := Lib.hid (X4.out.keep hb)
    have Y5 := Lib.hid (Y4.out.keep hb)
    clear c0 c1 c2 c3 c4 c5 d0 d1 d2 d3 d4 d5 hb
    obtain ⟨c0, c1, c2, c3, c4, c5⟩ := X5.out.c5
    obtain ⟨d0, d1, d2, d3, d4, d5⟩ := Y5.out.c5
    go_wp2_with fail
    have HS : FinP w bl bx W H M G pa pn pc (.slice ao ss.length an) ss w5 := ⟨c0, c1, c2, c3, c4, d0, d1, d2, d3, d4, c5, d5, H5.out, A3.out, L5.out⟩
    clear c0 c1 c2 c3 c4 c5 d0 d1 d2 d3 d4 d5 H0 H1 H2 H3 H4 V1 A2 A3 H5 L0 L1 L2 L3 L4 L5 X X1 X2 X3 X4 X5 Y4 Y5 CS CI
    go_region_held3 (fun w' => w'.cell? ⟨bl, 0, none⟩ = some (.int .i64 W) ∧ w'.cell? ⟨bl, 1, none⟩ = some (.int .i64 H) ∧ w'.cell? ⟨bl, 2, none⟩ = some (.int .i64 M) ∧ w'.cell? ⟨bl, 3, none⟩ = some (.int .i64 G) ∧ w'.cell? ⟨bl, 4, none⟩ = some (.slice pa pn pc) ∧ w'.cell? ⟨bx, 0, none⟩ = some (.int .i64 W) ∧ w'.cell? ⟨bx, 1, none⟩ = some (.int .i64 H) ∧ w'.cell? ⟨bx, 2, none⟩ = some (.int .i64 M) ∧ w'.cell? ⟨bx, 3, none⟩ = some (.int .i64 G) ∧ w'.cell? ⟨bx, 4, none⟩ = some (.slice ao ss.length an) ∧ bl < w'.heap.size ∧ bx < w'.heap.size ∧ IsSi w' pa pn pc ss ∧ SlSi w' (.slice ao ss.length an) ss ∧ Below w.heap.size w w') (first | exact HS.drew | assumption | exact FinP.keep hb (by first | assumption | exact HS.drew))
      (first
        | (go_at_call 23; have hS : FinP w bl bx W H M G pa pn pc (.slice ao ss.length an) ss _ := (by first | assumption | exact HS.drew); refine (toPlate_any _ ⟨W, H, M, G⟩ ss _ ⟨_, _, _, rfl, hS.2.2.2.2.2.2.2.2.2.2.2.2.1⟩ HL.out).mono ?_; clear hS; rintro e w' ⟨u3, rfl, hA, hb⟩; unfold plV)
        | (go_at_call 25; have hS : FinP w bl bx W H M G pa pn pc (.slice ao ss.length an) ss _ := (by first | assumption | exact HS.drew); refine (eqPlate_same ⟨W, H, M, G⟩ ss _ _ _ hS.2.2.2.2.2.2.2.2.2.2.2.2.2.1 (OwSi.sl (by assumption))).mono ?_; clear hS; rintro e w' ⟨rfl, hb⟩))
    have HT' : FinP w bl bx W H M G pa pn pc (.slice ao ss.length an) ss w' := by assumption
    have HU := Lib.hid HT'.2.2.2.2.2.2.2.2.2.2.2.2.2.2
    clear HT' HS
    go_wp2_with fail
    go_ret
    exact ⟨rfl, HU.out⟩
end Go.Proofs.Ytmdfhmoipgaliaa

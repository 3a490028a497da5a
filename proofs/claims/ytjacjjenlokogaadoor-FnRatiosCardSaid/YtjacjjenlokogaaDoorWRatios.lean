/-
  The walk of FnRatios (printed by genratios.py).
-/
import Derived.Test.YtjacjjenlokogaaDoorRatM
import Derived.Test.YtjacjjenlokogaaDoorOps2
import Derived.Test.YtjacjjenlokogaaDoorBox
import Derived.Test.YtjacjjenlokogaaDoorDraw2
import Derived.ProofKit
namespace Go.Proofs.YtjacjjenlokogaaDoor
open Go.ChangeShapes Go.WideShapes Go.ChangeAt Go.RowKit

theorem txt_small {n d : Int} : (txtR n d).size ≤ 1048576 := by
  unfold txtR txtV
  split
  · rename_i h
    obtain ⟨b1, b2, b3, b4⟩ := okR_bd h
    have s1 := decT_size (n := n) (by omega) (by omega)
    have s2 := decT_size (n := d) (by omega) (by omega)
    split
    · omega
    · rw [cat_size, cat_size]; have : (⟨#[47]⟩ : ByteArray).size = 1 := rfl; omega
  · show 0 ≤ _; omega
set_option maxRecDepth 100000 in
set_option maxHeartbeats 8000000 in
theorem FnRatios_walk (a : Option Addr) (len cap : Nat) (zs : List Int) (w : World) (a0 a1 : Addr) (hS : Sent w a0 a1) (hP : Pow10 w) (hE : ErrVars w) (hM : MLen w) (h : IsRow .u8 w a len cap zs) :
    Calls Tryd.prog 3 #[.slice a len cap] w fun e w' => e = .returned (.bool true) ∧ Below w.heap.size w w' := by
  have l1 := (row_of h).1
  unfold maxLen at l1
  have HA := Lib.hid h
  have HS := Lib.hid hS
  have HP := Lib.hid hP
  have HE := Lib.hid hE
  have HM := Lib.hid hM
  clear h hS hP hE hM
  by_cases hl : 3000 < len
  · go_enter Tryd.func3, Tryd.ntmps3
    go_wp2_with fail
    refine (a2Long_yes _ _ _ _ _ _ _ (by omega) (by omega) (.inl hl)).mono ?_
    rintro e w1 ⟨rfl, rfl⟩
    go_wp2_with fail
    go_ret
    exact ⟨rfl, bR _⟩
  · have hl1 : len ≤ 3000 := by omega
    clear hl
    go_enter Tryd.func3, Tryd.ntmps3
    go_wp2_with fail
    refine (a2Long_no _ _ _ _ _ _ _ hl1 (by omega)).mono ?_
    rintro e w0 ⟨rfl, rfl⟩
    go_wp2_with fail
    refine (A2Ratios_any _ a len cap zs HA.out).mono ?_
    rintro e w1 ⟨n, d, p, q, k1, k2, rfl, hb1⟩
    have K1 := Lib.hid k1
    have K2 := Lib.hid k2
    have A0 := Lib.hid ((Box2.new w1 n d 25).alloc (.cells #[.int .i64 p, .int .i64 q] 25))
    have A1 := Lib.hid (show Box2 ((w1.alloc (.cells #[.int .i64 n, .int .i64 d] 25)).alloc (.cells #[.int .i64 p, .int .i64 q] 25)) (w1.heap.size + 1) p q by have := Box2.new (w1.alloc (.cells #[.int .i64 n, .int .i64 d] 25)) p q 25; rwa [World.size_alloc] at this)
    have L0 := Lib.hid (bA (bA hb1 (.cells #[.int .i64 n, .int .i64 d] 25)) (.cells #[.int .i64 p, .int .i64 q] 25))
    have hlo := hb1.size
    clear k1 k2 hb1
    go_wp2_with fail
    generalize (w1.alloc (.cells #[.int .i64 n, .int .i64 d] 25)).alloc (.cells #[.int .i64 p, .int .i64 q] 25) = W0 at *
    refine (AddRatioI_any _ _ _ _ _ a0 a1 (HS.out.keep L0.out)).mono ?_
    rintro e w2 ⟨rfl, hb2⟩
    rw [v_yes K1.out K2.out]
    have hadd := add_back K1.out K2.out
    obtain ⟨oe1, oe2, oe3⟩ := o_yes (addX n d p q) (mulX d q)
    rw [oe1, oe2, oe3]
    clear oe1 oe2 oe3
    have HADD := Lib.hid hadd
    generalize rC (addX n d p q) (mulX d q) = cx at *
    generalize rA (addX n d p q) (mulX d q) = xa at *
    generalize rB (addX n d p q) (mulX d q) = xb at *
    have B0 := Lib.hid ((A0.out.keep hb2).alloc (.cells #[.int .i64 xa, .int .i64 xb] 25))
    have B1 := Lib.hid ((A1.out.keep hb2).alloc (.cells #[.int .i64 xa, .int .i64 xb] 25))
    have B2 := Lib.hid (Box2.new w2 xa xb 25)
    have L2 := Lib.hid (bA (bT L0.out hb2) (.cells #[.int .i64 xa, .int .i64 xb] 25))
    have hx1 := (A1.out.keep hb2).lt
    have hx2 := (bT L0.out hb2).size
    clear A0 A1 L0 hb2 hadd
    generalize w1.heap.size = ba at *
    generalize hW2 : w2.alloc (.cells #[.int .i64 xa, .int .i64 xb] 25) = W2 at *
    obtain ⟨x0, x1, x2, x3, x4⟩ := B0.out
    obtain ⟨y0, y1, y2, y3, y4⟩ := B1.out
    obtain ⟨z0, z1, z2, z3, z4⟩ := B2.out
    generalize hbx : w2.heap.size = bx at *
    by_cases hcx : cx = 0
    · subst hcx
      go_wp2_with fail
      try rw [hW2]
      try simp only [hbx]
      refine (SubRatioI_any _ _ _ _ _ a0 a1 (HS.out.keep L2.out)).mono ?_
      rintro e w3 ⟨rfl, hb3⟩
      obtain ⟨hox, g1, g2, g3⟩ := HADD.out (by trivial)
      rw [v_yes hox K2.out]
      obtain ⟨oe1, oe2, oe3⟩ := o_yes (addX xa xb (-p) q) (mulX xb q)
      rw [oe1, oe2, oe3, g1, g2, g3]
      clear oe1 oe2 oe3 g1 g2 g3 hox HADD
      clear x0 x1 x2 x3 x4 y0 y1 y2 y3 y4 z0 z1 z2 z3 z4
      clear hW2
      have C0 := Lib.hid ((B0.out.keep hb3).alloc (.cells #[.int .i64 n, .int .i64 d] 25))
      have C1 := Lib.hid ((B1.out.keep hb3).alloc (.cells #[.int .i64 n, .int .i64 d] 25))
      have C2 := Lib.hid ((B2.out.keep hb3).alloc (.cells #[.int .i64 n, .int .i64 d] 25))
      have C3 := Lib.hid (Box2.new w3 n d 25)
      have L3 := Lib.hid (bA (bT L2.out hb3) (.cells #[.int .i64 n, .int .i64 d] 25))
      clear B0 B1 B2 L2 hb3
      generalize hW3 : w3.alloc (.cells #[.int .i64 n, .int .i64 d] 25) = W3 at *
      generalize hby : w3.heap.size = by1 at *
      obtain ⟨x0, x1, x2, x3, x4⟩ := C0.out
      obtain ⟨y0, y1, y2, y3, y4⟩ := C1.out
      obtain ⟨z0, z1, z2, z3, z4⟩ := C3.out
      go_wp2_with fail
      try rw [hW3]
      refine (MulRatioI_any _ _ _ _ _ a0 a1 (HS.out.keep L3.out)).mono ?_
      rintro e w4 ⟨rfl, hb4⟩
      rw [v_yes K1.out K2.out]
      have HMUL := Lib.hid (fun hp => mul_back K1.out K2.out hp)
      obtain ⟨oe1, oe2, oe3⟩ := o_yes (mulX n p) (mulX d q)
      rw [oe1, oe2, oe3]
      clear oe1 oe2 oe3
      generalize rC (mulX n p) (mulX d q) = cm at *
      generalize rA (mulX n p) (mulX d q) = ma at *
      generalize rB (mulX n p) (mulX d q) = mb at *
      clear x0 x1 x2 x3 x4 y0 y1 y2 y3 y4 z0 z1 z2 z3 z4
      clear hW3
      have D0 := Lib.hid ((C0.out.keep hb4).other (b' := bx) (o := 0) (v := .int .i64 ma) (by omega) |>.other (b' := bx) (o := 1) (v := .int .i64 mb) (by omega))
      have D1 := Lib.hid ((C1.out.keep hb4).other (b' := bx) (o := 0) (v := .int .i64 ma) (by omega) |>.other (b' := bx) (o := 1) (v := .int .i64 mb) (by omega))
      have D2 := Lib.hid ((C2.out.keep hb4).set ma mb)
      have L4 := Lib.hid (((bT L3.out hb4).setCell (p := ⟨bx, 0, none⟩) hx2 (.int .i64 ma)).setCell (p := ⟨bx, 1, none⟩) hx2 (.int .i64 mb))
      obtain ⟨z0, z1, z2, z3, z4⟩ := C2.out.keep hb4
      obtain ⟨x0, x1, x2, x3, x4⟩ := D0.out
      obtain ⟨y0, y1, y2, y3, y4⟩ := D1.out
      obtain ⟨u0, u1, u2, u3, u4⟩ := D2.out
      by_cases hcm : cm = 0
      · subst hcm
        by_cases hp : p = 0
        · subst hp
          clear HMUL
          go_wp2_with fail
          generalize ((w4.setCell ⟨bx, 0, none⟩ (.int .i64 ma)).setCell ⟨bx, 1, none⟩ (.int .i64 mb)) = W4 at *
          refine (CompareRatioI_any _ _ _ _ _).mono ?_
          rintro e w6 ⟨rfl, hb6⟩
          have hkb : -1 ≤ cmpR n d 0 q ∧ cmpR n d 0 q ≤ 1 := by unfold cmpR cmpV; split <;> (try split) <;> (try split) <;> omega
          have KZ := Lib.hid (cmp_zero K1.out K2.out)
          have KW := Lib.hid (cmp_swap (n := n) (d := d) (p := 0) (q := q))
          have KS := Lib.hid (sub_sign K1.out K2.out)
          generalize cmpR n d 0 q = kv at *
          clear x0 x1 x2 x3 x4 y0 y1 y2 y3 y4 z0 z1 z2 z3 z4 u0 u1 u2 u3 u4
          have F0 := Lib.hid (D0.out.keep hb6)
          have F1 := Lib.hid (D1.out.keep hb6)
          have L6 := Lib.hid (bT L4.out hb6)
          clear hb6 D0 D1
          obtain ⟨x0, x1, x2, x3, x4⟩ := F0.out
          obtain ⟨y0, y1, y2, y3, y4⟩ := F1.out
          go_wp2_with fail
          refine (SubRatioI_any _ _ _ _ _ a0 a1 (HS.out.keep L6.out)).mono ?_
          rintro e w7 ⟨rfl, hb7⟩
          rw [v_yes K1.out K2.out]
          obtain ⟨oe1, oe2, oe3⟩ := o_yes (addX n d (-0) q) (mulX d q)
          rw [oe1, oe2, oe3]
          clear oe1 oe2 oe3
          generalize rC (addX n d (-0) q) (mulX d q) = cd at *
          generalize rA (addX n d (-0) q) (mulX d q) = da at *
          generalize rB (addX n d (-0) q) (mulX d q) = db at *
          clear x0 x1 x2 x3 x4 y0 y1 y2 y3 y4
          have G0 := Lib.hid ((F0.out.keep hb7).alloc (.cells #[.int .i64 da, .int .i64 db] 25))
          have G1 := Lib.hid ((F1.out.keep hb7).alloc (.cells #[.int .i64 da, .int .i64 db] 25))
          have G2 := Lib.hid (Box2.new w7 da db 25)
          have L7 := Lib.hid (bA (bT L6.out hb7) (.cells #[.int .i64 da, .int .i64 db] 25))
          clear F0 F1 L6 hb7
          generalize hW7 : w7.alloc (.cells #[.int .i64 da, .int .i64 db] 25) = W7 at *
          generalize hbd : w7.heap.size = bd at *
          obtain ⟨x0, x1, x2, x3, x4⟩ := G0.out
          obtain ⟨y0, y1, y2, y3, y4⟩ := G1.out
          obtain ⟨z0, z1, z2, z3, z4⟩ := G2.out
          by_cases hcd : cd = 0
          · subst hcd
            have ks := KS.out (by trivial)
            have ks' : (0 < da) ↔ (0 < kv) := by simpa using ks
            clear KS ks
            by_cases hk0 : 0 < kv
            · have hda : 0 < da := ks'.2 hk0
              go_wp2_with fail
              try rw [hW7]
              refine (CompareRatioI_any _ _ _ _ _).mono ?_
              rintro e w8 ⟨rfl, hb8⟩
              rw [KW.out]
              clear KW hW7 hbd
              clear x0 x1 x2 x3 x4 y0 y1 y2 y3 y4 z0 z1 z2 z3 z4
              have H0 := Lib.hid (G0.out.keep hb8)
              have H1 := Lib.hid (G1.out.keep hb8)
              have L8 := Lib.hid (bT L7.out hb8)
              clear G0 G1 G2 L7 hb8
              obtain ⟨x0, x1, x2, x3, x4⟩ := H0.out
              obtain ⟨y0, y1, y2, y3, y4⟩ := H1.out
              by_cases hz : kv = 0
              · exact absurd hz (by omega)
              · have hz' : (kv == 0) = false := by simpa using hz
                by_cases e1 : n = 0
                · have e2 : ¬ d = q := fun h => hz (KZ.out.2 ⟨e1, h⟩)
                  have e2' : (d == q) = false := by simpa using e2
                  clear KZ e2
                  subst e1
                  go_wp2_with fail
                  refine (RatioTextI_any _ _ _ (Pow10.keep L8.out HP.out)).mono ?_
                  rintro e w9 ⟨rfl, hb9⟩
                  have TT := Lib.hid (show RrIs (txtR 0 d).data.toList 0 d true from .inl ⟨rfl, K1.out, (txt_tl K1.out).symm⟩)
                  have TS := Lib.hid (txt_small (n := 0) (d := d))
                  generalize txtR 0 d = tx at *
                  have I0 := Lib.hid (H0.out.keep hb9)
                  have L9 := Lib.hid (bT L8.out hb9)
                  clear H0 H1 L8 hb9 x0 x1 x2 x3 x4 y0 y1 y2 y3 y4
                  go_wp2_with fail
                  refine (ReadRatioI_any _ _ TS.out (Pow10.keep L9.out HP.out) (ErrVars.keep L9.out HE.out) (MLen.keep L9.out HM.out)).mono ?_
                  rintro e w10 ⟨⟨rn, rd, rk, rfl, hrr⟩, hb10⟩
                  obtain ⟨r1, r2, r3⟩ := RrIs.uniq TT.out hrr
                  subst r1 r2 r3
                  clear TT TS hrr
                  have M3 := mk_three K1.out
                  try rw [Int.mul_zero] at M3
                  have M4 := Lib.hid M3
                  clear M3
                  obtain ⟨nb1, nb2, nb3, nb4⟩ := okR_bd K1.out
                  have J0 := Lib.hid ((I0.out.keep hb10).alloc (.cells #[.int .i64 0, .int .i64 d] 25))
                  have J2 := Lib.hid (Box2.new w10 0 d 25)
                  have L10 := Lib.hid (bA (bT L9.out hb10) (.cells #[.int .i64 0, .int .i64 d] 25))
                  clear I0 L9 hb10
                  generalize hW10 : w10.alloc (.cells #[.int .i64 0, .int .i64 d] 25) = W10 at *
                  generalize hbr : w10.heap.size = br at *
                  obtain ⟨x0, x1, x2, x3, x4⟩ := J0.out
                  go_wp2_with fail
                  try rw [hW10]
                  clear hW10 hbr x0 x1 x2 x3 x4
                  refine (MakeRatioI_any _ _ _ a0 a1 (HS.out.keep L10.out) (by omega) (by omega) (by omega) (by omega)).mono ?_
                  rintro e w11 ⟨rfl, hb11⟩
                  obtain ⟨m1, m2, m3⟩ := M4.out
                  rw [m1, m2, m3]
                  clear m1 m2 m3 M4
                  have N0 := Lib.hid ((J0.out.keep hb11).alloc (.cells #[.int .i64 0, .int .i64 d] 25))
                  have N1 := Lib.hid ((J2.out.keep hb11).alloc (.cells #[.int .i64 0, .int .i64 d] 25))
                  have N2 := Lib.hid (Box2.new w11 0 d 25)
                  have L11 := Lib.hid (bA (bT L10.out hb11) (.cells #[.int .i64 0, .int .i64 d] 25))
                  clear J0 J2 L10 hb11
                  generalize hW11 : w11.alloc (.cells #[.int .i64 0, .int .i64 d] 25) = W11 at *
                  generalize hbm : w11.heap.size = bm at *
                  obtain ⟨x0, x1, x2, x3, x4⟩ := N0.out
                  obtain ⟨y0, y1, y2, y3, y4⟩ := N1.out
                  obtain ⟨z0, z1, z2, z3, z4⟩ := N2.out
                  go_wp2_with fail
                  try rw [hW11]
                  go_ret
                  exact ⟨rfl, by first | exact L11.out | (rw [hW11]; exact L11.out)⟩
                · have e1' : (n == 0) = false := by simpa using e1
                  clear KZ e1
                  go_wp2_with fail
                  refine (RatioTextI_any _ _ _ (Pow10.keep L8.out HP.out)).mono ?_
                  rintro e w9 ⟨rfl, hb9⟩
                  have TT := Lib.hid (show RrIs (txtR n d).data.toList n d true from .inl ⟨rfl, K1.out, (txt_tl K1.out).symm⟩)
                  have TS := Lib.hid (txt_small (n := n) (d := d))
                  generalize txtR n d = tx at *
                  have I0 := Lib.hid (H0.out.keep hb9)
                  have L9 := Lib.hid (bT L8.out hb9)
                  clear H0 H1 L8 hb9 x0 x1 x2 x3 x4 y0 y1 y2 y3 y4
                  go_wp2_with fail
                  refine (ReadRatioI_any _ _ TS.out (Pow10.keep L9.out HP.out) (ErrVars.keep L9.out HE.out) (MLen.keep L9.out HM.out)).mono ?_
                  rintro e w10 ⟨⟨rn, rd, rk, rfl, hrr⟩, hb10⟩
                  obtain ⟨r1, r2, r3⟩ := RrIs.uniq TT.out hrr
                  subst r1 r2 r3
                  clear TT TS hrr
                  have M3 := mk_three K1.out
                  try rw [Int.mul_zero] at M3
                  have M4 := Lib.hid M3
                  clear M3
                  obtain ⟨nb1, nb2, nb3, nb4⟩ := okR_bd K1.out
                  have J0 := Lib.hid ((I0.out.keep hb10).alloc (.cells #[.int .i64 n, .int .i64 d] 25))
                  have J2 := Lib.hid (Box2.new w10 n d 25)
                  have L10 := Lib.hid (bA (bT L9.out hb10) (.cells #[.int .i64 n, .int .i64 d] 25))
                  clear I0 L9 hb10
                  generalize hW10 : w10.alloc (.cells #[.int .i64 n, .int .i64 d] 25) = W10 at *
                  generalize hbr : w10.heap.size = br at *
                  obtain ⟨x0, x1, x2, x3, x4⟩ := J0.out
                  go_wp2_with fail
                  try rw [hW10]
                  clear hW10 hbr x0 x1 x2 x3 x4
                  refine (MakeRatioI_any _ _ _ a0 a1 (HS.out.keep L10.out) (by omega) (by omega) (by omega) (by omega)).mono ?_
                  rintro e w11 ⟨rfl, hb11⟩
                  obtain ⟨m1, m2, m3⟩ := M4.out
                  rw [m1, m2, m3]
                  clear m1 m2 m3 M4
                  have N0 := Lib.hid ((J0.out.keep hb11).alloc (.cells #[.int .i64 n, .int .i64 d] 25))
                  have N1 := Lib.hid ((J2.out.keep hb11).alloc (.cells #[.int .i64 n, .int .i64 d] 25))
                  have N2 := Lib.hid (Box2.new w11 n d 25)
                  have L11 := Lib.hid (bA (bT L10.out hb11) (.cells #[.int .i64 n, .int .i64 d] 25))
                  clear J0 J2 L10 hb11
                  generalize hW11 : w11.alloc (.cells #[.int .i64 n, .int .i64 d] 25) = W11 at *
                  generalize hbm : w11.heap.size = bm at *
                  obtain ⟨x0, x1, x2, x3, x4⟩ := N0.out
                  obtain ⟨y0, y1, y2, y3, y4⟩ := N1.out
                  obtain ⟨z0, z1, z2, z3, z4⟩ := N2.out
                  go_wp2_with fail
                  try rw [hW11]
                  go_ret
                  exact ⟨rfl, by first | exact L11.out | (rw [hW11]; exact L11.out)⟩
            · have hda : ¬ 0 < da := fun h => hk0 (ks'.1 h)
              go_wp2_with fail
              try rw [hW7]
              refine (CompareRatioI_any _ _ _ _ _).mono ?_
              rintro e w8 ⟨rfl, hb8⟩
              rw [KW.out]
              clear KW hW7 hbd
              clear x0 x1 x2 x3 x4 y0 y1 y2 y3 y4 z0 z1 z2 z3 z4
              have H0 := Lib.hid (G0.out.keep hb8)
              have H1 := Lib.hid (G1.out.keep hb8)
              have L8 := Lib.hid (bT L7.out hb8)
              clear G0 G1 G2 L7 hb8
              obtain ⟨x0, x1, x2, x3, x4⟩ := H0.out
              obtain ⟨y0, y1, y2, y3, y4⟩ := H1.out
              by_cases hz : kv = 0
              · obtain ⟨e1, e2⟩ := KZ.out.1 hz
                clear KZ
                subst hz
                subst e1
                subst e2
                go_wp2_with fail
                refine (RatioTextI_any _ _ _ (Pow10.keep L8.out HP.out)).mono ?_
                rintro e w9 ⟨rfl, hb9⟩
                have TT := Lib.hid (show RrIs (txtR 0 d).data.toList 0 d true from .inl ⟨rfl, K1.out, (txt_tl K1.out).symm⟩)
                have TS := Lib.hid (txt_small (n := 0) (d := d))
                generalize txtR 0 d = tx at *
                have I0 := Lib.hid (H0.out.keep hb9)
                have L9 := Lib.hid (bT L8.out hb9)
                clear H0 H1 L8 hb9 x0 x1 x2 x3 x4 y0 y1 y2 y3 y4
                go_wp2_with fail
                refine (ReadRatioI_any _ _ TS.out (Pow10.keep L9.out HP.out) (ErrVars.keep L9.out HE.out) (MLen.keep L9.out HM.out)).mono ?_
                rintro e w10 ⟨⟨rn, rd, rk, rfl, hrr⟩, hb10⟩
                obtain ⟨r1, r2, r3⟩ := RrIs.uniq TT.out hrr
                subst r1 r2 r3
                clear TT TS hrr
                have M3 := mk_three K1.out
                try rw [Int.mul_zero] at M3
                have M4 := Lib.hid M3
                clear M3
                obtain ⟨nb1, nb2, nb3, nb4⟩ := okR_bd K1.out
                have J0 := Lib.hid ((I0.out.keep hb10).alloc (.cells #[.int .i64 0, .int .i64 d] 25))
                have J2 := Lib.hid (Box2.new w10 0 d 25)
                have L10 := Lib.hid (bA (bT L9.out hb10) (.cells #[.int .i64 0, .int .i64 d] 25))
                clear I0 L9 hb10
                generalize hW10 : w10.alloc (.cells #[.int .i64 0, .int .i64 d] 25) = W10 at *
                generalize hbr : w10.heap.size = br at *
                obtain ⟨x0, x1, x2, x3, x4⟩ := J0.out
                go_wp2_with fail
                try rw [hW10]
                clear hW10 hbr x0 x1 x2 x3 x4
                refine (MakeRatioI_any _ _ _ a0 a1 (HS.out.keep L10.out) (by omega) (by omega) (by omega) (by omega)).mono ?_
                rintro e w11 ⟨rfl, hb11⟩
                obtain ⟨m1, m2, m3⟩ := M4.out
                rw [m1, m2, m3]
                clear m1 m2 m3 M4
                have N0 := Lib.hid ((J0.out.keep hb11).alloc (.cells #[.int .i64 0, .int .i64 d] 25))
                have N1 := Lib.hid ((J2.out.keep hb11).alloc (.cells #[.int .i64 0, .int .i64 d] 25))
                have N2 := Lib.hid (Box2.new w11 0 d 25)
                have L11 := Lib.hid (bA (bT L10.out hb11) (.cells #[.int .i64 0, .int .i64 d] 25))
                clear J0 J2 L10 hb11
                generalize hW11 : w11.alloc (.cells #[.int .i64 0, .int .i64 d] 25) = W11 at *
                generalize hbm : w11.heap.size = bm at *
                obtain ⟨x0, x1, x2, x3, x4⟩ := N0.out
                obtain ⟨y0, y1, y2, y3, y4⟩ := N1.out
                obtain ⟨z0, z1, z2, z3, z4⟩ := N2.out
                go_wp2_with fail
                try rw [hW11]
                go_ret
                exact ⟨rfl, by first | exact L11.out | (rw [hW11]; exact L11.out)⟩
              · have hz' : (kv == 0) = false := by simpa using hz
                by_cases e1 : n = 0
                · have e2 : ¬ d = q := fun h => hz (KZ.out.2 ⟨e1, h⟩)
                  have e2' : (d == q) = false := by simpa using e2
                  clear KZ e2
                  subst e1
                  go_wp2_with fail
                  refine (RatioTextI_any _ _ _ (Pow10.keep L8.out HP.out)).mono ?_
                  rintro e w9 ⟨rfl, hb9⟩
                  have TT := Lib.hid (show RrIs (txtR 0 d).data.toList 0 d true from .inl ⟨rfl, K1.out, (txt_tl K1.out).symm⟩)
                  have TS := Lib.hid (txt_small (n := 0) (d := d))
                  generalize txtR 0 d = tx at *
                  have I0 := Lib.hid (H0.out.keep hb9)
                  have L9 := Lib.hid (bT L8.out hb9)
                  clear H0 H1 L8 hb9 x0 x1 x2 x3 x4 y0 y1 y2 y3 y4
                  go_wp2_with fail
                  refine (ReadRatioI_any _ _ TS.out (Pow10.keep L9.out HP.out) (ErrVars.keep L9.out HE.out) (MLen.keep L9.out HM.out)).mono ?_
                  rintro e w10 ⟨⟨rn, rd, rk, rfl, hrr⟩, hb10⟩
                  obtain ⟨r1, r2, r3⟩ := RrIs.uniq TT.out hrr
                  subst r1 r2 r3
                  clear TT TS hrr
                  have M3 := mk_three K1.out
                  try rw [Int.mul_zero] at M3
                  have M4 := Lib.hid M3
                  clear M3
                  obtain ⟨nb1, nb2, nb3, nb4⟩ := okR_bd K1.out
                  have J0 := Lib.hid ((I0.out.keep hb10).alloc (.cells #[.int .i64 0, .int .i64 d] 25))
                  have J2 := Lib.hid (Box2.new w10 0 d 25)
                  have L10 := Lib.hid (bA (bT L9.out hb10) (.cells #[.int .i64 0, .int .i64 d] 25))
                  clear I0 L9 hb10
                  generalize hW10 : w10.alloc (.cells #[.int .i64 0, .int .i64 d] 25) = W10 at *
                  generalize hbr : w10.heap.size = br at *
                  obtain ⟨x0, x1, x2, x3, x4⟩ := J0.out
                  go_wp2_with fail
                  try rw [hW10]
                  clear hW10 hbr x0 x1 x2 x3 x4
                  refine (MakeRatioI_any _ _ _ a0 a1 (HS.out.keep L10.out) (by omega) (by omega) (by omega) (by omega)).mono ?_
                  rintro e w11 ⟨rfl, hb11⟩
                  obtain ⟨m1, m2, m3⟩ := M4.out
                  rw [m1, m2, m3]
                  clear m1 m2 m3 M4
                  have N0 := Lib.hid ((J0.out.keep hb11).alloc (.cells #[.int .i64 0, .int .i64 d] 25))
                  have N1 := Lib.hid ((J2.out.keep hb11).alloc (.cells #[.int .i64 0, .int .i64 d] 25))
                  have N2 := Lib.hid (Box2.new w11 0 d 25)
                  have L11 := Lib.hid (bA (bT L10.out hb11) (.cells #[.int .i64 0, .int .i64 d] 25))
                  clear J0 J2 L10 hb11
                  generalize hW11 : w11.alloc (.cells #[.int .i64 0, .int .i64 d] 25) = W11 at *
                  generalize hbm : w11.heap.size = bm at *
                  obtain ⟨x0, x1, x2, x3, x4⟩ := N0.out
                  obtain ⟨y0, y1, y2, y3, y4⟩ := N1.out
                  obtain ⟨z0, z1, z2, z3, z4⟩ := N2.out
                  go_wp2_with fail
                  try rw [hW11]
                  go_ret
                  exact ⟨rfl, by first | exact L11.out | (rw [hW11]; exact L11.out)⟩
                · have e1' : (n == 0) = false := by simpa using e1
                  clear KZ e1
                  go_wp2_with fail
                  refine (RatioTextI_any _ _ _ (Pow10.keep L8.out HP.out)).mono ?_
                  rintro e w9 ⟨rfl, hb9⟩
                  have TT := Lib.hid (show RrIs (txtR n d).data.toList n d true from .inl ⟨rfl, K1.out, (txt_tl K1.out).symm⟩)
                  have TS := Lib.hid (txt_small (n := n) (d := d))
                  generalize txtR n d = tx at *
                  have I0 := Lib.hid (H0.out.keep hb9)
                  have L9 := Lib.hid (bT L8.out hb9)
                  clear H0 H1 L8 hb9 x0 x1 x2 x3 x4 y0 y1 y2 y3 y4
                  go_wp2_with fail
                  refine (ReadRatioI_any _ _ TS.out (Pow10.keep L9.out HP.out) (ErrVars.keep L9.out HE.out) (MLen.keep L9.out HM.out)).mono ?_
                  rintro e w10 ⟨⟨rn, rd, rk, rfl, hrr⟩, hb10⟩
                  obtain ⟨r1, r2, r3⟩ := RrIs.uniq TT.out hrr
                  subst r1 r2 r3
                  clear TT TS hrr
                  have M3 := mk_three K1.out
                  try rw [Int.mul_zero] at M3
                  have M4 := Lib.hid M3
                  clear M3
                  obtain ⟨nb1, nb2, nb3, nb4⟩ := okR_bd K1.out
                  have J0 := Lib.hid ((I0.out.keep hb10).alloc (.cells #[.int .i64 n, .int .i64 d] 25))
                  have J2 := Lib.hid (Box2.new w10 n d 25)
                  have L10 := Lib.hid (bA (bT L9.out hb10) (.cells #[.int .i64 n, .int .i64 d] 25))
                  clear I0 L9 hb10
                  generalize hW10 : w10.alloc (.cells #[.int .i64 n, .int .i64 d] 25) = W10 at *
                  generalize hbr : w10.heap.size = br at *
                  obtain ⟨x0, x1, x2, x3, x4⟩ := J0.out
                  go_wp2_with fail
                  try rw [hW10]
                  clear hW10 hbr x0 x1 x2 x3 x4
                  refine (MakeRatioI_any _ _ _ a0 a1 (HS.out.keep L10.out) (by omega) (by omega) (by omega) (by omega)).mono ?_
                  rintro e w11 ⟨rfl, hb11⟩
                  obtain ⟨m1, m2, m3⟩ := M4.out
                  rw [m1, m2, m3]
                  clear m1 m2 m3 M4
                  have N0 := Lib.hid ((J0.out.keep hb11).alloc (.cells #[.int .i64 n, .int .i64 d] 25))
                  have N1 := Lib.hid ((J2.out.keep hb11).alloc (.cells #[.int .i64 n, .int .i64 d] 25))
                  have N2 := Lib.hid (Box2.new w11 n d 25)
                  have L11 := Lib.hid (bA (bT L10.out hb11) (.cells #[.int .i64 n, .int .i64 d] 25))
                  clear J0 J2 L10 hb11
                  generalize hW11 : w11.alloc (.cells #[.int .i64 n, .int .i64 d] 25) = W11 at *
                  generalize hbm : w11.heap.size = bm at *
                  obtain ⟨x0, x1, x2, x3, x4⟩ := N0.out
                  obtain ⟨y0, y1, y2, y3, y4⟩ := N1.out
                  obtain ⟨z0, z1, z2, z3, z4⟩ := N2.out
                  go_wp2_with fail
                  try rw [hW11]
                  go_ret
                  exact ⟨rfl, by first | exact L11.out | (rw [hW11]; exact L11.out)⟩
          · have hcd' : (cd == 0) = false := by simpa using hcd
            clear KS hcd
            go_wp2_with fail
            try rw [hW7]
            refine (CompareRatioI_any _ _ _ _ _).mono ?_
            rintro e w8 ⟨rfl, hb8⟩
            rw [KW.out]
            clear KW hW7 hbd
            clear x0 x1 x2 x3 x4 y0 y1 y2 y3 y4 z0 z1 z2 z3 z4
            have H0 := Lib.hid (G0.out.keep hb8)
            have H1 := Lib.hid (G1.out.keep hb8)
            have L8 := Lib.hid (bT L7.out hb8)
            clear G0 G1 G2 L7 hb8
            obtain ⟨x0, x1, x2, x3, x4⟩ := H0.out
            obtain ⟨y0, y1, y2, y3, y4⟩ := H1.out
            by_cases hz : kv = 0
            · obtain ⟨e1, e2⟩ := KZ.out.1 hz
              clear KZ
              subst hz
              subst e1
              subst e2
              go_wp2_with fail
              refine (RatioTextI_any _ _ _ (Pow10.keep L8.out HP.out)).mono ?_
              rintro e w9 ⟨rfl, hb9⟩
              have TT := Lib.hid (show RrIs (txtR 0 d).data.toList 0 d true from .inl ⟨rfl, K1.out, (txt_tl K1.out).symm⟩)
              have TS := Lib.hid (txt_small (n := 0) (d := d))
              generalize txtR 0 d = tx at *
              have I0 := Lib.hid (H0.out.keep hb9)
              have L9 := Lib.hid (bT L8.out hb9)
              clear H0 H1 L8 hb9 x0 x1 x2 x3 x4 y0 y1 y2 y3 y4
              go_wp2_with fail
              refine (ReadRatioI_any _ _ TS.out (Pow10.keep L9.out HP.out) (ErrVars.keep L9.out HE.out) (MLen.keep L9.out HM.out)).mono ?_
              rintro e w10 ⟨⟨rn, rd, rk, rfl, hrr⟩, hb10⟩
              obtain ⟨r1, r2, r3⟩ := RrIs.uniq TT.out hrr
              subst r1 r2 r3
              clear TT TS hrr
              have M3 := mk_three K1.out
              try rw [Int.mul_zero] at M3
              have M4 := Lib.hid M3
              clear M3
              obtain ⟨nb1, nb2, nb3, nb4⟩ := okR_bd K1.out
              have J0 := Lib.hid ((I0.out.keep hb10).alloc (.cells #[.int .i64 0, .int .i64 d] 25))
              have J2 := Lib.hid (Box2.new w10 0 d 25)
              have L10 := Lib.hid (bA (bT L9.out hb10) (.cells #[.int .i64 0, .int .i64 d] 25))
              clear I0 L9 hb10
              generalize hW10 : w10.alloc (.cells #[.int .i64 0, .int .i64 d] 25) = W10 at *
              generalize hbr : w10.heap.size = br at *
              obtain ⟨x0, x1, x2, x3, x4⟩ := J0.out
              go_wp2_with fail
              try rw [hW10]
              clear hW10 hbr x0 x1 x2 x3 x4
              refine (MakeRatioI_any _ _ _ a0 a1 (HS.out.keep L10.out) (by omega) (by omega) (by omega) (by omega)).mono ?_
              rintro e w11 ⟨rfl, hb11⟩
              obtain ⟨m1, m2, m3⟩ := M4.out
              rw [m1, m2, m3]
              clear m1 m2 m3 M4
              have N0 := Lib.hid ((J0.out.keep hb11).alloc (.cells #[.int .i64 0, .int .i64 d] 25))
              have N1 := Lib.hid ((J2.out.keep hb11).alloc (.cells #[.int .i64 0, .int .i64 d] 25))
              have N2 := Lib.hid (Box2.new w11 0 d 25)
              have L11 := Lib.hid (bA (bT L10.out hb11) (.cells #[.int .i64 0, .int .i64 d] 25))
              clear J0 J2 L10 hb11
              generalize hW11 : w11.alloc (.cells #[.int .i64 0, .int .i64 d] 25) = W11 at *
              generalize hbm : w11.heap.size = bm at *
              obtain ⟨x0, x1, x2, x3, x4⟩ := N0.out
              obtain ⟨y0, y1, y2, y3, y4⟩ := N1.out
              obtain ⟨z0, z1, z2, z3, z4⟩ := N2.out
              go_wp2_with fail
              try rw [hW11]
              go_ret
              exact ⟨rfl, by first | exact L11.out | (rw [hW11]; exact L11.out)⟩
            · have hz' : (kv == 0) = false := by simpa using hz
              by_cases e1 : n = 0
              · have e2 : ¬ d = q := fun h => hz (KZ.out.2 ⟨e1, h⟩)
                have e2' : (d == q) = false := by simpa using e2
                clear KZ e2
                subst e1
                go_wp2_with fail
                refine (RatioTextI_any _ _ _ (Pow10.keep L8.out HP.out)).mono ?_
                rintro e w9 ⟨rfl, hb9⟩
                have TT := Lib.hid (show RrIs (txtR 0 d).data.toList 0 d true from .inl ⟨rfl, K1.out, (txt_tl K1.out).symm⟩)
                have TS := Lib.hid (txt_small (n := 0) (d := d))
                generalize txtR 0 d = tx at *
                have I0 := Lib.hid (H0.out.keep hb9)
                have L9 := Lib.hid (bT L8.out hb9)
                clear H0 H1 L8 hb9 x0 x1 x2 x3 x4 y0 y1 y2 y3 y4
                go_wp2_with fail
                refine (ReadRatioI_any _ _ TS.out (Pow10.keep L9.out HP.out) (ErrVars.keep L9.out HE.out) (MLen.keep L9.out HM.out)).mono ?_
                rintro e w10 ⟨⟨rn, rd, rk, rfl, hrr⟩, hb10⟩
                obtain ⟨r1, r2, r3⟩ := RrIs.uniq TT.out hrr
                subst r1 r2 r3
                clear TT TS hrr
                have M3 := mk_three K1.out
                try rw [Int.mul_zero] at M3
                have M4 := Lib.hid M3
                clear M3
                obtain ⟨nb1, nb2, nb3, nb4⟩ := okR_bd K1.out
                have J0 := Lib.hid ((I0.out.keep hb10).alloc (.cells #[.int .i64 0, .int .i64 d] 25))
                have J2 := Lib.hid (Box2.new w10 0 d 25)
                have L10 := Lib.hid (bA (bT L9.out hb10) (.cells #[.int .i64 0, .int .i64 d] 25))
                clear I0 L9 hb10
                generalize hW10 : w10.alloc (.cells #[.int .i64 0, .int .i64 d] 25) = W10 at *
                generalize hbr : w10.heap.size = br at *
                obtain ⟨x0, x1, x2, x3, x4⟩ := J0.out
                go_wp2_with fail
                try rw [hW10]
                clear hW10 hbr x0 x1 x2 x3 x4
                refine (MakeRatioI_any _ _ _ a0 a1 (HS.out.keep L10.out) (by omega) (by omega) (by omega) (by omega)).mono ?_
                rintro e w11 ⟨rfl, hb11⟩
                obtain ⟨m1, m2, m3⟩ := M4.out
                rw [m1, m2, m3]
                clear m1 m2 m3 M4
                have N0 := Lib.hid ((J0.out.keep hb11).alloc (.cells #[.int .i64 0, .int .i64 d] 25))
                have N1 := Lib.hid ((J2.out.keep hb11).alloc (.cells #[.int .i64 0, .int .i64 d] 25))
                have N2 := Lib.hid (Box2.new w11 0 d 25)
                have L11 := Lib.hid (bA (bT L10.out hb11) (.cells #[.int .i64 0, .int .i64 d] 25))
                clear J0 J2 L10 hb11
                generalize hW11 : w11.alloc (.cells #[.int .i64 0, .int .i64 d] 25) = W11 at *
                generalize hbm : w11.heap.size = bm at *
                obtain ⟨x0, x1, x2, x3, x4⟩ := N0.out
                obtain ⟨y0, y1, y2, y3, y4⟩ := N1.out
                obtain ⟨z0, z1, z2, z3, z4⟩ := N2.out
                go_wp2_with fail
                try rw [hW11]
                go_ret
                exact ⟨rfl, by first | exact L11.out | (rw [hW11]; exact L11.out)⟩
              · have e1' : (n == 0) = false := by simpa using e1
                clear KZ e1
                go_wp2_with fail
                refine (RatioTextI_any _ _ _ (Pow10.keep L8.out HP.out)).mono ?_
                rintro e w9 ⟨rfl, hb9⟩
                have TT := Lib.hid (show RrIs (txtR n d).data.toList n d true from .inl ⟨rfl, K1.out, (txt_tl K1.out).symm⟩)
                have TS := Lib.hid (txt_small (n := n) (d := d))
                generalize txtR n d = tx at *
                have I0 := Lib.hid (H0.out.keep hb9)
                have L9 := Lib.hid (bT L8.out hb9)
                clear H0 H1 L8 hb9 x0 x1 x2 x3 x4 y0 y1 y2 y3 y4
                go_wp2_with fail
                refine (ReadRatioI_any _ _ TS.out (Pow10.keep L9.out HP.out) (ErrVars.keep L9.out HE.out) (MLen.keep L9.out HM.out)).mono ?_
                rintro e w10 ⟨⟨rn, rd, rk, rfl, hrr⟩, hb10⟩
                obtain ⟨r1, r2, r3⟩ := RrIs.uniq TT.out hrr
                subst r1 r2 r3
                clear TT TS hrr
                have M3 := mk_three K1.out
                try rw [Int.mul_zero] at M3
                have M4 := Lib.hid M3
                clear M3
                obtain ⟨nb1, nb2, nb3, nb4⟩ := okR_bd K1.out
                have J0 := Lib.hid ((I0.out.keep hb10).alloc (.cells #[.int .i64 n, .int .i64 d] 25))
                have J2 := Lib.hid (Box2.new w10 n d 25)
                have L10 := Lib.hid (bA (bT L9.out hb10) (.cells #[.int .i64 n, .int .i64 d] 25))
                clear I0 L9 hb10
                generalize hW10 : w10.alloc (.cells #[.int .i64 n, .int .i64 d] 25) = W10 at *
                generalize hbr : w10.heap.size = br at *
                obtain ⟨x0, x1, x2, x3, x4⟩ := J0.out
                go_wp2_with fail
                try rw [hW10]
                clear hW10 hbr x0 x1 x2 x3 x4
                refine (MakeRatioI_any _ _ _ a0 a1 (HS.out.keep L10.out) (by omega) (by omega) (by omega) (by omega)).mono ?_
                rintro e w11 ⟨rfl, hb11⟩
                obtain ⟨m1, m2, m3⟩ := M4.out
                rw [m1, m2, m3]
                clear m1 m2 m3 M4
                have N0 := Lib.hid ((J0.out.keep hb11).alloc (.cells #[.int .i64 n, .int .i64 d] 25))
                have N1 := Lib.hid ((J2.out.keep hb11).alloc (.cells #[.int .i64 n, .int .i64 d] 25))
                have N2 := Lib.hid (Box2.new w11 n d 25)
                have L11 := Lib.hid (bA (bT L10.out hb11) (.cells #[.int .i64 n, .int .i64 d] 25))
                clear J0 J2 L10 hb11
                generalize hW11 : w11.alloc (.cells #[.int .i64 n, .int .i64 d] 25) = W11 at *
                generalize hbm : w11.heap.size = bm at *
                obtain ⟨x0, x1, x2, x3, x4⟩ := N0.out
                obtain ⟨y0, y1, y2, y3, y4⟩ := N1.out
                obtain ⟨z0, z1, z2, z3, z4⟩ := N2.out
                go_wp2_with fail
                try rw [hW11]
                go_ret
                exact ⟨rfl, by first | exact L11.out | (rw [hW11]; exact L11.out)⟩
        · have hm := HMUL.out hp (by trivial)
          clear HMUL
          have HM2 := Lib.hid hm
          clear hm
          go_wp2_with fail
          generalize ((w4.setCell ⟨bx, 0, none⟩ (.int .i64 ma)).setCell ⟨bx, 1, none⟩ (.int .i64 mb)) = W4 at *
          refine (DivRatioI_any _ _ _ _ _ a0 a1 (HS.out.keep L4.out)).mono ?_
          rintro e w5 ⟨rfl, hb5⟩
          obtain ⟨hox, g1, g2, g3⟩ := HM2.out
          rw [v_yes hox K2.out]
          obtain ⟨oe1, oe2, oe3⟩ := o_yes (mulX ma q) (mulX mb p)
          rw [oe1, oe2, oe3, g1, g2, g3]
          clear oe1 oe2 oe3 g1 g2 g3 hox HM2
          clear x0 x1 x2 x3 x4 y0 y1 y2 y3 y4 z0 z1 z2 z3 z4 u0 u1 u2 u3 u4
          have E0 := Lib.hid ((D0.out.keep hb5).alloc (.cells #[.int .i64 n, .int .i64 d] 25))
          have E1 := Lib.hid ((D1.out.keep hb5).alloc (.cells #[.int .i64 n, .int .i64 d] 25))
          have E3 := Lib.hid (Box2.new w5 n d 25)
          have L5 := Lib.hid (bA (bT L4.out hb5) (.cells #[.int .i64 n, .int .i64 d] 25))
          clear D0 D1 D2 L4 hb5
          generalize hW5 : w5.alloc (.cells #[.int .i64 n, .int .i64 d] 25) = W5 at *
          generalize hby2 : w5.heap.size = by2 at *
          obtain ⟨x0, x1, x2, x3, x4⟩ := E0.out
          obtain ⟨y0, y1, y2, y3, y4⟩ := E1.out
          obtain ⟨z0, z1, z2, z3, z4⟩ := E3.out
          go_wp2_with fail
          try rw [hW5]
          clear hW5 hby2
          refine (CompareRatioI_any _ _ _ _ _).mono ?_
          rintro e w6 ⟨rfl, hb6⟩
          have hkb : -1 ≤ cmpR n d p q ∧ cmpR n d p q ≤ 1 := by unfold cmpR cmpV; split <;> (try split) <;> (try split) <;> omega
          have KZ := Lib.hid (cmp_zero K1.out K2.out)
          have KW := Lib.hid (cmp_swap (n := n) (d := d) (p := p) (q := q))
          have KS := Lib.hid (sub_sign K1.out K2.out)
          generalize cmpR n d p q = kv at *
          clear x0 x1 x2 x3 x4 y0 y1 y2 y3 y4 z0 z1 z2 z3 z4
          have F0 := Lib.hid (E0.out.keep hb6)
          have F1 := Lib.hid (E1.out.keep hb6)
          have L6 := Lib.hid (bT L5.out hb6)
          clear hb6 E0 E1
          obtain ⟨x0, x1, x2, x3, x4⟩ := F0.out
          obtain ⟨y0, y1, y2, y3, y4⟩ := F1.out
          go_wp2_with fail
          refine (SubRatioI_any _ _ _ _ _ a0 a1 (HS.out.keep L6.out)).mono ?_
          rintro e w7 ⟨rfl, hb7⟩
          rw [v_yes K1.out K2.out]
          obtain ⟨oe1, oe2, oe3⟩ := o_yes (addX n d (-p) q) (mulX d q)
          rw [oe1, oe2, oe3]
          clear oe1 oe2 oe3
          generalize rC (addX n d (-p) q) (mulX d q) = cd at *
          generalize rA (addX n d (-p) q) (mulX d q) = da at *
          generalize rB (addX n d (-p) q) (mulX d q) = db at *
          clear x0 x1 x2 x3 x4 y0 y1 y2 y3 y4
          have G0 := Lib.hid ((F0.out.keep hb7).alloc (.cells #[.int .i64 da, .int .i64 db] 25))
          have G1 := Lib.hid ((F1.out.keep hb7).alloc (.cells #[.int .i64 da, .int .i64 db] 25))
          have G2 := Lib.hid (Box2.new w7 da db 25)
          have L7 := Lib.hid (bA (bT L6.out hb7) (.cells #[.int .i64 da, .int .i64 db] 25))
          clear F0 F1 L6 hb7
          generalize hW7 : w7.alloc (.cells #[.int .i64 da, .int .i64 db] 25) = W7 at *
          generalize hbd : w7.heap.size = bd at *
          obtain ⟨x0, x1, x2, x3, x4⟩ := G0.out
          obtain ⟨y0, y1, y2, y3, y4⟩ := G1.out
          obtain ⟨z0, z1, z2, z3, z4⟩ := G2.out
          by_cases hcd : cd = 0
          · subst hcd
            have ks := KS.out (by trivial)
            have ks' : (0 < da) ↔ (0 < kv) := by simpa using ks
            clear KS ks
            by_cases hk0 : 0 < kv
            · have hda : 0 < da := ks'.2 hk0
              go_wp2_with fail
              try rw [hW7]
              refine (CompareRatioI_any _ _ _ _ _).mono ?_
              rintro e w8 ⟨rfl, hb8⟩
              rw [KW.out]
              clear KW hW7 hbd
              clear x0 x1 x2 x3 x4 y0 y1 y2 y3 y4 z0 z1 z2 z3 z4
              have H0 := Lib.hid (G0.out.keep hb8)
              have H1 := Lib.hid (G1.out.keep hb8)
              have L8 := Lib.hid (bT L7.out hb8)
              clear G0 G1 G2 L7 hb8
              obtain ⟨x0, x1, x2, x3, x4⟩ := H0.out
              obtain ⟨y0, y1, y2, y3, y4⟩ := H1.out
              by_cases hz : kv = 0
              · exact absurd hz (by omega)
              · have hz' : (kv == 0) = false := by simpa using hz
                by_cases e1 : n = p
                · have e2 : ¬ d = q := fun h => hz (KZ.out.2 ⟨e1, h⟩)
                  have e2' : (d == q) = false := by simpa using e2
                  clear KZ e2
                  subst e1
                  go_wp2_with fail
                  refine (RatioTextI_any _ _ _ (Pow10.keep L8.out HP.out)).mono ?_
                  rintro e w9 ⟨rfl, hb9⟩
                  have TT := Lib.hid (show RrIs (txtR n d).data.toList n d true from .inl ⟨rfl, K1.out, (txt_tl K1.out).symm⟩)
                  have TS := Lib.hid (txt_small (n := n) (d := d))
                  generalize txtR n d = tx at *
                  have I0 := Lib.hid (H0.out.keep hb9)
                  have L9 := Lib.hid (bT L8.out hb9)
                  clear H0 H1 L8 hb9 x0 x1 x2 x3 x4 y0 y1 y2 y3 y4
                  go_wp2_with fail
                  refine (ReadRatioI_any _ _ TS.out (Pow10.keep L9.out HP.out) (ErrVars.keep L9.out HE.out) (MLen.keep L9.out HM.out)).mono ?_
                  rintro e w10 ⟨⟨rn, rd, rk, rfl, hrr⟩, hb10⟩
                  obtain ⟨r1, r2, r3⟩ := RrIs.uniq TT.out hrr
                  subst r1 r2 r3
                  clear TT TS hrr
                  have M3 := mk_three K1.out
                  try rw [Int.mul_zero] at M3
                  have M4 := Lib.hid M3
                  clear M3
                  obtain ⟨nb1, nb2, nb3, nb4⟩ := okR_bd K1.out
                  have J0 := Lib.hid ((I0.out.keep hb10).alloc (.cells #[.int .i64 n, .int .i64 d] 25))
                  have J2 := Lib.hid (Box2.new w10 n d 25)
                  have L10 := Lib.hid (bA (bT L9.out hb10) (.cells #[.int .i64 n, .int .i64 d] 25))
                  clear I0 L9 hb10
                  generalize hW10 : w10.alloc (.cells #[.int .i64 n, .int .i64 d] 25) = W10 at *
                  generalize hbr : w10.heap.size = br at *
                  obtain ⟨x0, x1, x2, x3, x4⟩ := J0.out
                  go_wp2_with fail
                  try rw [hW10]
                  clear hW10 hbr x0 x1 x2 x3 x4
                  refine (MakeRatioI_any _ _ _ a0 a1 (HS.out.keep L10.out) (by omega) (by omega) (by omega) (by omega)).mono ?_
                  rintro e w11 ⟨rfl, hb11⟩
                  obtain ⟨m1, m2, m3⟩ := M4.out
                  rw [m1, m2, m3]
                  clear m1 m2 m3 M4
                  have N0 := Lib.hid ((J0.out.keep hb11).alloc (.cells #[.int .i64 n, .int .i64 d] 25))
                  have N1 := Lib.hid ((J2.out.keep hb11).alloc (.cells #[.int .i64 n, .int .i64 d] 25))
                  have N2 := Lib.hid (Box2.new w11 n d 25)
                  have L11 := Lib.hid (bA (bT L10.out hb11) (.cells #[.int .i64 n, .int .i64 d] 25))
                  clear J0 J2 L10 hb11
                  generalize hW11 : w11.alloc (.cells #[.int .i64 n, .int .i64 d] 25) = W11 at *
                  generalize hbm : w11.heap.size = bm at *
                  obtain ⟨x0, x1, x2, x3, x4⟩ := N0.out
                  obtain ⟨y0, y1, y2, y3, y4⟩ := N1.out
                  obtain ⟨z0, z1, z2, z3, z4⟩ := N2.out
                  go_wp2_with fail
                  try rw [hW11]
                  go_ret
                  exact ⟨rfl, by first | exact L11.out | (rw [hW11]; exact L11.out)⟩
                · have e1' : (n == p) = false := by simpa using e1
                  clear KZ e1
                  go_wp2_with fail
                  refine (RatioTextI_any _ _ _ (Pow10.keep L8.out HP.out)).mono ?_
                  rintro e w9 ⟨rfl, hb9⟩
                  have TT := Lib.hid (show RrIs (txtR n d).data.toList n d true from .inl ⟨rfl, K1.out, (txt_tl K1.out).symm⟩)
                  have TS := Lib.hid (txt_small (n := n) (d := d))
                  generalize txtR n d = tx at *
                  have I0 := Lib.hid (H0.out.keep hb9)
                  have L9 := Lib.hid (bT L8.out hb9)
                  clear H0 H1 L8 hb9 x0 x1 x2 x3 x4 y0 y1 y2 y3 y4
                  go_wp2_with fail
                  refine (ReadRatioI_any _ _ TS.out (Pow10.keep L9.out HP.out) (ErrVars.keep L9.out HE.out) (MLen.keep L9.out HM.out)).mono ?_
                  rintro e w10 ⟨⟨rn, rd, rk, rfl, hrr⟩, hb10⟩
                  obtain ⟨r1, r2, r3⟩ := RrIs.uniq TT.out hrr
                  subst r1 r2 r3
                  clear TT TS hrr
                  have M3 := mk_three K1.out
                  try rw [Int.mul_zero] at M3
                  have M4 := Lib.hid M3
                  clear M3
                  obtain ⟨nb1, nb2, nb3, nb4⟩ := okR_bd K1.out
                  have J0 := Lib.hid ((I0.out.keep hb10).alloc (.cells #[.int .i64 n, .int .i64 d] 25))
                  have J2 := Lib.hid (Box2.new w10 n d 25)
                  have L10 := Lib.hid (bA (bT L9.out hb10) (.cells #[.int .i64 n, .int .i64 d] 25))
                  clear I0 L9 hb10
                  generalize hW10 : w10.alloc (.cells #[.int .i64 n, .int .i64 d] 25) = W10 at *
                  generalize hbr : w10.heap.size = br at *
                  obtain ⟨x0, x1, x2, x3, x4⟩ := J0.out
                  go_wp2_with fail
                  try rw [hW10]
                  clear hW10 hbr x0 x1 x2 x3 x4
                  refine (MakeRatioI_any _ _ _ a0 a1 (HS.out.keep L10.out) (by omega) (by omega) (by omega) (by omega)).mono ?_
                  rintro e w11 ⟨rfl, hb11⟩
                  obtain ⟨m1, m2, m3⟩ := M4.out
                  rw [m1, m2, m3]
                  clear m1 m2 m3 M4
                  have N0 := Lib.hid ((J0.out.keep hb11).alloc (.cells #[.int .i64 n, .int .i64 d] 25))
                  have N1 := Lib.hid ((J2.out.keep hb11).alloc (.cells #[.int .i64 n, .int .i64 d] 25))
                  have N2 := Lib.hid (Box2.new w11 n d 25)
                  have L11 := Lib.hid (bA (bT L10.out hb11) (.cells #[.int .i64 n, .int .i64 d] 25))
                  clear J0 J2 L10 hb11
                  generalize hW11 : w11.alloc (.cells #[.int .i64 n, .int .i64 d] 25) = W11 at *
                  generalize hbm : w11.heap.size = bm at *
                  obtain ⟨x0, x1, x2, x3, x4⟩ := N0.out
                  obtain ⟨y0, y1, y2, y3, y4⟩ := N1.out
                  obtain ⟨z0, z1, z2, z3, z4⟩ := N2.out
                  go_wp2_with fail
                  try rw [hW11]
                  go_ret
                  exact ⟨rfl, by first | exact L11.out | (rw [hW11]; exact L11.out)⟩
            · have hda : ¬ 0 < da := fun h => hk0 (ks'.1 h)
              go_wp2_with fail
              try rw [hW7]
              refine (CompareRatioI_any _ _ _ _ _).mono ?_
              rintro e w8 ⟨rfl, hb8⟩
              rw [KW.out]
              clear KW hW7 hbd
              clear x0 x1 x2 x3 x4 y0 y1 y2 y3 y4 z0 z1 z2 z3 z4
              have H0 := Lib.hid (G0.out.keep hb8)
              have H1 := Lib.hid (G1.out.keep hb8)
              have L8 := Lib.hid (bT L7.out hb8)
              clear G0 G1 G2 L7 hb8
              obtain ⟨x0, x1, x2, x3, x4⟩ := H0.out
              obtain ⟨y0, y1, y2, y3, y4⟩ := H1.out
              by_cases hz : kv = 0
              · obtain ⟨e1, e2⟩ := KZ.out.1 hz
                clear KZ
                subst hz
                subst e1
                subst e2
                go_wp2_with fail
                refine (RatioTextI_any _ _ _ (Pow10.keep L8.out HP.out)).mono ?_
                rintro e w9 ⟨rfl, hb9⟩
                have TT := Lib.hid (show RrIs (txtR n d).data.toList n d true from .inl ⟨rfl, K1.out, (txt_tl K1.out).symm⟩)
                have TS := Lib.hid (txt_small (n := n) (d := d))
                generalize txtR n d = tx at *
                have I0 := Lib.hid (H0.out.keep hb9)
                have L9 := Lib.hid (bT L8.out hb9)
                clear H0 H1 L8 hb9 x0 x1 x2 x3 x4 y0 y1 y2 y3 y4
                go_wp2_with fail
                refine (ReadRatioI_any _ _ TS.out (Pow10.keep L9.out HP.out) (ErrVars.keep L9.out HE.out) (MLen.keep L9.out HM.out)).mono ?_
                rintro e w10 ⟨⟨rn, rd, rk, rfl, hrr⟩, hb10⟩
                obtain ⟨r1, r2, r3⟩ := RrIs.uniq TT.out hrr
                subst r1 r2 r3
                clear TT TS hrr
                have M3 := mk_three K1.out
                try rw [Int.mul_zero] at M3
                have M4 := Lib.hid M3
                clear M3
                obtain ⟨nb1, nb2, nb3, nb4⟩ := okR_bd K1.out
                have J0 := Lib.hid ((I0.out.keep hb10).alloc (.cells #[.int .i64 n, .int .i64 d] 25))
                have J2 := Lib.hid (Box2.new w10 n d 25)
                have L10 := Lib.hid (bA (bT L9.out hb10) (.cells #[.int .i64 n, .int .i64 d] 25))
                clear I0 L9 hb10
                generalize hW10 : w10.alloc (.cells #[.int .i64 n, .int .i64 d] 25) = W10 at *
                generalize hbr : w10.heap.size = br at *
                obtain ⟨x0, x1, x2, x3, x4⟩ := J0.out
                go_wp2_with fail
                try rw [hW10]
                clear hW10 hbr x0 x1 x2 x3 x4
                refine (MakeRatioI_any _ _ _ a0 a1 (HS.out.keep L10.out) (by omega) (by omega) (by omega) (by omega)).mono ?_
                rintro e w11 ⟨rfl, hb11⟩
                obtain ⟨m1, m2, m3⟩ := M4.out
                rw [m1, m2, m3]
                clear m1 m2 m3 M4
                have N0 := Lib.hid ((J0.out.keep hb11).alloc (.cells #[.int .i64 n, .int .i64 d] 25))
                have N1 := Lib.hid ((J2.out.keep hb11).alloc (.cells #[.int .i64 n, .int .i64 d] 25))
                have N2 := Lib.hid (Box2.new w11 n d 25)
                have L11 := Lib.hid (bA (bT L10.out hb11) (.cells #[.int .i64 n, .int .i64 d] 25))
                clear J0 J2 L10 hb11
                generalize hW11 : w11.alloc (.cells #[.int .i64 n, .int .i64 d] 25) = W11 at *
                generalize hbm : w11.heap.size = bm at *
                obtain ⟨x0, x1, x2, x3, x4⟩ := N0.out
                obtain ⟨y0, y1, y2, y3, y4⟩ := N1.out
                obtain ⟨z0, z1, z2, z3, z4⟩ := N2.out
                go_wp2_with fail
                try rw [hW11]
                go_ret
                exact ⟨rfl, by first | exact L11.out | (rw [hW11]; exact L11.out)⟩
              · have hz' : (kv == 0) = false := by simpa using hz
                by_cases e1 : n = p
                · have e2 : ¬ d = q := fun h => hz (KZ.out.2 ⟨e1, h⟩)
                  have e2' : (d == q) = false := by simpa using e2
                  clear KZ e2
                  subst e1
                  go_wp2_with fail
                  refine (RatioTextI_any _ _ _ (Pow10.keep L8.out HP.out)).mono ?_
                  rintro e w9 ⟨rfl, hb9⟩
                  have TT := Lib.hid (show RrIs (txtR n d).data.toList n d true from .inl ⟨rfl, K1.out, (txt_tl K1.out).symm⟩)
                  have TS := Lib.hid (txt_small (n := n) (d := d))
                  generalize txtR n d = tx at *
                  have I0 := Lib.hid (H0.out.keep hb9)
                  have L9 := Lib.hid (bT L8.out hb9)
                  clear H0 H1 L8 hb9 x0 x1 x2 x3 x4 y0 y1 y2 y3 y4
                  go_wp2_with fail
                  refine (ReadRatioI_any _ _ TS.out (Pow10.keep L9.out HP.out) (ErrVars.keep L9.out HE.out) (MLen.keep L9.out HM.out)).mono ?_
                  rintro e w10 ⟨⟨rn, rd, rk, rfl, hrr⟩, hb10⟩
                  obtain ⟨r1, r2, r3⟩ := RrIs.uniq TT.out hrr
                  subst r1 r2 r3
                  clear TT TS hrr
                  have M3 := mk_three K1.out
                  try rw [Int.mul_zero] at M3
                  have M4 := Lib.hid M3
                  clear M3
                  obtain ⟨nb1, nb2, nb3, nb4⟩ := okR_bd K1.out
                  have J0 := Lib.hid ((I0.out.keep hb10).alloc (.cells #[.int .i64 n, .int .i64 d] 25))
                  have J2 := Lib.hid (Box2.new w10 n d 25)
                  have L10 := Lib.hid (bA (bT L9.out hb10) (.cells #[.int .i64 n, .int .i64 d] 25))
                  clear I0 L9 hb10
                  generalize hW10 : w10.alloc (.cells #[.int .i64 n, .int .i64 d] 25) = W10 at *
                  generalize hbr : w10.heap.size = br at *
                  obtain ⟨x0, x1, x2, x3, x4⟩ := J0.out
                  go_wp2_with fail
                  try rw [hW10]
                  clear hW10 hbr x0 x1 x2 x3 x4
                  refine (MakeRatioI_any _ _ _ a0 a1 (HS.out.keep L10.out) (by omega) (by omega) (by omega) (by omega)).mono ?_
                  rintro e w11 ⟨rfl, hb11⟩
                  obtain ⟨m1, m2, m3⟩ := M4.out
                  rw [m1, m2, m3]
                  clear m1 m2 m3 M4
                  have N0 := Lib.hid ((J0.out.keep hb11).alloc (.cells #[.int .i64 n, .int .i64 d] 25))
                  have N1 := Lib.hid ((J2.out.keep hb11).alloc (.cells #[.int .i64 n, .int .i64 d] 25))
                  have N2 := Lib.hid (Box2.new w11 n d 25)
                  have L11 := Lib.hid (bA (bT L10.out hb11) (.cells #[.int .i64 n, .int .i64 d] 25))
                  clear J0 J2 L10 hb11
                  generalize hW11 : w11.alloc (.cells #[.int .i64 n, .int .i64 d] 25) = W11 at *
                  generalize hbm : w11.heap.size = bm at *
                  obtain ⟨x0, x1, x2, x3, x4⟩ := N0.out
                  obtain ⟨y0, y1, y2, y3, y4⟩ := N1.out
                  obtain ⟨z0, z1, z2, z3, z4⟩ := N2.out
                  go_wp2_with fail
                  try rw [hW11]
                  go_ret
                  exact ⟨rfl, by first | exact L11.out | (rw [hW11]; exact L11.out)⟩
                · have e1' : (n == p) = false := by simpa using e1
                  clear KZ e1
                  go_wp2_with fail
                  refine (RatioTextI_any _ _ _ (Pow10.keep L8.out HP.out)).mono ?_
                  rintro e w9 ⟨rfl, hb9⟩
                  have TT := Lib.hid (show RrIs (txtR n d).data.toList n d true from .inl ⟨rfl, K1.out, (txt_tl K1.out).symm⟩)
                  have TS := Lib.hid (txt_small (n := n) (d := d))
                  generalize txtR n d = tx at *
                  have I0 := Lib.hid (H0.out.keep hb9)
                  have L9 := Lib.hid (bT L8.out hb9)
                  clear H0 H1 L8 hb9 x0 x1 x2 x3 x4 y0 y1 y2 y3 y4
                  go_wp2_with fail
                  refine (ReadRatioI_any _ _ TS.out (Pow10.keep L9.out HP.out) (ErrVars.keep L9.out HE.out) (MLen.keep L9.out HM.out)).mono ?_
                  rintro e w10 ⟨⟨rn, rd, rk, rfl, hrr⟩, hb10⟩
                  obtain ⟨r1, r2, r3⟩ := RrIs.uniq TT.out hrr
                  subst r1 r2 r3
                  clear TT TS hrr
                  have M3 := mk_three K1.out
                  try rw [Int.mul_zero] at M3
                  have M4 := Lib.hid M3
                  clear M3
                  obtain ⟨nb1, nb2, nb3, nb4⟩ := okR_bd K1.out
                  have J0 := Lib.hid ((I0.out.keep hb10).alloc (.cells #[.int .i64 n, .int .i64 d] 25))
                  have J2 := Lib.hid (Box2.new w10 n d 25)
                  have L10 := Lib.hid (bA (bT L9.out hb10) (.cells #[.int .i64 n, .int .i64 d] 25))
                  clear I0 L9 hb10
                  generalize hW10 : w10.alloc (.cells #[.int .i64 n, .int .i64 d] 25) = W10 at *
                  generalize hbr : w10.heap.size = br at *
                  obtain ⟨x0, x1, x2, x3, x4⟩ := J0.out
                  go_wp2_with fail
                  try rw [hW10]
                  clear hW10 hbr x0 x1 x2 x3 x4
                  refine (MakeRatioI_any _ _ _ a0 a1 (HS.out.keep L10.out) (by omega) (by omega) (by omega) (by omega)).mono ?_
                  rintro e w11 ⟨rfl, hb11⟩
                  obtain ⟨m1, m2, m3⟩ := M4.out
                  rw [m1, m2, m3]
                  clear m1 m2 m3 M4
                  have N0 := Lib.hid ((J0.out.keep hb11).alloc (.cells #[.int .i64 n, .int .i64 d] 25))
                  have N1 := Lib.hid ((J2.out.keep hb11).alloc (.cells #[.int .i64 n, .int .i64 d] 25))
                  have N2 := Lib.hid (Box2.new w11 n d 25)
                  have L11 := Lib.hid (bA (bT L10.out hb11) (.cells #[.int .i64 n, .int .i64 d] 25))
                  clear J0 J2 L10 hb11
                  generalize hW11 : w11.alloc (.cells #[.int .i64 n, .int .i64 d] 25) = W11 at *
                  generalize hbm : w11.heap.size = bm at *
                  obtain ⟨x0, x1, x2, x3, x4⟩ := N0.out
                  obtain ⟨y0, y1, y2, y3, y4⟩ := N1.out
                  obtain ⟨z0, z1, z2, z3, z4⟩ := N2.out
                  go_wp2_with fail
                  try rw [hW11]
                  go_ret
                  exact ⟨rfl, by first | exact L11.out | (rw [hW11]; exact L11.out)⟩
          · have hcd' : (cd == 0) = false := by simpa using hcd
            clear KS hcd
            go_wp2_with fail
            try rw [hW7]
            refine (CompareRatioI_any _ _ _ _ _).mono ?_
            rintro e w8 ⟨rfl, hb8⟩
            rw [KW.out]
            clear KW hW7 hbd
            clear x0 x1 x2 x3 x4 y0 y1 y2 y3 y4 z0 z1 z2 z3 z4
            have H0 := Lib.hid (G0.out.keep hb8)
            have H1 := Lib.hid (G1.out.keep hb8)
            have L8 := Lib.hid (bT L7.out hb8)
            clear G0 G1 G2 L7 hb8
            obtain ⟨x0, x1, x2, x3, x4⟩ := H0.out
            obtain ⟨y0, y1, y2, y3, y4⟩ := H1.out
            by_cases hz : kv = 0
            · obtain ⟨e1, e2⟩ := KZ.out.1 hz
              clear KZ
              subst hz
              subst e1
              subst e2
              go_wp2_with fail
              refine (RatioTextI_any _ _ _ (Pow10.keep L8.out HP.out)).mono ?_
              rintro e w9 ⟨rfl, hb9⟩
              have TT := Lib.hid (show RrIs (txtR n d).data.toList n d true from .inl ⟨rfl, K1.out, (txt_tl K1.out).symm⟩)
              have TS := Lib.hid (txt_small (n := n) (d := d))
              generalize txtR n d = tx at *
              have I0 := Lib.hid (H0.out.keep hb9)
              have L9 := Lib.hid (bT L8.out hb9)
              clear H0 H1 L8 hb9 x0 x1 x2 x3 x4 y0 y1 y2 y3 y4
              go_wp2_with fail
              refine (ReadRatioI_any _ _ TS.out (Pow10.keep L9.out HP.out) (ErrVars.keep L9.out HE.out) (MLen.keep L9.out HM.out)).mono ?_
              rintro e w10 ⟨⟨rn, rd, rk, rfl, hrr⟩, hb10⟩
              obtain ⟨r1, r2, r3⟩ := RrIs.uniq TT.out hrr
              subst r1 r2 r3
              clear TT TS hrr
              have M3 := mk_three K1.out
              try rw [Int.mul_zero] at M3
              have M4 := Lib.hid M3
              clear M3
              obtain ⟨nb1, nb2, nb3, nb4⟩ := okR_bd K1.out
              have J0 := Lib.hid ((I0.out.keep hb10).alloc (.cells #[.int .i64 n, .int .i64 d] 25))
              have J2 := Lib.hid (Box2.new w10 n d 25)
              have L10 := Lib.hid (bA (bT L9.out hb10) (.cells #[.int .i64 n, .int .i64 d] 25))
              clear I0 L9 hb10
              generalize hW10 : w10.alloc (.cells #[.int .i64 n, .int .i64 d] 25) = W10 at *
              generalize hbr : w10.heap.size = br at *
              obtain ⟨x0, x1, x2, x3, x4⟩ := J0.out
              go_wp2_with fail
              try rw [hW10]
              clear hW10 hbr x0 x1 x2 x3 x4
              refine (MakeRatioI_any _ _ _ a0 a1 (HS.out.keep L10.out) (by omega) (by omega) (by omega) (by omega)).mono ?_
              rintro e w11 ⟨rfl, hb11⟩
              obtain ⟨m1, m2, m3⟩ := M4.out
              rw [m1, m2, m3]
              clear m1 m2 m3 M4
              have N0 := Lib.hid ((J0.out.keep hb11).alloc (.cells #[.int .i64 n, .int .i64 d] 25))
              have N1 := Lib.hid ((J2.out.keep hb11).alloc (.cells #[.int .i64 n, .int .i64 d] 25))
              have N2 := Lib.hid (Box2.new w11 n d 25)
              have L11 := Lib.hid (bA (bT L10.out hb11) (.cells #[.int .i64 n, .int .i64 d] 25))
              clear J0 J2 L10 hb11
              generalize hW11 : w11.alloc (.cells #[.int .i64 n, .int .i64 d] 25) = W11 at *
              generalize hbm : w11.heap.size = bm at *
              obtain ⟨x0, x1, x2, x3, x4⟩ := N0.out
              obtain ⟨y0, y1, y2, y3, y4⟩ := N1.out
              obtain ⟨z0, z1, z2, z3, z4⟩ := N2.out
              go_wp2_with fail
              try rw [hW11]
              go_ret
              exact ⟨rfl, by first | exact L11.out | (rw [hW11]; exact L11.out)⟩
            · have hz' : (kv == 0) = false := by simpa using hz
              by_cases e1 : n = p
              · have e2 : ¬ d = q := fun h => hz (KZ.out.2 ⟨e1, h⟩)
                have e2' : (d == q) = false := by simpa using e2
                clear KZ e2
                subst e1
                go_wp2_with fail
                refine (RatioTextI_any _ _ _ (Pow10.keep L8.out HP.out)).mono ?_
                rintro e w9 ⟨rfl, hb9⟩
                have TT := Lib.hid (show RrIs (txtR n d).data.toList n d true from .inl ⟨rfl, K1.out, (txt_tl K1.out).symm⟩)
                have TS := Lib.hid (txt_small (n := n) (d := d))
                generalize txtR n d = tx at *
                have I0 := Lib.hid (H0.out.keep hb9)
                have L9 := Lib.hid (bT L8.out hb9)
                clear H0 H1 L8 hb9 x0 x1 x2 x3 x4 y0 y1 y2 y3 y4
                go_wp2_with fail
                refine (ReadRatioI_any _ _ TS.out (Pow10.keep L9.out HP.out) (ErrVars.keep L9.out HE.out) (MLen.keep L9.out HM.out)).mono ?_
                rintro e w10 ⟨⟨rn, rd, rk, rfl, hrr⟩, hb10⟩
                obtain ⟨r1, r2, r3⟩ := RrIs.uniq TT.out hrr
                subst r1 r2 r3
                clear TT TS hrr
                have M3 := mk_three K1.out
                try rw [Int.mul_zero] at M3
                have M4 := Lib.hid M3
                clear M3
                obtain ⟨nb1, nb2, nb3, nb4⟩ := okR_bd K1.out
                have J0 := Lib.hid ((I0.out.keep hb10).alloc (.cells #[.int .i64 n, .int .i64 d] 25))
                have J2 := Lib.hid (Box2.new w10 n d 25)
                have L10 := Lib.hid (bA (bT L9.out hb10) (.cells #[.int .i64 n, .int .i64 d] 25))
                clear I0 L9 hb10
                generalize hW10 : w10.alloc (.cells #[.int .i64 n, .int .i64 d] 25) = W10 at *
                generalize hbr : w10.heap.size = br at *
                obtain ⟨x0, x1, x2, x3, x4⟩ := J0.out
                go_wp2_with fail
                try rw [hW10]
                clear hW10 hbr x0 x1 x2 x3 x4
                refine (MakeRatioI_any _ _ _ a0 a1 (HS.out.keep L10.out) (by omega) (by omega) (by omega) (by omega)).mono ?_
                rintro e w11 ⟨rfl, hb11⟩
                obtain ⟨m1, m2, m3⟩ := M4.out
                rw [m1, m2, m3]
                clear m1 m2 m3 M4
                have N0 := Lib.hid ((J0.out.keep hb11).alloc (.cells #[.int .i64 n, .int .i64 d] 25))
                have N1 := Lib.hid ((J2.out.keep hb11).alloc (.cells #[.int .i64 n, .int .i64 d] 25))
                have N2 := Lib.hid (Box2.new w11 n d 25)
                have L11 := Lib.hid (bA (bT L10.out hb11) (.cells #[.int .i64 n, .int .i64 d] 25))
                clear J0 J2 L10 hb11
                generalize hW11 : w11.alloc (.cells #[.int .i64 n, .int .i64 d] 25) = W11 at *
                generalize hbm : w11.heap.size = bm at *
                obtain ⟨x0, x1, x2, x3, x4⟩ := N0.out
                obtain ⟨y0, y1, y2, y3, y4⟩ := N1.out
                obtain ⟨z0, z1, z2, z3, z4⟩ := N2.out
                go_wp2_with fail
                try rw [hW11]
                go_ret
                exact ⟨rfl, by first | exact L11.out | (rw [hW11]; exact L11.out)⟩
              · have e1' : (n == p) = false := by simpa using e1
                clear KZ e1
                go_wp2_with fail
                refine (RatioTextI_any _ _ _ (Pow10.keep L8.out HP.out)).mono ?_
                rintro e w9 ⟨rfl, hb9⟩
                have TT := Lib.hid (show RrIs (txtR n d).data.toList n d true from .inl ⟨rfl, K1.out, (txt_tl K1.out).symm⟩)
                have TS := Lib.hid (txt_small (n := n) (d := d))
                generalize txtR n d = tx at *
                have I0 := Lib.hid (H0.out.keep hb9)
                have L9 := Lib.hid (bT L8.out hb9)
                clear H0 H1 L8 hb9 x0 x1 x2 x3 x4 y0 y1 y2 y3 y4
                go_wp2_with fail
                refine (ReadRatioI_any _ _ TS.out (Pow10.keep L9.out HP.out) (ErrVars.keep L9.out HE.out) (MLen.keep L9.out HM.out)).mono ?_
                rintro e w10 ⟨⟨rn, rd, rk, rfl, hrr⟩, hb10⟩
                obtain ⟨r1, r2, r3⟩ := RrIs.uniq TT.out hrr
                subst r1 r2 r3
                clear TT TS hrr
                have M3 := mk_three K1.out
                try rw [Int.mul_zero] at M3
                have M4 := Lib.hid M3
                clear M3
                obtain ⟨nb1, nb2, nb3, nb4⟩ := okR_bd K1.out
                have J0 := Lib.hid ((I0.out.keep hb10).alloc (.cells #[.int .i64 n, .int .i64 d] 25))
                have J2 := Lib.hid (Box2.new w10 n d 25)
                have L10 := Lib.hid (bA (bT L9.out hb10) (.cells #[.int .i64 n, .int .i64 d] 25))
                clear I0 L9 hb10
                generalize hW10 : w10.alloc (.cells #[.int .i64 n, .int .i64 d] 25) = W10 at *
                generalize hbr : w10.heap.size = br at *
                obtain ⟨x0, x1, x2, x3, x4⟩ := J0.out
                go_wp2_with fail
                try rw [hW10]
                clear hW10 hbr x0 x1 x2 x3 x4
                refine (MakeRatioI_any _ _ _ a0 a1 (HS.out.keep L10.out) (by omega) (by omega) (by omega) (by omega)).mono ?_
                rintro e w11 ⟨rfl, hb11⟩
                obtain ⟨m1, m2, m3⟩ := M4.out
                rw [m1, m2, m3]
                clear m1 m2 m3 M4
                have N0 := Lib.hid ((J0.out.keep hb11).alloc (.cells #[.int .i64 n, .int .i64 d] 25))
                have N1 := Lib.hid ((J2.out.keep hb11).alloc (.cells #[.int .i64 n, .int .i64 d] 25))
                have N2 := Lib.hid (Box2.new w11 n d 25)
                have L11 := Lib.hid (bA (bT L10.out hb11) (.cells #[.int .i64 n, .int .i64 d] 25))
                clear J0 J2 L10 hb11
                generalize hW11 : w11.alloc (.cells #[.int .i64 n, .int .i64 d] 25) = W11 at *
                generalize hbm : w11.heap.size = bm at *
                obtain ⟨x0, x1, x2, x3, x4⟩ := N0.out
                obtain ⟨y0, y1, y2, y3, y4⟩ := N1.out
                obtain ⟨z0, z1, z2, z3, z4⟩ := N2.out
                go_wp2_with fail
                try rw [hW11]
                go_ret
                exact ⟨rfl, by first | exact L11.out | (rw [hW11]; exact L11.out)⟩
      · have hcm' : (cm == 0) = false := by simpa using hcm
        clear HMUL hcm
        go_wp2_with fail
        generalize ((w4.setCell ⟨bx, 0, none⟩ (.int .i64 ma)).setCell ⟨bx, 1, none⟩ (.int .i64 mb)) = W4 at *
        refine (CompareRatioI_any _ _ _ _ _).mono ?_
        rintro e w6 ⟨rfl, hb6⟩
        have hkb : -1 ≤ cmpR n d p q ∧ cmpR n d p q ≤ 1 := by unfold cmpR cmpV; split <;> (try split) <;> (try split) <;> omega
        have KZ := Lib.hid (cmp_zero K1.out K2.out)
        have KW := Lib.hid (cmp_swap (n := n) (d := d) (p := p) (q := q))
        have KS := Lib.hid (sub_sign K1.out K2.out)
        generalize cmpR n d p q = kv at *
        clear x0 x1 x2 x3 x4 y0 y1 y2 y3 y4 z0 z1 z2 z3 z4 u0 u1 u2 u3 u4
        have F0 := Lib.hid (D0.out.keep hb6)
        have F1 := Lib.hid (D1.out.keep hb6)
        have L6 := Lib.hid (bT L4.out hb6)
        clear hb6 D0 D1
        obtain ⟨x0, x1, x2, x3, x4⟩ := F0.out
        obtain ⟨y0, y1, y2, y3, y4⟩ := F1.out
        go_wp2_with fail
        refine (SubRatioI_any _ _ _ _ _ a0 a1 (HS.out.keep L6.out)).mono ?_
        rintro e w7 ⟨rfl, hb7⟩
        rw [v_yes K1.out K2.out]
        obtain ⟨oe1, oe2, oe3⟩ := o_yes (addX n d (-p) q) (mulX d q)
        rw [oe1, oe2, oe3]
        clear oe1 oe2 oe3
        generalize rC (addX n d (-p) q) (mulX d q) = cd at *
        generalize rA (addX n d (-p) q) (mulX d q) = da at *
        generalize rB (addX n d (-p) q) (mulX d q) = db at *
        clear x0 x1 x2 x3 x4 y0 y1 y2 y3 y4
        have G0 := Lib.hid ((F0.out.keep hb7).alloc (.cells #[.int .i64 da, .int .i64 db] 25))
        have G1 := Lib.hid ((F1.out.keep hb7).alloc (.cells #[.int .i64 da, .int .i64 db] 25))
        have G2 := Lib.hid (Box2.new w7 da db 25)
        have L7 := Lib.hid (bA (bT L6.out hb7) (.cells #[.int .i64 da, .int .i64 db] 25))
        clear F0 F1 L6 hb7
        generalize hW7 : w7.alloc (.cells #[.int .i64 da, .int .i64 db] 25) = W7 at *
        generalize hbd : w7.heap.size = bd at *
        obtain ⟨x0, x1, x2, x3, x4⟩ := G0.out
        obtain ⟨y0, y1, y2, y3, y4⟩ := G1.out
        obtain ⟨z0, z1, z2, z3, z4⟩ := G2.out
        by_cases hcd : cd = 0
        · subst hcd
          have ks := KS.out (by trivial)
          have ks' : (0 < da) ↔ (0 < kv) := by simpa using ks
          clear KS ks
          by_cases hk0 : 0 < kv
          · have hda : 0 < da := ks'.2 hk0
            go_wp2_with fail
            try rw [hW7]
            refine (CompareRatioI_any _ _ _ _ _).mono ?_
            rintro e w8 ⟨rfl, hb8⟩
            rw [KW.out]
            clear KW hW7 hbd
            clear x0 x1 x2 x3 x4 y0 y1 y2 y3 y4 z0 z1 z2 z3 z4
            have H0 := Lib.hid (G0.out.keep hb8)
            have H1 := Lib.hid (G1.out.keep hb8)
            have L8 := Lib.hid (bT L7.out hb8)
            clear G0 G1 G2 L7 hb8
            obtain ⟨x0, x1, x2, x3, x4⟩ := H0.out
            obtain ⟨y0, y1, y2, y3, y4⟩ := H1.out
            by_cases hz : kv = 0
            · exact absurd hz (by omega)
            · have hz' : (kv == 0) = false := by simpa using hz
              by_cases e1 : n = p
              · have e2 : ¬ d = q := fun h => hz (KZ.out.2 ⟨e1, h⟩)
                have e2' : (d == q) = false := by simpa using e2
                clear KZ e2
                subst e1
                go_wp2_with fail
                refine (RatioTextI_any _ _ _ (Pow10.keep L8.out HP.out)).mono ?_
                rintro e w9 ⟨rfl, hb9⟩
                have TT := Lib.hid (show RrIs (txtR n d).data.toList n d true from .inl ⟨rfl, K1.out, (txt_tl K1.out).symm⟩)
                have TS := Lib.hid (txt_small (n := n) (d := d))
                generalize txtR n d = tx at *
                have I0 := Lib.hid (H0.out.keep hb9)
                have L9 := Lib.hid (bT L8.out hb9)
                clear H0 H1 L8 hb9 x0 x1 x2 x3 x4 y0 y1 y2 y3 y4
                go_wp2_with fail
                refine (ReadRatioI_any _ _ TS.out (Pow10.keep L9.out HP.out) (ErrVars.keep L9.out HE.out) (MLen.keep L9.out HM.out)).mono ?_
                rintro e w10 ⟨⟨rn, rd, rk, rfl, hrr⟩, hb10⟩
                obtain ⟨r1, r2, r3⟩ := RrIs.uniq TT.out hrr
                subst r1 r2 r3
                clear TT TS hrr
                have M3 := mk_three K1.out
                try rw [Int.mul_zero] at M3
                have M4 := Lib.hid M3
                clear M3
                obtain ⟨nb1, nb2, nb3, nb4⟩ := okR_bd K1.out
                have J0 := Lib.hid ((I0.out.keep hb10).alloc (.cells #[.int .i64 n, .int .i64 d] 25))
                have J2 := Lib.hid (Box2.new w10 n d 25)
                have L10 := Lib.hid (bA (bT L9.out hb10) (.cells #[.int .i64 n, .int .i64 d] 25))
                clear I0 L9 hb10
                generalize hW10 : w10.alloc (.cells #[.int .i64 n, .int .i64 d] 25) = W10 at *
                generalize hbr : w10.heap.size = br at *
                obtain ⟨x0, x1, x2, x3, x4⟩ := J0.out
                go_wp2_with fail
                try rw [hW10]
                clear hW10 hbr x0 x1 x2 x3 x4
                refine (MakeRatioI_any _ _ _ a0 a1 (HS.out.keep L10.out) (by omega) (by omega) (by omega) (by omega)).mono ?_
                rintro e w11 ⟨rfl, hb11⟩
                obtain ⟨m1, m2, m3⟩ := M4.out
                rw [m1, m2, m3]
                clear m1 m2 m3 M4
                have N0 := Lib.hid ((J0.out.keep hb11).alloc (.cells #[.int .i64 n, .int .i64 d] 25))
                have N1 := Lib.hid ((J2.out.keep hb11).alloc (.cells #[.int .i64 n, .int .i64 d] 25))
                have N2 := Lib.hid (Box2.new w11 n d 25)
                have L11 := Lib.hid (bA (bT L10.out hb11) (.cells #[.int .i64 n, .int .i64 d] 25))
                clear J0 J2 L10 hb11
                generalize hW11 : w11.alloc (.cells #[.int .i64 n, .int .i64 d] 25) = W11 at *
                generalize hbm : w11.heap.size = bm at *
                obtain ⟨x0, x1, x2, x3, x4⟩ := N0.out
                obtain ⟨y0, y1, y2, y3, y4⟩ := N1.out
                obtain ⟨z0, z1, z2, z3, z4⟩ := N2.out
                go_wp2_with fail
                try rw [hW11]
                go_ret
                exact ⟨rfl, by first | exact L11.out | (rw [hW11]; exact L11.out)⟩
              · have e1' : (n == p) = false := by simpa using e1
                clear KZ e1
                go_wp2_with fail
                refine (RatioTextI_any _ _ _ (Pow10.keep L8.out HP.out)).mono ?_
                rintro e w9 ⟨rfl, hb9⟩
                have TT := Lib.hid (show RrIs (txtR n d).data.toList n d true from .inl ⟨rfl, K1.out, (txt_tl K1.out).symm⟩)
                have TS := Lib.hid (txt_small (n := n) (d := d))
                generalize txtR n d = tx at *
                have I0 := Lib.hid (H0.out.keep hb9)
                have L9 := Lib.hid (bT L8.out hb9)
                clear H0 H1 L8 hb9 x0 x1 x2 x3 x4 y0 y1 y2 y3 y4
                go_wp2_with fail
                refine (ReadRatioI_any _ _ TS.out (Pow10.keep L9.out HP.out) (ErrVars.keep L9.out HE.out) (MLen.keep L9.out HM.out)).mono ?_
                rintro e w10 ⟨⟨rn, rd, rk, rfl, hrr⟩, hb10⟩
                obtain ⟨r1, r2, r3⟩ := RrIs.uniq TT.out hrr
                subst r1 r2 r3
                clear TT TS hrr
                have M3 := mk_three K1.out
                try rw [Int.mul_zero] at M3
                have M4 := Lib.hid M3
                clear M3
                obtain ⟨nb1, nb2, nb3, nb4⟩ := okR_bd K1.out
                have J0 := Lib.hid ((I0.out.keep hb10).alloc (.cells #[.int .i64 n, .int .i64 d] 25))
                have J2 := Lib.hid (Box2.new w10 n d 25)
                have L10 := Lib.hid (bA (bT L9.out hb10) (.cells #[.int .i64 n, .int .i64 d] 25))
                clear I0 L9 hb10
                generalize hW10 : w10.alloc (.cells #[.int .i64 n, .int .i64 d] 25) = W10 at *
                generalize hbr : w10.heap.size = br at *
                obtain ⟨x0, x1, x2, x3, x4⟩ := J0.out
                go_wp2_with fail
                try rw [hW10]
                clear hW10 hbr x0 x1 x2 x3 x4
                refine (MakeRatioI_any _ _ _ a0 a1 (HS.out.keep L10.out) (by omega) (by omega) (by omega) (by omega)).mono ?_
                rintro e w11 ⟨rfl, hb11⟩
                obtain ⟨m1, m2, m3⟩ := M4.out
                rw [m1, m2, m3]
                clear m1 m2 m3 M4
                have N0 := Lib.hid ((J0.out.keep hb11).alloc (.cells #[.int .i64 n, .int .i64 d] 25))
                have N1 := Lib.hid ((J2.out.keep hb11).alloc (.cells #[.int .i64 n, .int .i64 d] 25))
                have N2 := Lib.hid (Box2.new w11 n d 25)
                have L11 := Lib.hid (bA (bT L10.out hb11) (.cells #[.int .i64 n, .int .i64 d] 25))
                clear J0 J2 L10 hb11
                generalize hW11 : w11.alloc (.cells #[.int .i64 n, .int .i64 d] 25) = W11 at *
                generalize hbm : w11.heap.size = bm at *
                obtain ⟨x0, x1, x2, x3, x4⟩ := N0.out
                obtain ⟨y0, y1, y2, y3, y4⟩ := N1.out
                obtain ⟨z0, z1, z2, z3, z4⟩ := N2.out
                go_wp2_with fail
                try rw [hW11]
                go_ret
                exact ⟨rfl, by first | exact L11.out | (rw [hW11]; exact L11.out)⟩
          · have hda : ¬ 0 < da := fun h => hk0 (ks'.1 h)
            go_wp2_with fail
            try rw [hW7]
            refine (CompareRatioI_any _ _ _ _ _).mono ?_
            rintro e w8 ⟨rfl, hb8⟩
            rw [KW.out]
            clear KW hW7 hbd
            clear x0 x1 x2 x3 x4 y0 y1 y2 y3 y4 z0 z1 z2 z3 z4
            have H0 := Lib.hid (G0.out.keep hb8)
            have H1 := Lib.hid (G1.out.keep hb8)
            have L8 := Lib.hid (bT L7.out hb8)
            clear G0 G1 G2 L7 hb8
            obtain ⟨x0, x1, x2, x3, x4⟩ := H0.out
            obtain ⟨y0, y1, y2, y3, y4⟩ := H1.out
            by_cases hz : kv = 0
            · obtain ⟨e1, e2⟩ := KZ.out.1 hz
              clear KZ
              subst hz
              subst e1
              subst e2
              go_wp2_with fail
              refine (RatioTextI_any _ _ _ (Pow10.keep L8.out HP.out)).mono ?_
              rintro e w9 ⟨rfl, hb9⟩
              have TT := Lib.hid (show RrIs (txtR n d).data.toList n d true from .inl ⟨rfl, K1.out, (txt_tl K1.out).symm⟩)
              have TS := Lib.hid (txt_small (n := n) (d := d))
              generalize txtR n d = tx at *
              have I0 := Lib.hid (H0.out.keep hb9)
              have L9 := Lib.hid (bT L8.out hb9)
              clear H0 H1 L8 hb9 x0 x1 x2 x3 x4 y0 y1 y2 y3 y4
              go_wp2_with fail
              refine (ReadRatioI_any _ _ TS.out (Pow10.keep L9.out HP.out) (ErrVars.keep L9.out HE.out) (MLen.keep L9.out HM.out)).mono ?_
              rintro e w10 ⟨⟨rn, rd, rk, rfl, hrr⟩, hb10⟩
              obtain ⟨r1, r2, r3⟩ := RrIs.uniq TT.out hrr
              subst r1 r2 r3
              clear TT TS hrr
              have M3 := mk_three K1.out
              try rw [Int.mul_zero] at M3
              have M4 := Lib.hid M3
              clear M3
              obtain ⟨nb1, nb2, nb3, nb4⟩ := okR_bd K1.out
              have J0 := Lib.hid ((I0.out.keep hb10).alloc (.cells #[.int .i64 n, .int .i64 d] 25))
              have J2 := Lib.hid (Box2.new w10 n d 25)
              have L10 := Lib.hid (bA (bT L9.out hb10) (.cells #[.int .i64 n, .int .i64 d] 25))
              clear I0 L9 hb10
              generalize hW10 : w10.alloc (.cells #[.int .i64 n, .int .i64 d] 25) = W10 at *
              generalize hbr : w10.heap.size = br at *
              obtain ⟨x0, x1, x2, x3, x4⟩ := J0.out
              go_wp2_with fail
              try rw [hW10]
              clear hW10 hbr x0 x1 x2 x3 x4
              refine (MakeRatioI_any _ _ _ a0 a1 (HS.out.keep L10.out) (by omega) (by omega) (by omega) (by omega)).mono ?_
              rintro e w11 ⟨rfl, hb11⟩
              obtain ⟨m1, m2, m3⟩ := M4.out
              rw [m1, m2, m3]
              clear m1 m2 m3 M4
              have N0 := Lib.hid ((J0.out.keep hb11).alloc (.cells #[.int .i64 n, .int .i64 d] 25))
              have N1 := Lib.hid ((J2.out.keep hb11).alloc (.cells #[.int .i64 n, .int .i64 d] 25))
              have N2 := Lib.hid (Box2.new w11 n d 25)
              have L11 := Lib.hid (bA (bT L10.out hb11) (.cells #[.int .i64 n, .int .i64 d] 25))
              clear J0 J2 L10 hb11
              generalize hW11 : w11.alloc (.cells #[.int .i64 n, .int .i64 d] 25) = W11 at *
              generalize hbm : w11.heap.size = bm at *
              obtain ⟨x0, x1, x2, x3, x4⟩ := N0.out
              obtain ⟨y0, y1, y2, y3, y4⟩ := N1.out
              obtain ⟨z0, z1, z2, z3, z4⟩ := N2.out
              go_wp2_with fail
              try rw [hW11]
              go_ret
              exact ⟨rfl, by first | exact L11.out | (rw [hW11]; exact L11.out)⟩
            · have hz' : (kv == 0) = false := by simpa using hz
              by_cases e1 : n = p
              · have e2 : ¬ d = q := fun h => hz (KZ.out.2 ⟨e1, h⟩)
                have e2' : (d == q) = false := by simpa using e2
                clear KZ e2
                subst e1
                go_wp2_with fail
                refine (RatioTextI_any _ _ _ (Pow10.keep L8.out HP.out)).mono ?_
                rintro e w9 ⟨rfl, hb9⟩
                have TT := Lib.hid (show RrIs (txtR n d).data.toList n d true from .inl ⟨rfl, K1.out, (txt_tl K1.out).symm⟩)
                have TS := Lib.hid (txt_small (n := n) (d := d))
                generalize txtR n d = tx at *
                have I0 := Lib.hid (H0.out.keep hb9)
                have L9 := Lib.hid (bT L8.out hb9)
                clear H0 H1 L8 hb9 x0 x1 x2 x3 x4 y0 y1 y2 y3 y4
                go_wp2_with fail
                refine (ReadRatioI_any _ _ TS.out (Pow10.keep L9.out HP.out) (ErrVars.keep L9.out HE.out) (MLen.keep L9.out HM.out)).mono ?_
                rintro e w10 ⟨⟨rn, rd, rk, rfl, hrr⟩, hb10⟩
                obtain ⟨r1, r2, r3⟩ := RrIs.uniq TT.out hrr
                subst r1 r2 r3
                clear TT TS hrr
                have M3 := mk_three K1.out
                try rw [Int.mul_zero] at M3
                have M4 := Lib.hid M3
                clear M3
                obtain ⟨nb1, nb2, nb3, nb4⟩ := okR_bd K1.out
                have J0 := Lib.hid ((I0.out.keep hb10).alloc (.cells #[.int .i64 n, .int .i64 d] 25))
                have J2 := Lib.hid (Box2.new w10 n d 25)
                have L10 := Lib.hid (bA (bT L9.out hb10) (.cells #[.int .i64 n, .int .i64 d] 25))
                clear I0 L9 hb10
                generalize hW10 : w10.alloc (.cells #[.int .i64 n, .int .i64 d] 25) = W10 at *
                generalize hbr : w10.heap.size = br at *
                obtain ⟨x0, x1, x2, x3, x4⟩ := J0.out
                go_wp2_with fail
                try rw [hW10]
                clear hW10 hbr x0 x1 x2 x3 x4
                refine (MakeRatioI_any _ _ _ a0 a1 (HS.out.keep L10.out) (by omega) (by omega) (by omega) (by omega)).mono ?_
                rintro e w11 ⟨rfl, hb11⟩
                obtain ⟨m1, m2, m3⟩ := M4.out
                rw [m1, m2, m3]
                clear m1 m2 m3 M4
                have N0 := Lib.hid ((J0.out.keep hb11).alloc (.cells #[.int .i64 n, .int .i64 d] 25))
                have N1 := Lib.hid ((J2.out.keep hb11).alloc (.cells #[.int .i64 n, .int .i64 d] 25))
                have N2 := Lib.hid (Box2.new w11 n d 25)
                have L11 := Lib.hid (bA (bT L10.out hb11) (.cells #[.int .i64 n, .int .i64 d] 25))
                clear J0 J2 L10 hb11
                generalize hW11 : w11.alloc (.cells #[.int .i64 n, .int .i64 d] 25) = W11 at *
                generalize hbm : w11.heap.size = bm at *
                obtain ⟨x0, x1, x2, x3, x4⟩ := N0.out
                obtain ⟨y0, y1, y2, y3, y4⟩ := N1.out
                obtain ⟨z0, z1, z2, z3, z4⟩ := N2.out
                go_wp2_with fail
                try rw [hW11]
                go_ret
                exact ⟨rfl, by first | exact L11.out | (rw [hW11]; exact L11.out)⟩
              · have e1' : (n == p) = false := by simpa using e1
                clear KZ e1
                go_wp2_with fail
                refine (RatioTextI_any _ _ _ (Pow10.keep L8.out HP.out)).mono ?_
                rintro e w9 ⟨rfl, hb9⟩
                have TT := Lib.hid (show RrIs (txtR n d).data.toList n d true from .inl ⟨rfl, K1.out, (txt_tl K1.out).symm⟩)
                have TS := Lib.hid (txt_small (n := n) (d := d))
                generalize txtR n d = tx at *
                have I0 := Lib.hid (H0.out.keep hb9)
                have L9 := Lib.hid (bT L8.out hb9)
                clear H0 H1 L8 hb9 x0 x1 x2 x3 x4 y0 y1 y2 y3 y4
                go_wp2_with fail
                refine (ReadRatioI_any _ _ TS.out (Pow10.keep L9.out HP.out) (ErrVars.keep L9.out HE.out) (MLen.keep L9.out HM.out)).mono ?_
                rintro e w10 ⟨⟨rn, rd, rk, rfl, hrr⟩, hb10⟩
                obtain ⟨r1, r2, r3⟩ := RrIs.uniq TT.out hrr
                subst r1 r2 r3
                clear TT TS hrr
                have M3 := mk_three K1.out
                try rw [Int.mul_zero] at M3
                have M4 := Lib.hid M3
                clear M3
                obtain ⟨nb1, nb2, nb3, nb4⟩ := okR_bd K1.out
                have J0 := Lib.hid ((I0.out.keep hb10).alloc (.cells #[.int .i64 n, .int .i64 d] 25))
                have J2 := Lib.hid (Box2.new w10 n d 25)
                have L10 := Lib.hid (bA (bT L9.out hb10) (.cells #[.int .i64 n, .int .i64 d] 25))
                clear I0 L9 hb10
                generalize hW10 : w10.alloc (.cells #[.int .i64 n, .int .i64 d] 25) = W10 at *
                generalize hbr : w10.heap.size = br at *
                obtain ⟨x0, x1, x2, x3, x4⟩ := J0.out
                go_wp2_with fail
                try rw [hW10]
                clear hW10 hbr x0 x1 x2 x3 x4
                refine (MakeRatioI_any _ _ _ a0 a1 (HS.out.keep L10.out) (by omega) (by omega) (by omega) (by omega)).mono ?_
                rintro e w11 ⟨rfl, hb11⟩
                obtain ⟨m1, m2, m3⟩ := M4.out
                rw [m1, m2, m3]
                clear m1 m2 m3 M4
                have N0 := Lib.hid ((J0.out.keep hb11).alloc (.cells #[.int .i64 n, .int .i64 d] 25))
                have N1 := Lib.hid ((J2.out.keep hb11).alloc (.cells #[.int .i64 n, .int .i64 d] 25))
                have N2 := Lib.hid (Box2.new w11 n d 25)
                have L11 := Lib.hid (bA (bT L10.out hb11) (.cells #[.int .i64 n, .int .i64 d] 25))
                clear J0 J2 L10 hb11
                generalize hW11 : w11.alloc (.cells #[.int .i64 n, .int .i64 d] 25) = W11 at *
                generalize hbm : w11.heap.size = bm at *
                obtain ⟨x0, x1, x2, x3, x4⟩ := N0.out
                obtain ⟨y0, y1, y2, y3, y4⟩ := N1.out
                obtain ⟨z0, z1, z2, z3, z4⟩ := N2.out
                go_wp2_with fail
                try rw [hW11]
                go_ret
                exact ⟨rfl, by first | exact L11.out | (rw [hW11]; exact L11.out)⟩
        · have hcd' : (cd == 0) = false := by simpa using hcd
          clear KS hcd
          go_wp2_with fail
          try rw [hW7]
          refine (CompareRatioI_any _ _ _ _ _).mono ?_
          rintro e w8 ⟨rfl, hb8⟩
          rw [KW.out]
          clear KW hW7 hbd
          clear x0 x1 x2 x3 x4 y0 y1 y2 y3 y4 z0 z1 z2 z3 z4
          have H0 := Lib.hid (G0.out.keep hb8)
          have H1 := Lib.hid (G1.out.keep hb8)
          have L8 := Lib.hid (bT L7.out hb8)
          clear G0 G1 G2 L7 hb8
          obtain ⟨x0, x1, x2, x3, x4⟩ := H0.out
          obtain ⟨y0, y1, y2, y3, y4⟩ := H1.out
          by_cases hz : kv = 0
          · obtain ⟨e1, e2⟩ := KZ.out.1 hz
            clear KZ
            subst hz
            subst e1
            subst e2
            go_wp2_with fail
            refine (RatioTextI_any _ _ _ (Pow10.keep L8.out HP.out)).mono ?_
            rintro e w9 ⟨rfl, hb9⟩
            have TT := Lib.hid (show RrIs (txtR n d).data.toList n d true from .inl ⟨rfl, K1.out, (txt_tl K1.out).symm⟩)
            have TS := Lib.hid (txt_small (n := n) (d := d))
            generalize txtR n d = tx at *
            have I0 := Lib.hid (H0.out.keep hb9)
            have L9 := Lib.hid (bT L8.out hb9)
            clear H0 H1 L8 hb9 x0 x1 x2 x3 x4 y0 y1 y2 y3 y4
            go_wp2_with fail
            refine (ReadRatioI_any _ _ TS.out (Pow10.keep L9.out HP.out) (ErrVars.keep L9.out HE.out) (MLen.keep L9.out HM.out)).mono ?_
            rintro e w10 ⟨⟨rn, rd, rk, rfl, hrr⟩, hb10⟩
            obtain ⟨r1, r2, r3⟩ := RrIs.uniq TT.out hrr
            subst r1 r2 r3
            clear TT TS hrr
            have M3 := mk_three K1.out
            try rw [Int.mul_zero] at M3
            have M4 := Lib.hid M3
            clear M3
            obtain ⟨nb1, nb2, nb3, nb4⟩ := okR_bd K1.out
            have J0 := Lib.hid ((I0.out.keep hb10).alloc (.cells #[.int .i64 n, .int .i64 d] 25))
            have J2 := Lib.hid (Box2.new w10 n d 25)
            have L10 := Lib.hid (bA (bT L9.out hb10) (.cells #[.int .i64 n, .int .i64 d] 25))
            clear I0 L9 hb10
            generalize hW10 : w10.alloc (.cells #[.int .i64 n, .int .i64 d] 25) = W10 at *
            generalize hbr : w10.heap.size = br at *
            obtain ⟨x0, x1, x2, x3, x4⟩ := J0.out
            go_wp2_with fail
            try rw [hW10]
            clear hW10 hbr x0 x1 x2 x3 x4
            refine (MakeRatioI_any _ _ _ a0 a1 (HS.out.keep L10.out) (by omega) (by omega) (by omega) (by omega)).mono ?_
            rintro e w11 ⟨rfl, hb11⟩
            obtain ⟨m1, m2, m3⟩ := M4.out
            rw [m1, m2, m3]
            clear m1 m2 m3 M4
            have N0 := Lib.hid ((J0.out.keep hb11).alloc (.cells #[.int .i64 n, .int .i64 d] 25))
            have N1 := Lib.hid ((J2.out.keep hb11).alloc (.cells #[.int .i64 n, .int .i64 d] 25))
            have N2 := Lib.hid (Box2.new w11 n d 25)
            have L11 := Lib.hid (bA (bT L10.out hb11) (.cells #[.int .i64 n, .int .i64 d] 25))
            clear J0 J2 L10 hb11
            generalize hW11 : w11.alloc (.cells #[.int .i64 n, .int .i64 d] 25) = W11 at *
            generalize hbm : w11.heap.size = bm at *
            obtain ⟨x0, x1, x2, x3, x4⟩ := N0.out
            obtain ⟨y0, y1, y2, y3, y4⟩ := N1.out
            obtain ⟨z0, z1, z2, z3, z4⟩ := N2.out
            go_wp2_with fail
            try rw [hW11]
            go_ret
            exact ⟨rfl, by first | exact L11.out | (rw [hW11]; exact L11.out)⟩
          · have hz' : (kv == 0) = false := by simpa using hz
            by_cases e1 : n = p
            · have e2 : ¬ d = q := fun h => hz (KZ.out.2 ⟨e1, h⟩)
              have e2' : (d == q) = false := by simpa using e2
              clear KZ e2
              subst e1
              go_wp2_with fail
              refine (RatioTextI_any _ _ _ (Pow10.keep L8.out HP.out)).mono ?_
              rintro e w9 ⟨rfl, hb9⟩
              have TT := Lib.hid (show RrIs (txtR n d).data.toList n d true from .inl ⟨rfl, K1.out, (txt_tl K1.out).symm⟩)
              have TS := Lib.hid (txt_small (n := n) (d := d))
              generalize txtR n d = tx at *
              have I0 := Lib.hid (H0.out.keep hb9)
              have L9 := Lib.hid (bT L8.out hb9)
              clear H0 H1 L8 hb9 x0 x1 x2 x3 x4 y0 y1 y2 y3 y4
              go_wp2_with fail
              refine (ReadRatioI_any _ _ TS.out (Pow10.keep L9.out HP.out) (ErrVars.keep L9.out HE.out) (MLen.keep L9.out HM.out)).mono ?_
              rintro e w10 ⟨⟨rn, rd, rk, rfl, hrr⟩, hb10⟩
              obtain ⟨r1, r2, r3⟩ := RrIs.uniq TT.out hrr
              subst r1 r2 r3
              clear TT TS hrr
              have M3 := mk_three K1.out
              try rw [Int.mul_zero] at M3
              have M4 := Lib.hid M3
              clear M3
              obtain ⟨nb1, nb2, nb3, nb4⟩ := okR_bd K1.out
              have J0 := Lib.hid ((I0.out.keep hb10).alloc (.cells #[.int .i64 n, .int .i64 d] 25))
              have J2 := Lib.hid (Box2.new w10 n d 25)
              have L10 := Lib.hid (bA (bT L9.out hb10) (.cells #[.int .i64 n, .int .i64 d] 25))
              clear I0 L9 hb10
              generalize hW10 : w10.alloc (.cells #[.int .i64 n, .int .i64 d] 25) = W10 at *
              generalize hbr : w10.heap.size = br at *
              obtain ⟨x0, x1, x2, x3, x4⟩ := J0.out
              go_wp2_with fail
              try rw [hW10]
              clear hW10 hbr x0 x1 x2 x3 x4
              refine (MakeRatioI_any _ _ _ a0 a1 (HS.out.keep L10.out) (by omega) (by omega) (by omega) (by omega)).mono ?_
              rintro e w11 ⟨rfl, hb11⟩
              obtain ⟨m1, m2, m3⟩ := M4.out
              rw [m1, m2, m3]
              clear m1 m2 m3 M4
              have N0 := Lib.hid ((J0.out.keep hb11).alloc (.cells #[.int .i64 n, .int .i64 d] 25))
              have N1 := Lib.hid ((J2.out.keep hb11).alloc (.cells #[.int .i64 n, .int .i64 d] 25))
              have N2 := Lib.hid (Box2.new w11 n d 25)
              have L11 := Lib.hid (bA (bT L10.out hb11) (.cells #[.int .i64 n, .int .i64 d] 25))
              clear J0 J2 L10 hb11
              generalize hW11 : w11.alloc (.cells #[.int .i64 n, .int .i64 d] 25) = W11 at *
              generalize hbm : w11.heap.size = bm at *
              obtain ⟨x0, x1, x2, x3, x4⟩ := N0.out
              obtain ⟨y0, y1, y2, y3, y4⟩ := N1.out
              obtain ⟨z0, z1, z2, z3, z4⟩ := N2.out
              go_wp2_with fail
              try rw [hW11]
              go_ret
              exact ⟨rfl, by first | exact L11.out | (rw [hW11]; exact L11.out)⟩
            · have e1' : (n == p) = false := by simpa using e1
              clear KZ e1
              go_wp2_with fail
              refine (RatioTextI_any _ _ _ (Pow10.keep L8.out HP.out)).mono ?_
              rintro e w9 ⟨rfl, hb9⟩
              have TT := Lib.hid (show RrIs (txtR n d).data.toList n d true from .inl ⟨rfl, K1.out, (txt_tl K1.out).symm⟩)
              have TS := Lib.hid (txt_small (n := n) (d := d))
              generalize txtR n d = tx at *
              have I0 := Lib.hid (H0.out.keep hb9)
              have L9 := Lib.hid (bT L8.out hb9)
              clear H0 H1 L8 hb9 x0 x1 x2 x3 x4 y0 y1 y2 y3 y4
              go_wp2_with fail
              refine (ReadRatioI_any _ _ TS.out (Pow10.keep L9.out HP.out) (ErrVars.keep L9.out HE.out) (MLen.keep L9.out HM.out)).mono ?_
              rintro e w10 ⟨⟨rn, rd, rk, rfl, hrr⟩, hb10⟩
              obtain ⟨r1, r2, r3⟩ := RrIs.uniq TT.out hrr
              subst r1 r2 r3
              clear TT TS hrr
              have M3 := mk_three K1.out
              try rw [Int.mul_zero] at M3
              have M4 := Lib.hid M3
              clear M3
              obtain ⟨nb1, nb2, nb3, nb4⟩ := okR_bd K1.out
              have J0 := Lib.hid ((I0.out.keep hb10).alloc (.cells #[.int .i64 n, .int .i64 d] 25))
              have J2 := Lib.hid (Box2.new w10 n d 25)
              have L10 := Lib.hid (bA (bT L9.out hb10) (.cells #[.int .i64 n, .int .i64 d] 25))
              clear I0 L9 hb10
              generalize hW10 : w10.alloc (.cells #[.int .i64 n, .int .i64 d] 25) = W10 at *
              generalize hbr : w10.heap.size = br at *
              obtain ⟨x0, x1, x2, x3, x4⟩ := J0.out
              go_wp2_with fail
              try rw [hW10]
              clear hW10 hbr x0 x1 x2 x3 x4
              refine (MakeRatioI_any _ _ _ a0 a1 (HS.out.keep L10.out) (by omega) (by omega) (by omega) (by omega)).mono ?_
              rintro e w11 ⟨rfl, hb11⟩
              obtain ⟨m1, m2, m3⟩ := M4.out
              rw [m1, m2, m3]
              clear m1 m2 m3 M4
              have N0 := Lib.hid ((J0.out.keep hb11).alloc (.cells #[.int .i64 n, .int .i64 d] 25))
              have N1 := Lib.hid ((J2.out.keep hb11).alloc (.cells #[.int .i64 n, .int .i64 d] 25))
              have N2 := Lib.hid (Box2.new w11 n d 25)
              have L11 := Lib.hid (bA (bT L10.out hb11) (.cells #[.int .i64 n, .int .i64 d] 25))
              clear J0 J2 L10 hb11
              generalize hW11 : w11.alloc (.cells #[.int .i64 n, .int .i64 d] 25) = W11 at *
              generalize hbm : w11.heap.size = bm at *
              obtain ⟨x0, x1, x2, x3, x4⟩ := N0.out
              obtain ⟨y0, y1, y2, y3, y4⟩ := N1.out
              obtain ⟨z0, z1, z2, z3, z4⟩ := N2.out
              go_wp2_with fail
              try rw [hW11]
              go_ret
              exact ⟨rfl, by first | exact L11.out | (rw [hW11]; exact L11.out)⟩
    · have hcx' : (cx == 0) = false := by simpa using hcx
      clear hcx HADD
      go_wp2_with fail
      try rw [hW2]
      try simp only [hbx]
      refine (MulRatioI_any _ _ _ _ _ a0 a1 (HS.out.keep L2.out)).mono ?_
      rintro e w4 ⟨rfl, hb4⟩
      rw [v_yes K1.out K2.out]
      have HMUL := Lib.hid (fun hp => mul_back K1.out K2.out hp)
      obtain ⟨oe1, oe2, oe3⟩ := o_yes (mulX n p) (mulX d q)
      rw [oe1, oe2, oe3]
      clear oe1 oe2 oe3
      generalize rC (mulX n p) (mulX d q) = cm at *
      generalize rA (mulX n p) (mulX d q) = ma at *
      generalize rB (mulX n p) (mulX d q) = mb at *
      clear x0 x1 x2 x3 x4 y0 y1 y2 y3 y4 z0 z1 z2 z3 z4
      clear hW2
      have D0 := Lib.hid ((B0.out.keep hb4).other (b' := bx) (o := 0) (v := .int .i64 ma) (by omega) |>.other (b' := bx) (o := 1) (v := .int .i64 mb) (by omega))
      have D1 := Lib.hid ((B1.out.keep hb4).other (b' := bx) (o := 0) (v := .int .i64 ma) (by omega) |>.other (b' := bx) (o := 1) (v := .int .i64 mb) (by omega))
      have D2 := Lib.hid ((B2.out.keep hb4).set ma mb)
      have L4 := Lib.hid (((bT L2.out hb4).setCell (p := ⟨bx, 0, none⟩) hx2 (.int .i64 ma)).setCell (p := ⟨bx, 1, none⟩) hx2 (.int .i64 mb))
      obtain ⟨z0, z1, z2, z3, z4⟩ := B2.out.keep hb4
      obtain ⟨x0, x1, x2, x3, x4⟩ := D0.out
      obtain ⟨y0, y1, y2, y3, y4⟩ := D1.out
      obtain ⟨u0, u1, u2, u3, u4⟩ := D2.out
      by_cases hcm : cm = 0
      · subst hcm
        by_cases hp : p = 0
        · subst hp
          clear HMUL
          go_wp2_with fail
          generalize ((w4.setCell ⟨bx, 0, none⟩ (.int .i64 ma)).setCell ⟨bx, 1, none⟩ (.int .i64 mb)) = W4 at *
          refine (CompareRatioI_any _ _ _ _ _).mono ?_
          rintro e w6 ⟨rfl, hb6⟩
          have hkb : -1 ≤ cmpR n d 0 q ∧ cmpR n d 0 q ≤ 1 := by unfold cmpR cmpV; split <;> (try split) <;> (try split) <;> omega
          have KZ := Lib.hid (cmp_zero K1.out K2.out)
          have KW := Lib.hid (cmp_swap (n := n) (d := d) (p := 0) (q := q))
          have KS := Lib.hid (sub_sign K1.out K2.out)
          generalize cmpR n d 0 q = kv at *
          clear x0 x1 x2 x3 x4 y0 y1 y2 y3 y4 z0 z1 z2 z3 z4 u0 u1 u2 u3 u4
          have F0 := Lib.hid (D0.out.keep hb6)
          have F1 := Lib.hid (D1.out.keep hb6)
          have L6 := Lib.hid (bT L4.out hb6)
          clear hb6 D0 D1
          obtain ⟨x0, x1, x2, x3, x4⟩ := F0.out
          obtain ⟨y0, y1, y2, y3, y4⟩ := F1.out
          go_wp2_with fail
          refine (SubRatioI_any _ _ _ _ _ a0 a1 (HS.out.keep L6.out)).mono ?_
          rintro e w7 ⟨rfl, hb7⟩
          rw [v_yes K1.out K2.out]
          obtain ⟨oe1, oe2, oe3⟩ := o_yes (addX n d (-0) q) (mulX d q)
          rw [oe1, oe2, oe3]
          clear oe1 oe2 oe3
          generalize rC (addX n d (-0) q) (mulX d q) = cd at *
          generalize rA (addX n d (-0) q) (mulX d q) = da at *
          generalize rB (addX n d (-0) q) (mulX d q) = db at *
          clear x0 x1 x2 x3 x4 y0 y1 y2 y3 y4
          have G0 := Lib.hid ((F0.out.keep hb7).alloc (.cells #[.int .i64 da, .int .i64 db] 25))
          have G1 := Lib.hid ((F1.out.keep hb7).alloc (.cells #[.int .i64 da, .int .i64 db] 25))
          have G2 := Lib.hid (Box2.new w7 da db 25)
          have L7 := Lib.hid (bA (bT L6.out hb7) (.cells #[.int .i64 da, .int .i64 db] 25))
          clear F0 F1 L6 hb7
          generalize hW7 : w7.alloc (.cells #[.int .i64 da, .int .i64 db] 25) = W7 at *
          generalize hbd : w7.heap.size = bd at *
          obtain ⟨x0, x1, x2, x3, x4⟩ := G0.out
          obtain ⟨y0, y1, y2, y3, y4⟩ := G1.out
          obtain ⟨z0, z1, z2, z3, z4⟩ := G2.out
          by_cases hcd : cd = 0
          · subst hcd
            have ks := KS.out (by trivial)
            have ks' : (0 < da) ↔ (0 < kv) := by simpa using ks
            clear KS ks
            by_cases hk0 : 0 < kv
            · have hda : 0 < da := ks'.2 hk0
              go_wp2_with fail
              try rw [hW7]
              refine (CompareRatioI_any _ _ _ _ _).mono ?_
              rintro e w8 ⟨rfl, hb8⟩
              rw [KW.out]
              clear KW hW7 hbd
              clear x0 x1 x2 x3 x4 y0 y1 y2 y3 y4 z0 z1 z2 z3 z4
              have H0 := Lib.hid (G0.out.keep hb8)
              have H1 := Lib.hid (G1.out.keep hb8)
              have L8 := Lib.hid (bT L7.out hb8)
              clear G0 G1 G2 L7 hb8
              obtain ⟨x0, x1, x2, x3, x4⟩ := H0.out
              obtain ⟨y0, y1, y2, y3, y4⟩ := H1.out
              by_cases hz : kv = 0
              · exact absurd hz (by omega)
              · have hz' : (kv == 0) = false := by simpa using hz
                by_cases e1 : n = 0
                · have e2 : ¬ d = q := fun h => hz (KZ.out.2 ⟨e1, h⟩)
                  have e2' : (d == q) = false := by simpa using e2
                  clear KZ e2
                  subst e1
                  go_wp2_with fail
                  refine (RatioTextI_any _ _ _ (Pow10.keep L8.out HP.out)).mono ?_
                  rintro e w9 ⟨rfl, hb9⟩
                  have TT := Lib.hid (show RrIs (txtR 0 d).data.toList 0 d true from .inl ⟨rfl, K1.out, (txt_tl K1.out).symm⟩)
                  have TS := Lib.hid (txt_small (n := 0) (d := d))
                  generalize txtR 0 d = tx at *
                  have I0 := Lib.hid (H0.out.keep hb9)
                  have L9 := Lib.hid (bT L8.out hb9)
                  clear H0 H1 L8 hb9 x0 x1 x2 x3 x4 y0 y1 y2 y3 y4
                  go_wp2_with fail
                  refine (ReadRatioI_any _ _ TS.out (Pow10.keep L9.out HP.out) (ErrVars.keep L9.out HE.out) (MLen.keep L9.out HM.out)).mono ?_
                  rintro e w10 ⟨⟨rn, rd, rk, rfl, hrr⟩, hb10⟩
                  obtain ⟨r1, r2, r3⟩ := RrIs.uniq TT.out hrr
                  subst r1 r2 r3
                  clear TT TS hrr
                  have M3 := mk_three K1.out
                  try rw [Int.mul_zero] at M3
                  have M4 := Lib.hid M3
                  clear M3
                  obtain ⟨nb1, nb2, nb3, nb4⟩ := okR_bd K1.out
                  have J0 := Lib.hid ((I0.out.keep hb10).alloc (.cells #[.int .i64 0, .int .i64 d] 25))
                  have J2 := Lib.hid (Box2.new w10 0 d 25)
                  have L10 := Lib.hid (bA (bT L9.out hb10) (.cells #[.int .i64 0, .int .i64 d] 25))
                  clear I0 L9 hb10
                  generalize hW10 : w10.alloc (.cells #[.int .i64 0, .int .i64 d] 25) = W10 at *
                  generalize hbr : w10.heap.size = br at *
                  obtain ⟨x0, x1, x2, x3, x4⟩ := J0.out
                  go_wp2_with fail
                  try rw [hW10]
                  clear hW10 hbr x0 x1 x2 x3 x4
                  refine (MakeRatioI_any _ _ _ a0 a1 (HS.out.keep L10.out) (by omega) (by omega) (by omega) (by omega)).mono ?_
                  rintro e w11 ⟨rfl, hb11⟩
                  obtain ⟨m1, m2, m3⟩ := M4.out
                  rw [m1, m2, m3]
                  clear m1 m2 m3 M4
                  have N0 := Lib.hid ((J0.out.keep hb11).alloc (.cells #[.int .i64 0, .int .i64 d] 25))
                  have N1 := Lib.hid ((J2.out.keep hb11).alloc (.cells #[.int .i64 0, .int .i64 d] 25))
                  have N2 := Lib.hid (Box2.new w11 0 d 25)
                  have L11 := Lib.hid (bA (bT L10.out hb11) (.cells #[.int .i64 0, .int .i64 d] 25))
                  clear J0 J2 L10 hb11
                  generalize hW11 : w11.alloc (.cells #[.int .i64 0, .int .i64 d] 25) = W11 at *
                  generalize hbm : w11.heap.size = bm at *
                  obtain ⟨x0, x1, x2, x3, x4⟩ := N0.out
                  obtain ⟨y0, y1, y2, y3, y4⟩ := N1.out
                  obtain ⟨z0, z1, z2, z3, z4⟩ := N2.out
                  go_wp2_with fail
                  try rw [hW11]
                  go_ret
                  exact ⟨rfl, by first | exact L11.out | (rw [hW11]; exact L11.out)⟩
                · have e1' : (n == 0) = false := by simpa using e1
                  clear KZ e1
                  go_wp2_with fail
                  refine (RatioTextI_any _ _ _ (Pow10.keep L8.out HP.out)).mono ?_
                  rintro e w9 ⟨rfl, hb9⟩
                  have TT := Lib.hid (show RrIs (txtR n d).data.toList n d true from .inl ⟨rfl, K1.out, (txt_tl K1.out).symm⟩)
                  have TS := Lib.hid (txt_small (n := n) (d := d))
                  generalize txtR n d = tx at *
                  have I0 := Lib.hid (H0.out.keep hb9)
                  have L9 := Lib.hid (bT L8.out hb9)
                  clear H0 H1 L8 hb9 x0 x1 x2 x3 x4 y0 y1 y2 y3 y4
                  go_wp2_with fail
                  refine (ReadRatioI_any _ _ TS.out (Pow10.keep L9.out HP.out) (ErrVars.keep L9.out HE.out) (MLen.keep L9.out HM.out)).mono ?_
                  rintro e w10 ⟨⟨rn, rd, rk, rfl, hrr⟩, hb10⟩
                  obtain ⟨r1, r2, r3⟩ := RrIs.uniq TT.out hrr
                  subst r1 r2 r3
                  clear TT TS hrr
                  have M3 := mk_three K1.out
                  try rw [Int.mul_zero] at M3
                  have M4 := Lib.hid M3
                  clear M3
                  obtain ⟨nb1, nb2, nb3, nb4⟩ := okR_bd K1.out
                  have J0 := Lib.hid ((I0.out.keep hb10).alloc (.cells #[.int .i64 n, .int .i64 d] 25))
                  have J2 := Lib.hid (Box2.new w10 n d 25)
                  have L10 := Lib.hid (bA (bT L9.out hb10) (.cells #[.int .i64 n, .int .i64 d] 25))
                  clear I0 L9 hb10
                  generalize hW10 : w10.alloc (.cells #[.int .i64 n, .int .i64 d] 25) = W10 at *
                  generalize hbr : w10.heap.size = br at *
                  obtain ⟨x0, x1, x2, x3, x4⟩ := J0.out
                  go_wp2_with fail
                  try rw [hW10]
                  clear hW10 hbr x0 x1 x2 x3 x4
                  refine (MakeRatioI_any _ _ _ a0 a1 (HS.out.keep L10.out) (by omega) (by omega) (by omega) (by omega)).mono ?_
                  rintro e w11 ⟨rfl, hb11⟩
                  obtain ⟨m1, m2, m3⟩ := M4.out
                  rw [m1, m2, m3]
                  clear m1 m2 m3 M4
                  have N0 := Lib.hid ((J0.out.keep hb11).alloc (.cells #[.int .i64 n, .int .i64 d] 25))
                  have N1 := Lib.hid ((J2.out.keep hb11).alloc (.cells #[.int .i64 n, .int .i64 d] 25))
                  have N2 := Lib.hid (Box2.new w11 n d 25)
                  have L11 := Lib.hid (bA (bT L10.out hb11) (.cells #[.int .i64 n, .int .i64 d] 25))
                  clear J0 J2 L10 hb11
                  generalize hW11 : w11.alloc (.cells #[.int .i64 n, .int .i64 d] 25) = W11 at *
                  generalize hbm : w11.heap.size = bm at *
                  obtain ⟨x0, x1, x2, x3, x4⟩ := N0.out
                  obtain ⟨y0, y1, y2, y3, y4⟩ := N1.out
                  obtain ⟨z0, z1, z2, z3, z4⟩ := N2.out
                  go_wp2_with fail
                  try rw [hW11]
                  go_ret
                  exact ⟨rfl, by first | exact L11.out | (rw [hW11]; exact L11.out)⟩
            · have hda : ¬ 0 < da := fun h => hk0 (ks'.1 h)
              go_wp2_with fail
              try rw [hW7]
              refine (CompareRatioI_any _ _ _ _ _).mono ?_
              rintro e w8 ⟨rfl, hb8⟩
              rw [KW.out]
              clear KW hW7 hbd
              clear x0 x1 x2 x3 x4 y0 y1 y2 y3 y4 z0 z1 z2 z3 z4
              have H0 := Lib.hid (G0.out.keep hb8)
              have H1 := Lib.hid (G1.out.keep hb8)
              have L8 := Lib.hid (bT L7.out hb8)
              clear G0 G1 G2 L7 hb8
              obtain ⟨x0, x1, x2, x3, x4⟩ := H0.out
              obtain ⟨y0, y1, y2, y3, y4⟩ := H1.out
              by_cases hz : kv = 0
              · obtain ⟨e1, e2⟩ := KZ.out.1 hz
                clear KZ
                subst hz
                subst e1
                subst e2
                go_wp2_with fail
                refine (RatioTextI_any _ _ _ (Pow10.keep L8.out HP.out)).mono ?_
                rintro e w9 ⟨rfl, hb9⟩
                have TT := Lib.hid (show RrIs (txtR 0 d).data.toList 0 d true from .inl ⟨rfl, K1.out, (txt_tl K1.out).symm⟩)
                have TS := Lib.hid (txt_small (n := 0) (d := d))
                generalize txtR 0 d = tx at *
                have I0 := Lib.hid (H0.out.keep hb9)
                have L9 := Lib.hid (bT L8.out hb9)
                clear H0 H1 L8 hb9 x0 x1 x2 x3 x4 y0 y1 y2 y3 y4
                go_wp2_with fail
                refine (ReadRatioI_any _ _ TS.out (Pow10.keep L9.out HP.out) (ErrVars.keep L9.out HE.out) (MLen.keep L9.out HM.out)).mono ?_
                rintro e w10 ⟨⟨rn, rd, rk, rfl, hrr⟩, hb10⟩
                obtain ⟨r1, r2, r3⟩ := RrIs.uniq TT.out hrr
                subst r1 r2 r3
                clear TT TS hrr
                have M3 := mk_three K1.out
                try rw [Int.mul_zero] at M3
                have M4 := Lib.hid M3
                clear M3
                obtain ⟨nb1, nb2, nb3, nb4⟩ := okR_bd K1.out
                have J0 := Lib.hid ((I0.out.keep hb10).alloc (.cells #[.int .i64 0, .int .i64 d] 25))
                have J2 := Lib.hid (Box2.new w10 0 d 25)
                have L10 := Lib.hid (bA (bT L9.out hb10) (.cells #[.int .i64 0, .int .i64 d] 25))
                clear I0 L9 hb10
                generalize hW10 : w10.alloc (.cells #[.int .i64 0, .int .i64 d] 25) = W10 at *
                generalize hbr : w10.heap.size = br at *
                obtain ⟨x0, x1, x2, x3, x4⟩ := J0.out
                go_wp2_with fail
                try rw [hW10]
                clear hW10 hbr x0 x1 x2 x3 x4
                refine (MakeRatioI_any _ _ _ a0 a1 (HS.out.keep L10.out) (by omega) (by omega) (by omega) (by omega)).mono ?_
                rintro e w11 ⟨rfl, hb11⟩
                obtain ⟨m1, m2, m3⟩ := M4.out
                rw [m1, m2, m3]
                clear m1 m2 m3 M4
                have N0 := Lib.hid ((J0.out.keep hb11).alloc (.cells #[.int .i64 0, .int .i64 d] 25))
                have N1 := Lib.hid ((J2.out.keep hb11).alloc (.cells #[.int .i64 0, .int .i64 d] 25))
                have N2 := Lib.hid (Box2.new w11 0 d 25)
                have L11 := Lib.hid (bA (bT L10.out hb11) (.cells #[.int .i64 0, .int .i64 d] 25))
                clear J0 J2 L10 hb11
                generalize hW11 : w11.alloc (.cells #[.int .i64 0, .int .i64 d] 25) = W11 at *
                generalize hbm : w11.heap.size = bm at *
                obtain ⟨x0, x1, x2, x3, x4⟩ := N0.out
                obtain ⟨y0, y1, y2, y3, y4⟩ := N1.out
                obtain ⟨z0, z1, z2, z3, z4⟩ := N2.out
                go_wp2_with fail
                try rw [hW11]
                go_ret
                exact ⟨rfl, by first | exact L11.out | (rw [hW11]; exact L11.out)⟩
              · have hz' : (kv == 0) = false := by simpa using hz
                by_cases e1 : n = 0
                · have e2 : ¬ d = q := fun h => hz (KZ.out.2 ⟨e1, h⟩)
                  have e2' : (d == q) = false := by simpa using e2
                  clear KZ e2
                  subst e1
                  go_wp2_with fail
                  refine (RatioTextI_any _ _ _ (Pow10.keep L8.out HP.out)).mono ?_
                  rintro e w9 ⟨rfl, hb9⟩
                  have TT := Lib.hid (show RrIs (txtR 0 d).data.toList 0 d true from .inl ⟨rfl, K1.out, (txt_tl K1.out).symm⟩)
                  have TS := Lib.hid (txt_small (n := 0) (d := d))
                  generalize txtR 0 d = tx at *
                  have I0 := Lib.hid (H0.out.keep hb9)
                  have L9 := Lib.hid (bT L8.out hb9)
                  clear H0 H1 L8 hb9 x0 x1 x2 x3 x4 y0 y1 y2 y3 y4
                  go_wp2_with fail
                  refine (ReadRatioI_any _ _ TS.out (Pow10.keep L9.out HP.out) (ErrVars.keep L9.out HE.out) (MLen.keep L9.out HM.out)).mono ?_
                  rintro e w10 ⟨⟨rn, rd, rk, rfl, hrr⟩, hb10⟩
                  obtain ⟨r1, r2, r3⟩ := RrIs.uniq TT.out hrr
                  subst r1 r2 r3
                  clear TT TS hrr
                  have M3 := mk_three K1.out
                  try rw [Int.mul_zero] at M3
                  have M4 := Lib.hid M3
                  clear M3
                  obtain ⟨nb1, nb2, nb3, nb4⟩ := okR_bd K1.out
                  have J0 := Lib.hid ((I0.out.keep hb10).alloc (.cells #[.int .i64 0, .int .i64 d] 25))
                  have J2 := Lib.hid (Box2.new w10 0 d 25)
                  have L10 := Lib.hid (bA (bT L9.out hb10) (.cells #[.int .i64 0, .int .i64 d] 25))
                  clear I0 L9 hb10
                  generalize hW10 : w10.alloc (.cells #[.int .i64 0, .int .i64 d] 25) = W10 at *
                  generalize hbr : w10.heap.size = br at *
                  obtain ⟨x0, x1, x2, x3, x4⟩ := J0.out
                  go_wp2_with fail
                  try rw [hW10]
                  clear hW10 hbr x0 x1 x2 x3 x4
                  refine (MakeRatioI_any _ _ _ a0 a1 (HS.out.keep L10.out) (by omega) (by omega) (by omega) (by omega)).mono ?_
                  rintro e w11 ⟨rfl, hb11⟩
                  obtain ⟨m1, m2, m3⟩ := M4.out
                  rw [m1, m2, m3]
                  clear m1 m2 m3 M4
                  have N0 := Lib.hid ((J0.out.keep hb11).alloc (.cells #[.int .i64 0, .int .i64 d] 25))
                  have N1 := Lib.hid ((J2.out.keep hb11).alloc (.cells #[.int .i64 0, .int .i64 d] 25))
                  have N2 := Lib.hid (Box2.new w11 0 d 25)
                  have L11 := Lib.hid (bA (bT L10.out hb11) (.cells #[.int .i64 0, .int .i64 d] 25))
                  clear J0 J2 L10 hb11
                  generalize hW11 : w11.alloc (.cells #[.int .i64 0, .int .i64 d] 25) = W11 at *
                  generalize hbm : w11.heap.size = bm at *
                  obtain ⟨x0, x1, x2, x3, x4⟩ := N0.out
                  obtain ⟨y0, y1, y2, y3, y4⟩ := N1.out
                  obtain ⟨z0, z1, z2, z3, z4⟩ := N2.out
                  go_wp2_with fail
                  try rw [hW11]
                  go_ret
                  exact ⟨rfl, by first | exact L11.out | (rw [hW11]; exact L11.out)⟩
                · have e1' : (n == 0) = false := by simpa using e1
                  clear KZ e1
                  go_wp2_with fail
                  refine (RatioTextI_any _ _ _ (Pow10.keep L8.out HP.out)).mono ?_
                  rintro e w9 ⟨rfl, hb9⟩
                  have TT := Lib.hid (show RrIs (txtR n d).data.toList n d true from .inl ⟨rfl, K1.out, (txt_tl K1.out).symm⟩)
                  have TS := Lib.hid (txt_small (n := n) (d := d))
                  generalize txtR n d = tx at *
                  have I0 := Lib.hid (H0.out.keep hb9)
                  have L9 := Lib.hid (bT L8.out hb9)
                  clear H0 H1 L8 hb9 x0 x1 x2 x3 x4 y0 y1 y2 y3 y4
                  go_wp2_with fail
                  refine (ReadRatioI_any _ _ TS.out (Pow10.keep L9.out HP.out) (ErrVars.keep L9.out HE.out) (MLen.keep L9.out HM.out)).mono ?_
                  rintro e w10 ⟨⟨rn, rd, rk, rfl, hrr⟩, hb10⟩
                  obtain ⟨r1, r2, r3⟩ := RrIs.uniq TT.out hrr
                  subst r1 r2 r3
                  clear TT TS hrr
                  have M3 := mk_three K1.out
                  try rw [Int.mul_zero] at M3
                  have M4 := Lib.hid M3
                  clear M3
                  obtain ⟨nb1, nb2, nb3, nb4⟩ := okR_bd K1.out
                  have J0 := Lib.hid ((I0.out.keep hb10).alloc (.cells #[.int .i64 n, .int .i64 d] 25))
                  have J2 := Lib.hid (Box2.new w10 n d 25)
                  have L10 := Lib.hid (bA (bT L9.out hb10) (.cells #[.int .i64 n, .int .i64 d] 25))
                  clear I0 L9 hb10
                  generalize hW10 : w10.alloc (.cells #[.int .i64 n, .int .i64 d] 25) = W10 at *
                  generalize hbr : w10.heap.size = br at *
                  obtain ⟨x0, x1, x2, x3, x4⟩ := J0.out
                  go_wp2_with fail
                  try rw [hW10]
                  clear hW10 hbr x0 x1 x2 x3 x4
                  refine (MakeRatioI_any _ _ _ a0 a1 (HS.out.keep L10.out) (by omega) (by omega) (by omega) (by omega)).mono ?_
                  rintro e w11 ⟨rfl, hb11⟩
                  obtain ⟨m1, m2, m3⟩ := M4.out
                  rw [m1, m2, m3]
                  clear m1 m2 m3 M4
                  have N0 := Lib.hid ((J0.out.keep hb11).alloc (.cells #[.int .i64 n, .int .i64 d] 25))
                  have N1 := Lib.hid ((J2.out.keep hb11).alloc (.cells #[.int .i64 n, .int .i64 d] 25))
                  have N2 := Lib.hid (Box2.new w11 n d 25)
                  have L11 := Lib.hid (bA (bT L10.out hb11) (.cells #[.int .i64 n, .int .i64 d] 25))
                  clear J0 J2 L10 hb11
                  generalize hW11 : w11.alloc (.cells #[.int .i64 n, .int .i64 d] 25) = W11 at *
                  generalize hbm : w11.heap.size = bm at *
                  obtain ⟨x0, x1, x2, x3, x4⟩ := N0.out
                  obtain ⟨y0, y1, y2, y3, y4⟩ := N1.out
                  obtain ⟨z0, z1, z2, z3, z4⟩ := N2.out
                  go_wp2_with fail
                  try rw [hW11]
                  go_ret
                  exact ⟨rfl, by first | exact L11.out | (rw [hW11]; exact L11.out)⟩
          · have hcd' : (cd == 0) = false := by simpa using hcd
            clear KS hcd
            go_wp2_with fail
            try rw [hW7]
            refine (CompareRatioI_any _ _ _ _ _).mono ?_
            rintro e w8 ⟨rfl, hb8⟩
            rw [KW.out]
            clear KW hW7 hbd
            clear x0 x1 x2 x3 x4 y0 y1 y2 y3 y4 z0 z1 z2 z3 z4
            have H0 := Lib.hid (G0.out.keep hb8)
            have H1 := Lib.hid (G1.out.keep hb8)
            have L8 := Lib.hid (bT L7.out hb8)
            clear G0 G1 G2 L7 hb8
            obtain ⟨x0, x1, x2, x3, x4⟩ := H0.out
            obtain ⟨y0, y1, y2, y3, y4⟩ := H1.out
            by_cases hz : kv = 0
            · obtain ⟨e1, e2⟩ := KZ.out.1 hz
              clear KZ
              subst hz
              subst e1
              subst e2
              go_wp2_with fail
              refine (RatioTextI_any _ _ _ (Pow10.keep L8.out HP.out)).mono ?_
              rintro e w9 ⟨rfl, hb9⟩
              have TT := Lib.hid (show RrIs (txtR 0 d).data.toList 0 d true from .inl ⟨rfl, K1.out, (txt_tl K1.out).symm⟩)
              have TS := Lib.hid (txt_small (n := 0) (d := d))
              generalize txtR 0 d = tx at *
              have I0 := Lib.hid (H0.out.keep hb9)
              have L9 := Lib.hid (bT L8.out hb9)
              clear H0 H1 L8 hb9 x0 x1 x2 x3 x4 y0 y1 y2 y3 y4
              go_wp2_with fail
              refine (ReadRatioI_any _ _ TS.out (Pow10.keep L9.out HP.out) (ErrVars.keep L9.out HE.out) (MLen.keep L9.out HM.out)).mono ?_
              rintro e w10 ⟨⟨rn, rd, rk, rfl, hrr⟩, hb10⟩
              obtain ⟨r1, r2, r3⟩ := RrIs.uniq TT.out hrr
              subst r1 r2 r3
              clear TT TS hrr
              have M3 := mk_three K1.out
              try rw [Int.mul_zero] at M3
              have M4 := Lib.hid M3
              clear M3
              obtain ⟨nb1, nb2, nb3, nb4⟩ := okR_bd K1.out
              have J0 := Lib.hid ((I0.out.keep hb10).alloc (.cells #[.int .i64 0, .int .i64 d] 25))
              have J2 := Lib.hid (Box2.new w10 0 d 25)
              have L10 := Lib.hid (bA (bT L9.out hb10) (.cells #[.int .i64 0, .int .i64 d] 25))
              clear I0 L9 hb10
              generalize hW10 : w10.alloc (.cells #[.int .i64 0, .int .i64 d] 25) = W10 at *
              generalize hbr : w10.heap.size = br at *
              obtain ⟨x0, x1, x2, x3, x4⟩ := J0.out
              go_wp2_with fail
              try rw [hW10]
              clear hW10 hbr x0 x1 x2 x3 x4
              refine (MakeRatioI_any _ _ _ a0 a1 (HS.out.keep L10.out) (by omega) (by omega) (by omega) (by omega)).mono ?_
              rintro e w11 ⟨rfl, hb11⟩
              obtain ⟨m1, m2, m3⟩ := M4.out
              rw [m1, m2, m3]
              clear m1 m2 m3 M4
              have N0 := Lib.hid ((J0.out.keep hb11).alloc (.cells #[.int .i64 0, .int .i64 d] 25))
              have N1 := Lib.hid ((J2.out.keep hb11).alloc (.cells #[.int .i64 0, .int .i64 d] 25))
              have N2 := Lib.hid (Box2.new w11 0 d 25)
              have L11 := Lib.hid (bA (bT L10.out hb11) (.cells #[.int .i64 0, .int .i64 d] 25))
              clear J0 J2 L10 hb11
              generalize hW11 : w11.alloc (.cells #[.int .i64 0, .int .i64 d] 25) = W11 at *
              generalize hbm : w11.heap.size = bm at *
              obtain ⟨x0, x1, x2, x3, x4⟩ := N0.out
              obtain ⟨y0, y1, y2, y3, y4⟩ := N1.out
              obtain ⟨z0, z1, z2, z3, z4⟩ := N2.out
              go_wp2_with fail
              try rw [hW11]
              go_ret
              exact ⟨rfl, by first | exact L11.out | (rw [hW11]; exact L11.out)⟩
            · have hz' : (kv == 0) = false := by simpa using hz
              by_cases e1 : n = 0
              · have e2 : ¬ d = q := fun h => hz (KZ.out.2 ⟨e1, h⟩)
                have e2' : (d == q) = false := by simpa using e2
                clear KZ e2
                subst e1
                go_wp2_with fail
                refine (RatioTextI_any _ _ _ (Pow10.keep L8.out HP.out)).mono ?_
                rintro e w9 ⟨rfl, hb9⟩
                have TT := Lib.hid (show RrIs (txtR 0 d).data.toList 0 d true from .inl ⟨rfl, K1.out, (txt_tl K1.out).symm⟩)
                have TS := Lib.hid (txt_small (n := 0) (d := d))
                generalize txtR 0 d = tx at *
                have I0 := Lib.hid (H0.out.keep hb9)
                have L9 := Lib.hid (bT L8.out hb9)
                clear H0 H1 L8 hb9 x0 x1 x2 x3 x4 y0 y1 y2 y3 y4
                go_wp2_with fail
                refine (ReadRatioI_any _ _ TS.out (Pow10.keep L9.out HP.out) (ErrVars.keep L9.out HE.out) (MLen.keep L9.out HM.out)).mono ?_
                rintro e w10 ⟨⟨rn, rd, rk, rfl, hrr⟩, hb10⟩
                obtain ⟨r1, r2, r3⟩ := RrIs.uniq TT.out hrr
                subst r1 r2 r3
                clear TT TS hrr
                have M3 := mk_three K1.out
                try rw [Int.mul_zero] at M3
                have M4 := Lib.hid M3
                clear M3
                obtain ⟨nb1, nb2, nb3, nb4⟩ := okR_bd K1.out
                have J0 := Lib.hid ((I0.out.keep hb10).alloc (.cells #[.int .i64 0, .int .i64 d] 25))
                have J2 := Lib.hid (Box2.new w10 0 d 25)
                have L10 := Lib.hid (bA (bT L9.out hb10) (.cells #[.int .i64 0, .int .i64 d] 25))
                clear I0 L9 hb10
                generalize hW10 : w10.alloc (.cells #[.int .i64 0, .int .i64 d] 25) = W10 at *
                generalize hbr : w10.heap.size = br at *
                obtain ⟨x0, x1, x2, x3, x4⟩ := J0.out
                go_wp2_with fail
                try rw [hW10]
                clear hW10 hbr x0 x1 x2 x3 x4
                refine (MakeRatioI_any _ _ _ a0 a1 (HS.out.keep L10.out) (by omega) (by omega) (by omega) (by omega)).mono ?_
                rintro e w11 ⟨rfl, hb11⟩
                obtain ⟨m1, m2, m3⟩ := M4.out
                rw [m1, m2, m3]
                clear m1 m2 m3 M4
                have N0 := Lib.hid ((J0.out.keep hb11).alloc (.cells #[.int .i64 0, .int .i64 d] 25))
                have N1 := Lib.hid ((J2.out.keep hb11).alloc (.cells #[.int .i64 0, .int .i64 d] 25))
                have N2 := Lib.hid (Box2.new w11 0 d 25)
                have L11 := Lib.hid (bA (bT L10.out hb11) (.cells #[.int .i64 0, .int .i64 d] 25))
                clear J0 J2 L10 hb11
                generalize hW11 : w11.alloc (.cells #[.int .i64 0, .int .i64 d] 25) = W11 at *
                generalize hbm : w11.heap.size = bm at *
                obtain ⟨x0, x1, x2, x3, x4⟩ := N0.out
                obtain ⟨y0, y1, y2, y3, y4⟩ := N1.out
                obtain ⟨z0, z1, z2, z3, z4⟩ := N2.out
                go_wp2_with fail
                try rw [hW11]
                go_ret
                exact ⟨rfl, by first | exact L11.out | (rw [hW11]; exact L11.out)⟩
              · have e1' : (n == 0) = false := by simpa using e1
                clear KZ e1
                go_wp2_with fail
                refine (RatioTextI_any _ _ _ (Pow10.keep L8.out HP.out)).mono ?_
                rintro e w9 ⟨rfl, hb9⟩
                have TT := Lib.hid (show RrIs (txtR n d).data.toList n d true from .inl ⟨rfl, K1.out, (txt_tl K1.out).symm⟩)
                have TS := Lib.hid (txt_small (n := n) (d := d))
                generalize txtR n d = tx at *
                have I0 := Lib.hid (H0.out.keep hb9)
                have L9 := Lib.hid (bT L8.out hb9)
                clear H0 H1 L8 hb9 x0 x1 x2 x3 x4 y0 y1 y2 y3 y4
                go_wp2_with fail
                refine (ReadRatioI_any _ _ TS.out (Pow10.keep L9.out HP.out) (ErrVars.keep L9.out HE.out) (MLen.keep L9.out HM.out)).mono ?_
                rintro e w10 ⟨⟨rn, rd, rk, rfl, hrr⟩, hb10⟩
                obtain ⟨r1, r2, r3⟩ := RrIs.uniq TT.out hrr
                subst r1 r2 r3
                clear TT TS hrr
                have M3 := mk_three K1.out
                try rw [Int.mul_zero] at M3
                have M4 := Lib.hid M3
                clear M3
                obtain ⟨nb1, nb2, nb3, nb4⟩ := okR_bd K1.out
                have J0 := Lib.hid ((I0.out.keep hb10).alloc (.cells #[.int .i64 n, .int .i64 d] 25))
                have J2 := Lib.hid (Box2.new w10 n d 25)
                have L10 := Lib.hid (bA (bT L9.out hb10) (.cells #[.int .i64 n, .int .i64 d] 25))
                clear I0 L9 hb10
                generalize hW10 : w10.alloc (.cells #[.int .i64 n, .int .i64 d] 25) = W10 at *
                generalize hbr : w10.heap.size = br at *
                obtain ⟨x0, x1, x2, x3, x4⟩ := J0.out
                go_wp2_with fail
                try rw [hW10]
                clear hW10 hbr x0 x1 x2 x3 x4
                refine (MakeRatioI_any _ _ _ a0 a1 (HS.out.keep L10.out) (by omega) (by omega) (by omega) (by omega)).mono ?_
                rintro e w11 ⟨rfl, hb11⟩
                obtain ⟨m1, m2, m3⟩ := M4.out
                rw [m1, m2, m3]
                clear m1 m2 m3 M4
                have N0 := Lib.hid ((J0.out.keep hb11).alloc (.cells #[.int .i64 n, .int .i64 d] 25))
                have N1 := Lib.hid ((J2.out.keep hb11).alloc (.cells #[.int .i64 n, .int .i64 d] 25))
                have N2 := Lib.hid (Box2.new w11 n d 25)
                have L11 := Lib.hid (bA (bT L10.out hb11) (.cells #[.int .i64 n, .int .i64 d] 25))
                clear J0 J2 L10 hb11
                generalize hW11 : w11.alloc (.cells #[.int .i64 n, .int .i64 d] 25) = W11 at *
                generalize hbm : w11.heap.size = bm at *
                obtain ⟨x0, x1, x2, x3, x4⟩ := N0.out
                obtain ⟨y0, y1, y2, y3, y4⟩ := N1.out
                obtain ⟨z0, z1, z2, z3, z4⟩ := N2.out
                go_wp2_with fail
                try rw [hW11]
                go_ret
                exact ⟨rfl, by first | exact L11.out | (rw [hW11]; exact L11.out)⟩
        · have hm := HMUL.out hp (by trivial)
          clear HMUL
          have HM2 := Lib.hid hm
          clear hm
          go_wp2_with fail
          generalize ((w4.setCell ⟨bx, 0, none⟩ (.int .i64 ma)).setCell ⟨bx, 1, none⟩ (.int .i64 mb)) = W4 at *
          refine (DivRatioI_any _ _ _ _ _ a0 a1 (HS.out.keep L4.out)).mono ?_
          rintro e w5 ⟨rfl, hb5⟩
          obtain ⟨hox, g1, g2, g3⟩ := HM2.out
          rw [v_yes hox K2.out]
          obtain ⟨oe1, oe2, oe3⟩ := o_yes (mulX ma q) (mulX mb p)
          rw [oe1, oe2, oe3, g1, g2, g3]
          clear oe1 oe2 oe3 g1 g2 g3 hox HM2
          clear x0 x1 x2 x3 x4 y0 y1 y2 y3 y4 z0 z1 z2 z3 z4 u0 u1 u2 u3 u4
          have E0 := Lib.hid ((D0.out.keep hb5).alloc (.cells #[.int .i64 n, .int .i64 d] 25))
          have E1 := Lib.hid ((D1.out.keep hb5).alloc (.cells #[.int .i64 n, .int .i64 d] 25))
          have E3 := Lib.hid (Box2.new w5 n d 25)
          have L5 := Lib.hid (bA (bT L4.out hb5) (.cells #[.int .i64 n, .int .i64 d] 25))
          clear D0 D1 D2 L4 hb5
          generalize hW5 : w5.alloc (.cells #[.int .i64 n, .int .i64 d] 25) = W5 at *
          generalize hby2 : w5.heap.size = by2 at *
          obtain ⟨x0, x1, x2, x3, x4⟩ := E0.out
          obtain ⟨y0, y1, y2, y3, y4⟩ := E1.out
          obtain ⟨z0, z1, z2, z3, z4⟩ := E3.out
          go_wp2_with fail
          try rw [hW5]
          clear hW5 hby2
          refine (CompareRatioI_any _ _ _ _ _).mono ?_
          rintro e w6 ⟨rfl, hb6⟩
          have hkb : -1 ≤ cmpR n d p q ∧ cmpR n d p q ≤ 1 := by unfold cmpR cmpV; split <;> (try split) <;> (try split) <;> omega
          have KZ := Lib.hid (cmp_zero K1.out K2.out)
          have KW := Lib.hid (cmp_swap (n := n) (d := d) (p := p) (q := q))
          have KS := Lib.hid (sub_sign K1.out K2.out)
          generalize cmpR n d p q = kv at *
          clear x0 x1 x2 x3 x4 y0 y1 y2 y3 y4 z0 z1 z2 z3 z4
          have F0 := Lib.hid (E0.out.keep hb6)
          have F1 := Lib.hid (E1.out.keep hb6)
          have L6 := Lib.hid (bT L5.out hb6)
          clear hb6 E0 E1
          obtain ⟨x0, x1, x2, x3, x4⟩ := F0.out
          obtain ⟨y0, y1, y2, y3, y4⟩ := F1.out
          go_wp2_with fail
          refine (SubRatioI_any _ _ _ _ _ a0 a1 (HS.out.keep L6.out)).mono ?_
          rintro e w7 ⟨rfl, hb7⟩
          rw [v_yes K1.out K2.out]
          obtain ⟨oe1, oe2, oe3⟩ := o_yes (addX n d (-p) q) (mulX d q)
          rw [oe1, oe2, oe3]
          clear oe1 oe2 oe3
          generalize rC (addX n d (-p) q) (mulX d q) = cd at *
          generalize rA (addX n d (-p) q) (mulX d q) = da at *
          generalize rB (addX n d (-p) q) (mulX d q) = db at *
          clear x0 x1 x2 x3 x4 y0 y1 y2 y3 y4
          have G0 := Lib.hid ((F0.out.keep hb7).alloc (.cells #[.int .i64 da, .int .i64 db] 25))
          have G1 := Lib.hid ((F1.out.keep hb7).alloc (.cells #[.int .i64 da, .int .i64 db] 25))
          have G2 := Lib.hid (Box2.new w7 da db 25)
          have L7 := Lib.hid (bA (bT L6.out hb7) (.cells #[.int .i64 da, .int .i64 db] 25))
          clear F0 F1 L6 hb7
          generalize hW7 : w7.alloc (.cells #[.int .i64 da, .int .i64 db] 25) = W7 at *
          generalize hbd : w7.heap.size = bd at *
          obtain ⟨x0, x1, x2, x3, x4⟩ := G0.out
          obtain ⟨y0, y1, y2, y3, y4⟩ := G1.out
          obtain ⟨z0, z1, z2, z3, z4⟩ := G2.out
          by_cases hcd : cd = 0
          · subst hcd
            have ks := KS.out (by trivial)
            have ks' : (0 < da) ↔ (0 < kv) := by simpa using ks
            clear KS ks
            by_cases hk0 : 0 < kv
            · have hda : 0 < da := ks'.2 hk0
              go_wp2_with fail
              try rw [hW7]
              refine (CompareRatioI_any _ _ _ _ _).mono ?_
              rintro e w8 ⟨rfl, hb8⟩
              rw [KW.out]
              clear KW hW7 hbd
              clear x0 x1 x2 x3 x4 y0 y1 y2 y3 y4 z0 z1 z2 z3 z4
              have H0 := Lib.hid (G0.out.keep hb8)
              have H1 := Lib.hid (G1.out.keep hb8)
              have L8 := Lib.hid (bT L7.out hb8)
              clear G0 G1 G2 L7 hb8
              obtain ⟨x0, x1, x2, x3, x4⟩ := H0.out
              obtain ⟨y0, y1, y2, y3, y4⟩ := H1.out
              by_cases hz : kv = 0
              · exact absurd hz (by omega)
              · have hz' : (kv == 0) = false := by simpa using hz
                by_cases e1 : n = p
                · have e2 : ¬ d = q := fun h => hz (KZ.out.2 ⟨e1, h⟩)
                  have e2' : (d == q) = false := by simpa using e2
                  clear KZ e2
                  subst e1
                  go_wp2_with fail
                  refine (RatioTextI_any _ _ _ (Pow10.keep L8.out HP.out)).mono ?_
                  rintro e w9 ⟨rfl, hb9⟩
                  have TT := Lib.hid (show RrIs (txtR n d).data.toList n d true from .inl ⟨rfl, K1.out, (txt_tl K1.out).symm⟩)
                  have TS := Lib.hid (txt_small (n := n) (d := d))
                  generalize txtR n d = tx at *
                  have I0 := Lib.hid (H0.out.keep hb9)
                  have L9 := Lib.hid (bT L8.out hb9)
                  clear H0 H1 L8 hb9 x0 x1 x2 x3 x4 y0 y1 y2 y3 y4
                  go_wp2_with fail
                  refine (ReadRatioI_any _ _ TS.out (Pow10.keep L9.out HP.out) (ErrVars.keep L9.out HE.out) (MLen.keep L9.out HM.out)).mono ?_
                  rintro e w10 ⟨⟨rn, rd, rk, rfl, hrr⟩, hb10⟩
                  obtain ⟨r1, r2, r3⟩ := RrIs.uniq TT.out hrr
                  subst r1 r2 r3
                  clear TT TS hrr
                  have M3 := mk_three K1.out
                  try rw [Int.mul_zero] at M3
                  have M4 := Lib.hid M3
                  clear M3
                  obtain ⟨nb1, nb2, nb3, nb4⟩ := okR_bd K1.out
                  have J0 := Lib.hid ((I0.out.keep hb10).alloc (.cells #[.int .i64 n, .int .i64 d] 25))
                  have J2 := Lib.hid (Box2.new w10 n d 25)
                  have L10 := Lib.hid (bA (bT L9.out hb10) (.cells #[.int .i64 n, .int .i64 d] 25))
                  clear I0 L9 hb10
                  generalize hW10 : w10.alloc (.cells #[.int .i64 n, .int .i64 d] 25) = W10 at *
                  generalize hbr : w10.heap.size = br at *
                  obtain ⟨x0, x1, x2, x3, x4⟩ := J0.out
                  go_wp2_with fail
                  try rw [hW10]
                  clear hW10 hbr x0 x1 x2 x3 x4
                  refine (MakeRatioI_any _ _ _ a0 a1 (HS.out.keep L10.out) (by omega) (by omega) (by omega) (by omega)).mono ?_
                  rintro e w11 ⟨rfl, hb11⟩
                  obtain ⟨m1, m2, m3⟩ := M4.out
                  rw [m1, m2, m3]
                  clear m1 m2 m3 M4
                  have N0 := Lib.hid ((J0.out.keep hb11).alloc (.cells #[.int .i64 n, .int .i64 d] 25))
                  have N1 := Lib.hid ((J2.out.keep hb11).alloc (.cells #[.int .i64 n, .int .i64 d] 25))
                  have N2 := Lib.hid (Box2.new w11 n d 25)
                  have L11 := Lib.hid (bA (bT L10.out hb11) (.cells #[.int .i64 n, .int .i64 d] 25))
                  clear J0 J2 L10 hb11
                  generalize hW11 : w11.alloc (.cells #[.int .i64 n, .int .i64 d] 25) = W11 at *
                  generalize hbm : w11.heap.size = bm at *
                  obtain ⟨x0, x1, x2, x3, x4⟩ := N0.out
                  obtain ⟨y0, y1, y2, y3, y4⟩ := N1.out
                  obtain ⟨z0, z1, z2, z3, z4⟩ := N2.out
                  go_wp2_with fail
                  try rw [hW11]
                  go_ret
                  exact ⟨rfl, by first | exact L11.out | (rw [hW11]; exact L11.out)⟩
                · have e1' : (n == p) = false := by simpa using e1
                  clear KZ e1
                  go_wp2_with fail
                  refine (RatioTextI_any _ _ _ (Pow10.keep L8.out HP.out)).mono ?_
                  rintro e w9 ⟨rfl, hb9⟩
                  have TT := Lib.hid (show RrIs (txtR n d).data.toList n d true from .inl ⟨rfl, K1.out, (txt_tl K1.out).symm⟩)
                  have TS := Lib.hid (txt_small (n := n) (d := d))
                  generalize txtR n d = tx at *
                  have I0 := Lib.hid (H0.out.keep hb9)
                  have L9 := Lib.hid (bT L8.out hb9)
                  clear H0 H1 L8 hb9 x0 x1 x2 x3 x4 y0 y1 y2 y3 y4
                  go_wp2_with fail
                  refine (ReadRatioI_any _ _ TS.out (Pow10.keep L9.out HP.out) (ErrVars.keep L9.out HE.out) (MLen.keep L9.out HM.out)).mono ?_
                  rintro e w10 ⟨⟨rn, rd, rk, rfl, hrr⟩, hb10⟩
                  obtain ⟨r1, r2, r3⟩ := RrIs.uniq TT.out hrr
                  subst r1 r2 r3
                  clear TT TS hrr
                  have M3 := mk_three K1.out
                  try rw [Int.mul_zero] at M3
                  have M4 := Lib.hid M3
                  clear M3
                  obtain ⟨nb1, nb2, nb3, nb4⟩ := okR_bd K1.out
                  have J0 := Lib.hid ((I0.out.keep hb10).alloc (.cells #[.int .i64 n, .int .i64 d] 25))
                  have J2 := Lib.hid (Box2.new w10 n d 25)
                  have L10 := Lib.hid (bA (bT L9.out hb10) (.cells #[.int .i64 n, .int .i64 d] 25))
                  clear I0 L9 hb10
                  generalize hW10 : w10.alloc (.cells #[.int .i64 n, .int .i64 d] 25) = W10 at *
                  generalize hbr : w10.heap.size = br at *
                  obtain ⟨x0, x1, x2, x3, x4⟩ := J0.out
                  go_wp2_with fail
                  try rw [hW10]
                  clear hW10 hbr x0 x1 x2 x3 x4
                  refine (MakeRatioI_any _ _ _ a0 a1 (HS.out.keep L10.out) (by omega) (by omega) (by omega) (by omega)).mono ?_
                  rintro e w11 ⟨rfl, hb11⟩
                  obtain ⟨m1, m2, m3⟩ := M4.out
                  rw [m1, m2, m3]
                  clear m1 m2 m3 M4
                  have N0 := Lib.hid ((J0.out.keep hb11).alloc (.cells #[.int .i64 n, .int .i64 d] 25))
                  have N1 := Lib.hid ((J2.out.keep hb11).alloc (.cells #[.int .i64 n, .int .i64 d] 25))
                  have N2 := Lib.hid (Box2.new w11 n d 25)
                  have L11 := Lib.hid (bA (bT L10.out hb11) (.cells #[.int .i64 n, .int .i64 d] 25))
                  clear J0 J2 L10 hb11
                  generalize hW11 : w11.alloc (.cells #[.int .i64 n, .int .i64 d] 25) = W11 at *
                  generalize hbm : w11.heap.size = bm at *
                  obtain ⟨x0, x1, x2, x3, x4⟩ := N0.out
                  obtain ⟨y0, y1, y2, y3, y4⟩ := N1.out
                  obtain ⟨z0, z1, z2, z3, z4⟩ := N2.out
                  go_wp2_with fail
                  try rw [hW11]
                  go_ret
                  exact ⟨rfl, by first | exact L11.out | (rw [hW11]; exact L11.out)⟩
            · have hda : ¬ 0 < da := fun h => hk0 (ks'.1 h)
              go_wp2_with fail
              try rw [hW7]
              refine (CompareRatioI_any _ _ _ _ _).mono ?_
              rintro e w8 ⟨rfl, hb8⟩
              rw [KW.out]
              clear KW hW7 hbd
              clear x0 x1 x2 x3 x4 y0 y1 y2 y3 y4 z0 z1 z2 z3 z4
              have H0 := Lib.hid (G0.out.keep hb8)
              have H1 := Lib.hid (G1.out.keep hb8)
              have L8 := Lib.hid (bT L7.out hb8)
              clear G0 G1 G2 L7 hb8
              obtain ⟨x0, x1, x2, x3, x4⟩ := H0.out
              obtain ⟨y0, y1, y2, y3, y4⟩ := H1.out
              by_cases hz : kv = 0
              · obtain ⟨e1, e2⟩ := KZ.out.1 hz
                clear KZ
                subst hz
                subst e1
                subst e2
                go_wp2_with fail
                refine (RatioTextI_any _ _ _ (Pow10.keep L8.out HP.out)).mono ?_
                rintro e w9 ⟨rfl, hb9⟩
                have TT := Lib.hid (show RrIs (txtR n d).data.toList n d true from .inl ⟨rfl, K1.out, (txt_tl K1.out).symm⟩)
                have TS := Lib.hid (txt_small (n := n) (d := d))
                generalize txtR n d = tx at *
                have I0 := Lib.hid (H0.out.keep hb9)
                have L9 := Lib.hid (bT L8.out hb9)
                clear H0 H1 L8 hb9 x0 x1 x2 x3 x4 y0 y1 y2 y3 y4
                go_wp2_with fail
                refine (ReadRatioI_any _ _ TS.out (Pow10.keep L9.out HP.out) (ErrVars.keep L9.out HE.out) (MLen.keep L9.out HM.out)).mono ?_
                rintro e w10 ⟨⟨rn, rd, rk, rfl, hrr⟩, hb10⟩
                obtain ⟨r1, r2, r3⟩ := RrIs.uniq TT.out hrr
                subst r1 r2 r3
                clear TT TS hrr
                have M3 := mk_three K1.out
                try rw [Int.mul_zero] at M3
                have M4 := Lib.hid M3
                clear M3
                obtain ⟨nb1, nb2, nb3, nb4⟩ := okR_bd K1.out
                have J0 := Lib.hid ((I0.out.keep hb10).alloc (.cells #[.int .i64 n, .int .i64 d] 25))
                have J2 := Lib.hid (Box2.new w10 n d 25)
                have L10 := Lib.hid (bA (bT L9.out hb10) (.cells #[.int .i64 n, .int .i64 d] 25))
                clear I0 L9 hb10
                generalize hW10 : w10.alloc (.cells #[.int .i64 n, .int .i64 d] 25) = W10 at *
                generalize hbr : w10.heap.size = br at *
                obtain ⟨x0, x1, x2, x3, x4⟩ := J0.out
                go_wp2_with fail
                try rw [hW10]
                clear hW10 hbr x0 x1 x2 x3 x4
                refine (MakeRatioI_any _ _ _ a0 a1 (HS.out.keep L10.out) (by omega) (by omega) (by omega) (by omega)).mono ?_
                rintro e w11 ⟨rfl, hb11⟩
                obtain ⟨m1, m2, m3⟩ := M4.out
                rw [m1, m2, m3]
                clear m1 m2 m3 M4
                have N0 := Lib.hid ((J0.out.keep hb11).alloc (.cells #[.int .i64 n, .int .i64 d] 25))
                have N1 := Lib.hid ((J2.out.keep hb11).alloc (.cells #[.int .i64 n, .int .i64 d] 25))
                have N2 := Lib.hid (Box2.new w11 n d 25)
                have L11 := Lib.hid (bA (bT L10.out hb11) (.cells #[.int .i64 n, .int .i64 d] 25))
                clear J0 J2 L10 hb11
                generalize hW11 : w11.alloc (.cells #[.int .i64 n, .int .i64 d] 25) = W11 at *
                generalize hbm : w11.heap.size = bm at *
                obtain ⟨x0, x1, x2, x3, x4⟩ := N0.out
                obtain ⟨y0, y1, y2, y3, y4⟩ := N1.out
                obtain ⟨z0, z1, z2, z3, z4⟩ := N2.out
                go_wp2_with fail
                try rw [hW11]
                go_ret
                exact ⟨rfl, by first | exact L11.out | (rw [hW11]; exact L11.out)⟩
              · have hz' : (kv == 0) = false := by simpa using hz
                by_cases e1 : n = p
                · have e2 : ¬ d = q := fun h => hz (KZ.out.2 ⟨e1, h⟩)
                  have e2' : (d == q) = false := by simpa using e2
                  clear KZ e2
                  subst e1
                  go_wp2_with fail
                  refine (RatioTextI_any _ _ _ (Pow10.keep L8.out HP.out)).mono ?_
                  rintro e w9 ⟨rfl, hb9⟩
                  have TT := Lib.hid (show RrIs (txtR n d).data.toList n d true from .inl ⟨rfl, K1.out, (txt_tl K1.out).symm⟩)
                  have TS := Lib.hid (txt_small (n := n) (d := d))
                  generalize txtR n d = tx at *
                  have I0 := Lib.hid (H0.out.keep hb9)
                  have L9 := Lib.hid (bT L8.out hb9)
                  clear H0 H1 L8 hb9 x0 x1 x2 x3 x4 y0 y1 y2 y3 y4
                  go_wp2_with fail
                  refine (ReadRatioI_any _ _ TS.out (Pow10.keep L9.out HP.out) (ErrVars.keep L9.out HE.out) (MLen.keep L9.out HM.out)).mono ?_
                  rintro e w10 ⟨⟨rn, rd, rk, rfl, hrr⟩, hb10⟩
                  obtain ⟨r1, r2, r3⟩ := RrIs.uniq TT.out hrr
                  subst r1 r2 r3
                  clear TT TS hrr
                  have M3 := mk_three K1.out
                  try rw [Int.mul_zero] at M3
                  have M4 := Lib.hid M3
                  clear M3
                  obtain ⟨nb1, nb2, nb3, nb4⟩ := okR_bd K1.out
                  have J0 := Lib.hid ((I0.out.keep hb10).alloc (.cells #[.int .i64 n, .int .i64 d] 25))
                  have J2 := Lib.hid (Box2.new w10 n d 25)
                  have L10 := Lib.hid (bA (bT L9.out hb10) (.cells #[.int .i64 n, .int .i64 d] 25))
                  clear I0 L9 hb10
                  generalize hW10 : w10.alloc (.cells #[.int .i64 n, .int .i64 d] 25) = W10 at *
                  generalize hbr : w10.heap.size = br at *
                  obtain ⟨x0, x1, x2, x3, x4⟩ := J0.out
                  go_wp2_with fail
                  try rw [hW10]
                  clear hW10 hbr x0 x1 x2 x3 x4
                  refine (MakeRatioI_any _ _ _ a0 a1 (HS.out.keep L10.out) (by omega) (by omega) (by omega) (by omega)).mono ?_
                  rintro e w11 ⟨rfl, hb11⟩
                  obtain ⟨m1, m2, m3⟩ := M4.out
                  rw [m1, m2, m3]
                  clear m1 m2 m3 M4
                  have N0 := Lib.hid ((J0.out.keep hb11).alloc (.cells #[.int .i64 n, .int .i64 d] 25))
                  have N1 := Lib.hid ((J2.out.keep hb11).alloc (.cells #[.int .i64 n, .int .i64 d] 25))
                  have N2 := Lib.hid (Box2.new w11 n d 25)
                  have L11 := Lib.hid (bA (bT L10.out hb11) (.cells #[.int .i64 n, .int .i64 d] 25))
                  clear J0 J2 L10 hb11
                  generalize hW11 : w11.alloc (.cells #[.int .i64 n, .int .i64 d] 25) = W11 at *
                  generalize hbm : w11.heap.size = bm at *
                  obtain ⟨x0, x1, x2, x3, x4⟩ := N0.out
                  obtain ⟨y0, y1, y2, y3, y4⟩ := N1.out
                  obtain ⟨z0, z1, z2, z3, z4⟩ := N2.out
                  go_wp2_with fail
                  try rw [hW11]
                  go_ret
                  exact ⟨rfl, by first | exact L11.out | (rw [hW11]; exact L11.out)⟩
                · have e1' : (n == p) = false := by simpa using e1
                  clear KZ e1
                  go_wp2_with fail
                  refine (RatioTextI_any _ _ _ (Pow10.keep L8.out HP.out)).mono ?_
                  rintro e w9 ⟨rfl, hb9⟩
                  have TT := Lib.hid (show RrIs (txtR n d).data.toList n d true from .inl ⟨rfl, K1.out, (txt_tl K1.out).symm⟩)
                  have TS := Lib.hid (txt_small (n := n) (d := d))
                  generalize txtR n d = tx at *
                  have I0 := Lib.hid (H0.out.keep hb9)
                  have L9 := Lib.hid (bT L8.out hb9)
                  clear H0 H1 L8 hb9 x0 x1 x2 x3 x4 y0 y1 y2 y3 y4
                  go_wp2_with fail
                  refine (ReadRatioI_any _ _ TS.out (Pow10.keep L9.out HP.out) (ErrVars.keep L9.out HE.out) (MLen.keep L9.out HM.out)).mono ?_
                  rintro e w10 ⟨⟨rn, rd, rk, rfl, hrr⟩, hb10⟩
                  obtain ⟨r1, r2, r3⟩ := RrIs.uniq TT.out hrr
                  subst r1 r2 r3
                  clear TT TS hrr
                  have M3 := mk_three K1.out
                  try rw [Int.mul_zero] at M3
                  have M4 := Lib.hid M3
                  clear M3
                  obtain ⟨nb1, nb2, nb3, nb4⟩ := okR_bd K1.out
                  have J0 := Lib.hid ((I0.out.keep hb10).alloc (.cells #[.int .i64 n, .int .i64 d] 25))
                  have J2 := Lib.hid (Box2.new w10 n d 25)
                  have L10 := Lib.hid (bA (bT L9.out hb10) (.cells #[.int .i64 n, .int .i64 d] 25))
                  clear I0 L9 hb10
                  generalize hW10 : w10.alloc (.cells #[.int .i64 n, .int .i64 d] 25) = W10 at *
                  generalize hbr : w10.heap.size = br at *
                  obtain ⟨x0, x1, x2, x3, x4⟩ := J0.out
                  go_wp2_with fail
                  try rw [hW10]
                  clear hW10 hbr x0 x1 x2 x3 x4
                  refine (MakeRatioI_any _ _ _ a0 a1 (HS.out.keep L10.out) (by omega) (by omega) (by omega) (by omega)).mono ?_
                  rintro e w11 ⟨rfl, hb11⟩
                  obtain ⟨m1, m2, m3⟩ := M4.out
                  rw [m1, m2, m3]
                  clear m1 m2 m3 M4
                  have N0 := Lib.hid ((J0.out.keep hb11).alloc (.cells #[.int .i64 n, .int .i64 d] 25))
                  have N1 := Lib.hid ((J2.out.keep hb11).alloc (.cells #[.int .i64 n, .int .i64 d] 25))
                  have N2 := Lib.hid (Box2.new w11 n d 25)
                  have L11 := Lib.hid (bA (bT L10.out hb11) (.cells #[.int .i64 n, .int .i64 d] 25))
                  clear J0 J2 L10 hb11
                  generalize hW11 : w11.alloc (.cells #[.int .i64 n, .int .i64 d] 25) = W11 at *
                  generalize hbm : w11.heap.size = bm at *
                  obtain ⟨x0, x1, x2, x3, x4⟩ := N0.out
                  obtain ⟨y0, y1, y2, y3, y4⟩ := N1.out
                  obtain ⟨z0, z1, z2, z3, z4⟩ := N2.out
                  go_wp2_with fail
                  try rw [hW11]
                  go_ret
                  exact ⟨rfl, by first | exact L11.out | (rw [hW11]; exact L11.out)⟩
          · have hcd' : (cd == 0) = false := by simpa using hcd
            clear KS hcd
            go_wp2_with fail
            try rw [hW7]
            refine (CompareRatioI_any _ _ _ _ _).mono ?_
            rintro e w8 ⟨rfl, hb8⟩
            rw [KW.out]
            clear KW hW7 hbd
            clear x0 x1 x2 x3 x4 y0 y1 y2 y3 y4 z0 z1 z2 z3 z4
            have H0 := Lib.hid (G0.out.keep hb8)
            have H1 := Lib.hid (G1.out.keep hb8)
            have L8 := Lib.hid (bT L7.out hb8)
            clear G0 G1 G2 L7 hb8
            obtain ⟨x0, x1, x2, x3, x4⟩ := H0.out
            obtain ⟨y0, y1, y2, y3, y4⟩ := H1.out
            by_cases hz : kv = 0
            · obtain ⟨e1, e2⟩ := KZ.out.1 hz
              clear KZ
              subst hz
              subst e1
              subst e2
              go_wp2_with fail
              refine (RatioTextI_any _ _ _ (Pow10.keep L8.out HP.out)).mono ?_
              rintro e w9 ⟨rfl, hb9⟩
              have TT := Lib.hid (show RrIs (txtR n d).data.toList n d true from .inl ⟨rfl, K1.out, (txt_tl K1.out).symm⟩)
              have TS := Lib.hid (txt_small (n := n) (d := d))
              generalize txtR n d = tx at *
              have I0 := Lib.hid (H0.out.keep hb9)
              have L9 := Lib.hid (bT L8.out hb9)
              clear H0 H1 L8 hb9 x0 x1 x2 x3 x4 y0 y1 y2 y3 y4
              go_wp2_with fail
              refine (ReadRatioI_any _ _ TS.out (Pow10.keep L9.out HP.out) (ErrVars.keep L9.out HE.out) (MLen.keep L9.out HM.out)).mono ?_
              rintro e w10 ⟨⟨rn, rd, rk, rfl, hrr⟩, hb10⟩
              obtain ⟨r1, r2, r3⟩ := RrIs.uniq TT.out hrr
              subst r1 r2 r3
              clear TT TS hrr
              have M3 := mk_three K1.out
              try rw [Int.mul_zero] at M3
              have M4 := Lib.hid M3
              clear M3
              obtain ⟨nb1, nb2, nb3, nb4⟩ := okR_bd K1.out
              have J0 := Lib.hid ((I0.out.keep hb10).alloc (.cells #[.int .i64 n, .int .i64 d] 25))
              have J2 := Lib.hid (Box2.new w10 n d 25)
              have L10 := Lib.hid (bA (bT L9.out hb10) (.cells #[.int .i64 n, .int .i64 d] 25))
              clear I0 L9 hb10
              generalize hW10 : w10.alloc (.cells #[.int .i64 n, .int .i64 d] 25) = W10 at *
              generalize hbr : w10.heap.size = br at *
              obtain ⟨x0, x1, x2, x3, x4⟩ := J0.out
              go_wp2_with fail
              try rw [hW10]
              clear hW10 hbr x0 x1 x2 x3 x4
              refine (MakeRatioI_any _ _ _ a0 a1 (HS.out.keep L10.out) (by omega) (by omega) (by omega) (by omega)).mono ?_
              rintro e w11 ⟨rfl, hb11⟩
              obtain ⟨m1, m2, m3⟩ := M4.out
              rw [m1, m2, m3]
              clear m1 m2 m3 M4
              have N0 := Lib.hid ((J0.out.keep hb11).alloc (.cells #[.int .i64 n, .int .i64 d] 25))
              have N1 := Lib.hid ((J2.out.keep hb11).alloc (.cells #[.int .i64 n, .int .i64 d] 25))
              have N2 := Lib.hid (Box2.new w11 n d 25)
              have L11 := Lib.hid (bA (bT L10.out hb11) (.cells #[.int .i64 n, .int .i64 d] 25))
              clear J0 J2 L10 hb11
              generalize hW11 : w11.alloc (.cells #[.int .i64 n, .int .i64 d] 25) = W11 at *
              generalize hbm : w11.heap.size = bm at *
              obtain ⟨x0, x1, x2, x3, x4⟩ := N0.out
              obtain ⟨y0, y1, y2, y3, y4⟩ := N1.out
              obtain ⟨z0, z1, z2, z3, z4⟩ := N2.out
              go_wp2_with fail
              try rw [hW11]
              go_ret
              exact ⟨rfl, by first | exact L11.out | (rw [hW11]; exact L11.out)⟩
            · have hz' : (kv == 0) = false := by simpa using hz
              by_cases e1 : n = p
              · have e2 : ¬ d = q := fun h => hz (KZ.out.2 ⟨e1, h⟩)
                have e2' : (d == q) = false := by simpa using e2
                clear KZ e2
                subst e1
                go_wp2_with fail
                refine (RatioTextI_any _ _ _ (Pow10.keep L8.out HP.out)).mono ?_
                rintro e w9 ⟨rfl, hb9⟩
                have TT := Lib.hid (show RrIs (txtR n d).data.toList n d true from .inl ⟨rfl, K1.out, (txt_tl K1.out).symm⟩)
                have TS := Lib.hid (txt_small (n := n) (d := d))
                generalize txtR n d = tx at *
                have I0 := Lib.hid (H0.out.keep hb9)
                have L9 := Lib.hid (bT L8.out hb9)
                clear H0 H1 L8 hb9 x0 x1 x2 x3 x4 y0 y1 y2 y3 y4
                go_wp2_with fail
                refine (ReadRatioI_any _ _ TS.out (Pow10.keep L9.out HP.out) (ErrVars.keep L9.out HE.out) (MLen.keep L9.out HM.out)).mono ?_
                rintro e w10 ⟨⟨rn, rd, rk, rfl, hrr⟩, hb10⟩
                obtain ⟨r1, r2, r3⟩ := RrIs.uniq TT.out hrr
                subst r1 r2 r3
                clear TT TS hrr
                have M3 := mk_three K1.out
                try rw [Int.mul_zero] at M3
                have M4 := Lib.hid M3
                clear M3
                obtain ⟨nb1, nb2, nb3, nb4⟩ := okR_bd K1.out
                have J0 := Lib.hid ((I0.out.keep hb10).alloc (.cells #[.int .i64 n, .int .i64 d] 25))
                have J2 := Lib.hid (Box2.new w10 n d 25)
                have L10 := Lib.hid (bA (bT L9.out hb10) (.cells #[.int .i64 n, .int .i64 d] 25))
                clear I0 L9 hb10
                generalize hW10 : w10.alloc (.cells #[.int .i64 n, .int .i64 d] 25) = W10 at *
                generalize hbr : w10.heap.size = br at *
                obtain ⟨x0, x1, x2, x3, x4⟩ := J0.out
                go_wp2_with fail
                try rw [hW10]
                clear hW10 hbr x0 x1 x2 x3 x4
                refine (MakeRatioI_any _ _ _ a0 a1 (HS.out.keep L10.out) (by omega) (by omega) (by omega) (by omega)).mono ?_
                rintro e w11 ⟨rfl, hb11⟩
                obtain ⟨m1, m2, m3⟩ := M4.out
                rw [m1, m2, m3]
                clear m1 m2 m3 M4
                have N0 := Lib.hid ((J0.out.keep hb11).alloc (.cells #[.int .i64 n, .int .i64 d] 25))
                have N1 := Lib.hid ((J2.out.keep hb11).alloc (.cells #[.int .i64 n, .int .i64 d] 25))
                have N2 := Lib.hid (Box2.new w11 n d 25)
                have L11 := Lib.hid (bA (bT L10.out hb11) (.cells #[.int .i64 n, .int .i64 d] 25))
                clear J0 J2 L10 hb11
                generalize hW11 : w11.alloc (.cells #[.int .i64 n, .int .i64 d] 25) = W11 at *
                generalize hbm : w11.heap.size = bm at *
                obtain ⟨x0, x1, x2, x3, x4⟩ := N0.out
                obtain ⟨y0, y1, y2, y3, y4⟩ := N1.out
                obtain ⟨z0, z1, z2, z3, z4⟩ := N2.out
                go_wp2_with fail
                try rw [hW11]
                go_ret
                exact ⟨rfl, by first | exact L11.out | (rw [hW11]; exact L11.out)⟩
              · have e1' : (n == p) = false := by simpa using e1
                clear KZ e1
                go_wp2_with fail
                refine (RatioTextI_any _ _ _ (Pow10.keep L8.out HP.out)).mono ?_
                rintro e w9 ⟨rfl, hb9⟩
                have TT := Lib.hid (show RrIs (txtR n d).data.toList n d true from .inl ⟨rfl, K1.out, (txt_tl K1.out).symm⟩)
                have TS := Lib.hid (txt_small (n := n) (d := d))
                generalize txtR n d = tx at *
                have I0 := Lib.hid (H0.out.keep hb9)
                have L9 := Lib.hid (bT L8.out hb9)
                clear H0 H1 L8 hb9 x0 x1 x2 x3 x4 y0 y1 y2 y3 y4
                go_wp2_with fail
                refine (ReadRatioI_any _ _ TS.out (Pow10.keep L9.out HP.out) (ErrVars.keep L9.out HE.out) (MLen.keep L9.out HM.out)).mono ?_
                rintro e w10 ⟨⟨rn, rd, rk, rfl, hrr⟩, hb10⟩
                obtain ⟨r1, r2, r3⟩ := RrIs.uniq TT.out hrr
                subst r1 r2 r3
                clear TT TS hrr
                have M3 := mk_three K1.out
                try rw [Int.mul_zero] at M3
                have M4 := Lib.hid M3
                clear M3
                obtain ⟨nb1, nb2, nb3, nb4⟩ := okR_bd K1.out
                have J0 := Lib.hid ((I0.out.keep hb10).alloc (.cells #[.int .i64 n, .int .i64 d] 25))
                have J2 := Lib.hid (Box2.new w10 n d 25)
                have L10 := Lib.hid (bA (bT L9.out hb10) (.cells #[.int .i64 n, .int .i64 d] 25))
                clear I0 L9 hb10
                generalize hW10 : w10.alloc (.cells #[.int .i64 n, .int .i64 d] 25) = W10 at *
                generalize hbr : w10.heap.size = br at *
                obtain ⟨x0, x1, x2, x3, x4⟩ := J0.out
                go_wp2_with fail
                try rw [hW10]
                clear hW10 hbr x0 x1 x2 x3 x4
                refine (MakeRatioI_any _ _ _ a0 a1 (HS.out.keep L10.out) (by omega) (by omega) (by omega) (by omega)).mono ?_
                rintro e w11 ⟨rfl, hb11⟩
                obtain ⟨m1, m2, m3⟩ := M4.out
                rw [m1, m2, m3]
                clear m1 m2 m3 M4
                have N0 := Lib.hid ((J0.out.keep hb11).alloc (.cells #[.int .i64 n, .int .i64 d] 25))
                have N1 := Lib.hid ((J2.out.keep hb11).alloc (.cells #[.int .i64 n, .int .i64 d] 25))
                have N2 := Lib.hid (Box2.new w11 n d 25)
                have L11 := Lib.hid (bA (bT L10.out hb11) (.cells #[.int .i64 n, .int .i64 d] 25))
                clear J0 J2 L10 hb11
                generalize hW11 : w11.alloc (.cells #[.int .i64 n, .int .i64 d] 25) = W11 at *
                generalize hbm : w11.heap.size = bm at *
                obtain ⟨x0, x1, x2, x3, x4⟩ := N0.out
                obtain ⟨y0, y1, y2, y3, y4⟩ := N1.out
                obtain ⟨z0, z1, z2, z3, z4⟩ := N2.out
                go_wp2_with fail
                try rw [hW11]
                go_ret
                exact ⟨rfl, by first | exact L11.out | (rw [hW11]; exact L11.out)⟩
      · have hcm' : (cm == 0) = false := by simpa using hcm
        clear HMUL hcm
        go_wp2_with fail
        generalize ((w4.setCell ⟨bx, 0, none⟩ (.int .i64 ma)).setCell ⟨bx, 1, none⟩ (.int .i64 mb)) = W4 at *
        refine (CompareRatioI_any _ _ _ _ _).mono ?_
        rintro e w6 ⟨rfl, hb6⟩
        have hkb : -1 ≤ cmpR n d p q ∧ cmpR n d p q ≤ 1 := by unfold cmpR cmpV; split <;> (try split) <;> (try split) <;> omega
        have KZ := Lib.hid (cmp_zero K1.out K2.out)
        have KW := Lib.hid (cmp_swap (n := n) (d := d) (p := p) (q := q))
        have KS := Lib.hid (sub_sign K1.out K2.out)
        generalize cmpR n d p q = kv at *
        clear x0 x1 x2 x3 x4 y0 y1 y2 y3 y4 z0 z1 z2 z3 z4 u0 u1 u2 u3 u4
        have F0 := Lib.hid (D0.out.keep hb6)
        have F1 := Lib.hid (D1.out.keep hb6)
        have L6 := Lib.hid (bT L4.out hb6)
        clear hb6 D0 D1
        obtain ⟨x0, x1, x2, x3, x4⟩ := F0.out
        obtain ⟨y0, y1, y2, y3, y4⟩ := F1.out
        go_wp2_with fail
        refine (SubRatioI_any _ _ _ _ _ a0 a1 (HS.out.keep L6.out)).mono ?_
        rintro e w7 ⟨rfl, hb7⟩
        rw [v_yes K1.out K2.out]
        obtain ⟨oe1, oe2, oe3⟩ := o_yes (addX n d (-p) q) (mulX d q)
        rw [oe1, oe2, oe3]
        clear oe1 oe2 oe3
        generalize rC (addX n d (-p) q) (mulX d q) = cd at *
        generalize rA (addX n d (-p) q) (mulX d q) = da at *
        generalize rB (addX n d (-p) q) (mulX d q) = db at *
        clear x0 x1 x2 x3 x4 y0 y1 y2 y3 y4
        have G0 := Lib.hid ((F0.out.keep hb7).alloc (.cells #[.int .i64 da, .int .i64 db] 25))
        have G1 := Lib.hid ((F1.out.keep hb7).alloc (.cells #[.int .i64 da, .int .i64 db] 25))
        have G2 := Lib.hid (Box2.new w7 da db 25)
        have L7 := Lib.hid (bA (bT L6.out hb7) (.cells #[.int .i64 da, .int .i64 db] 25))
        clear F0 F1 L6 hb7
        generalize hW7 : w7.alloc (.cells #[.int .i64 da, .int .i64 db] 25) = W7 at *
        generalize hbd : w7.heap.size = bd at *
        obtain ⟨x0, x1, x2, x3, x4⟩ := G0.out
        obtain ⟨y0, y1, y2, y3, y4⟩ := G1.out
        obtain ⟨z0, z1, z2, z3, z4⟩ := G2.out
        by_cases hcd : cd = 0
        · subst hcd
          have ks := KS.out (by trivial)
          have ks' : (0 < da) ↔ (0 < kv) := by simpa using ks
          clear KS ks
          by_cases hk0 : 0 < kv
          · have hda : 0 < da := ks'.2 hk0
            go_wp2_with fail
            try rw [hW7]
            refine (CompareRatioI_any _ _ _ _ _).mono ?_
            rintro e w8 ⟨rfl, hb8⟩
            rw [KW.out]
            clear KW hW7 hbd
            clear x0 x1 x2 x3 x4 y0 y1 y2 y3 y4 z0 z1 z2 z3 z4
            have H0 := Lib.hid (G0.out.keep hb8)
            have H1 := Lib.hid (G1.out.keep hb8)
            have L8 := Lib.hid (bT L7.out hb8)
            clear G0 G1 G2 L7 hb8
            obtain ⟨x0, x1, x2, x3, x4⟩ := H0.out
            obtain ⟨y0, y1, y2, y3, y4⟩ := H1.out
            by_cases hz : kv = 0
            · exact absurd hz (by omega)
            · have hz' : (kv == 0) = false := by simpa using hz
              by_cases e1 : n = p
              · have e2 : ¬ d = q := fun h => hz (KZ.out.2 ⟨e1, h⟩)
                have e2' : (d == q) = false := by simpa using e2
                clear KZ e2
                subst e1
                go_wp2_with fail
                refine (RatioTextI_any _ _ _ (Pow10.keep L8.out HP.out)).mono ?_
                rintro e w9 ⟨rfl, hb9⟩
                have TT := Lib.hid (show RrIs (txtR n d).data.toList n d true from .inl ⟨rfl, K1.out, (txt_tl K1.out).symm⟩)
                have TS := Lib.hid (txt_small (n := n) (d := d))
                generalize txtR n d = tx at *
                have I0 := Lib.hid (H0.out.keep hb9)
                have L9 := Lib.hid (bT L8.out hb9)
                clear H0 H1 L8 hb9 x0 x1 x2 x3 x4 y0 y1 y2 y3 y4
                go_wp2_with fail
                refine (ReadRatioI_any _ _ TS.out (Pow10.keep L9.out HP.out) (ErrVars.keep L9.out HE.out) (MLen.keep L9.out HM.out)).mono ?_
                rintro e w10 ⟨⟨rn, rd, rk, rfl, hrr⟩, hb10⟩
                obtain ⟨r1, r2, r3⟩ := RrIs.uniq TT.out hrr
                subst r1 r2 r3
                clear TT TS hrr
                have M3 := mk_three K1.out
                try rw [Int.mul_zero] at M3
                have M4 := Lib.hid M3
                clear M3
                obtain ⟨nb1, nb2, nb3, nb4⟩ := okR_bd K1.out
                have J0 := Lib.hid ((I0.out.keep hb10).alloc (.cells #[.int .i64 n, .int .i64 d] 25))
                have J2 := Lib.hid (Box2.new w10 n d 25)
                have L10 := Lib.hid (bA (bT L9.out hb10) (.cells #[.int .i64 n, .int .i64 d] 25))
                clear I0 L9 hb10
                generalize hW10 : w10.alloc (.cells #[.int .i64 n, .int .i64 d] 25) = W10 at *
                generalize hbr : w10.heap.size = br at *
                obtain ⟨x0, x1, x2, x3, x4⟩ := J0.out
                go_wp2_with fail
                try rw [hW10]
                clear hW10 hbr x0 x1 x2 x3 x4
                refine (MakeRatioI_any _ _ _ a0 a1 (HS.out.keep L10.out) (by omega) (by omega) (by omega) (by omega)).mono ?_
                rintro e w11 ⟨rfl, hb11⟩
                obtain ⟨m1, m2, m3⟩ := M4.out
                rw [m1, m2, m3]
                clear m1 m2 m3 M4
                have N0 := Lib.hid ((J0.out.keep hb11).alloc (.cells #[.int .i64 n, .int .i64 d] 25))
                have N1 := Lib.hid ((J2.out.keep hb11).alloc (.cells #[.int .i64 n, .int .i64 d] 25))
                have N2 := Lib.hid (Box2.new w11 n d 25)
                have L11 := Lib.hid (bA (bT L10.out hb11) (.cells #[.int .i64 n, .int .i64 d] 25))
                clear J0 J2 L10 hb11
                generalize hW11 : w11.alloc (.cells #[.int .i64 n, .int .i64 d] 25) = W11 at *
                generalize hbm : w11.heap.size = bm at *
                obtain ⟨x0, x1, x2, x3, x4⟩ := N0.out
                obtain ⟨y0, y1, y2, y3, y4⟩ := N1.out
                obtain ⟨z0, z1, z2, z3, z4⟩ := N2.out
                go_wp2_with fail
                try rw [hW11]
                go_ret
                exact ⟨rfl, by first | exact L11.out | (rw [hW11]; exact L11.out)⟩
              · have e1' : (n == p) = false := by simpa using e1
                clear KZ e1
                go_wp2_with fail
                refine (RatioTextI_any _ _ _ (Pow10.keep L8.out HP.out)).mono ?_
                rintro e w9 ⟨rfl, hb9⟩
                have TT := Lib.hid (show RrIs (txtR n d).data.toList n d true from .inl ⟨rfl, K1.out, (txt_tl K1.out).symm⟩)
                have TS := Lib.hid (txt_small (n := n) (d := d))
                generalize txtR n d = tx at *
                have I0 := Lib.hid (H0.out.keep hb9)
                have L9 := Lib.hid (bT L8.out hb9)
                clear H0 H1 L8 hb9 x0 x1 x2 x3 x4 y0 y1 y2 y3 y4
                go_wp2_with fail
                refine (ReadRatioI_any _ _ TS.out (Pow10.keep L9.out HP.out) (ErrVars.keep L9.out HE.out) (MLen.keep L9.out HM.out)).mono ?_
                rintro e w10 ⟨⟨rn, rd, rk, rfl, hrr⟩, hb10⟩
                obtain ⟨r1, r2, r3⟩ := RrIs.uniq TT.out hrr
                subst r1 r2 r3
                clear TT TS hrr
                have M3 := mk_three K1.out
                try rw [Int.mul_zero] at M3
                have M4 := Lib.hid M3
                clear M3
                obtain ⟨nb1, nb2, nb3, nb4⟩ := okR_bd K1.out
                have J0 := Lib.hid ((I0.out.keep hb10).alloc (.cells #[.int .i64 n, .int .i64 d] 25))
                have J2 := Lib.hid (Box2.new w10 n d 25)
                have L10 := Lib.hid (bA (bT L9.out hb10) (.cells #[.int .i64 n, .int .i64 d] 25))
                clear I0 L9 hb10
                generalize hW10 : w10.alloc (.cells #[.int .i64 n, .int .i64 d] 25) = W10 at *
                generalize hbr : w10.heap.size = br at *
                obtain ⟨x0, x1, x2, x3, x4⟩ := J0.out
                go_wp2_with fail
                try rw [hW10]
                clear hW10 hbr x0 x1 x2 x3 x4
                refine (MakeRatioI_any _ _ _ a0 a1 (HS.out.keep L10.out) (by omega) (by omega) (by omega) (by omega)).mono ?_
                rintro e w11 ⟨rfl, hb11⟩
                obtain ⟨m1, m2, m3⟩ := M4.out
                rw [m1, m2, m3]
                clear m1 m2 m3 M4
                have N0 := Lib.hid ((J0.out.keep hb11).alloc (.cells #[.int .i64 n, .int .i64 d] 25))
                have N1 := Lib.hid ((J2.out.keep hb11).alloc (.cells #[.int .i64 n, .int .i64 d] 25))
                have N2 := Lib.hid (Box2.new w11 n d 25)
                have L11 := Lib.hid (bA (bT L10.out hb11) (.cells #[.int .i64 n, .int .i64 d] 25))
                clear J0 J2 L10 hb11
                generalize hW11 : w11.alloc (.cells #[.int .i64 n, .int .i64 d] 25) = W11 at *
                generalize hbm : w11.heap.size = bm at *
                obtain ⟨x0, x1, x2, x3, x4⟩ := N0.out
                obtain ⟨y0, y1, y2, y3, y4⟩ := N1.out
                obtain ⟨z0, z1, z2, z3, z4⟩ := N2.out
                go_wp2_with fail
                try rw [hW11]
                go_ret
                exact ⟨rfl, by first | exact L11.out | (rw [hW11]; exact L11.out)⟩
          · have hda : ¬ 0 < da := fun h => hk0 (ks'.1 h)
            go_wp2_with fail
            try rw [hW7]
            refine (CompareRatioI_any _ _ _ _ _).mono ?_
            rintro e w8 ⟨rfl, hb8⟩
            rw [KW.out]
            clear KW hW7 hbd
            clear x0 x1 x2 x3 x4 y0 y1 y2 y3 y4 z0 z1 z2 z3 z4
            have H0 := Lib.hid (G0.out.keep hb8)
            have H1 := Lib.hid (G1.out.keep hb8)
            have L8 := Lib.hid (bT L7.out hb8)
            clear G0 G1 G2 L7 hb8
            obtain ⟨x0, x1, x2, x3, x4⟩ := H0.out
            obtain ⟨y0, y1, y2, y3, y4⟩ := H1.out
            by_cases hz : kv = 0
            · obtain ⟨e1, e2⟩ := KZ.out.1 hz
              clear KZ
              subst hz
              subst e1
              subst e2
              go_wp2_with fail
              refine (RatioTextI_any _ _ _ (Pow10.keep L8.out HP.out)).mono ?_
              rintro e w9 ⟨rfl, hb9⟩
              have TT := Lib.hid (show RrIs (txtR n d).data.toList n d true from .inl ⟨rfl, K1.out, (txt_tl K1.out).symm⟩)
              have TS := Lib.hid (txt_small (n := n) (d := d))
              generalize txtR n d = tx at *
              have I0 := Lib.hid (H0.out.keep hb9)
              have L9 := Lib.hid (bT L8.out hb9)
              clear H0 H1 L8 hb9 x0 x1 x2 x3 x4 y0 y1 y2 y3 y4
              go_wp2_with fail
              refine (ReadRatioI_any _ _ TS.out (Pow10.keep L9.out HP.out) (ErrVars.keep L9.out HE.out) (MLen.keep L9.out HM.out)).mono ?_
              rintro e w10 ⟨⟨rn, rd, rk, rfl, hrr⟩, hb10⟩
              obtain ⟨r1, r2, r3⟩ := RrIs.uniq TT.out hrr
              subst r1 r2 r3
              clear TT TS hrr
              have M3 := mk_three K1.out
              try rw [Int.mul_zero] at M3
              have M4 := Lib.hid M3
              clear M3
              obtain ⟨nb1, nb2, nb3, nb4⟩ := okR_bd K1.out
              have J0 := Lib.hid ((I0.out.keep hb10).alloc (.cells #[.int .i64 n, .int .i64 d] 25))
              have J2 := Lib.hid (Box2.new w10 n d 25)
              have L10 := Lib.hid (bA (bT L9.out hb10) (.cells #[.int .i64 n, .int .i64 d] 25))
              clear I0 L9 hb10
              generalize hW10 : w10.alloc (.cells #[.int .i64 n, .int .i64 d] 25) = W10 at *
              generalize hbr : w10.heap.size = br at *
              obtain ⟨x0, x1, x2, x3, x4⟩ := J0.out
              go_wp2_with fail
              try rw [hW10]
              clear hW10 hbr x0 x1 x2 x3 x4
              refine (MakeRatioI_any _ _ _ a0 a1 (HS.out.keep L10.out) (by omega) (by omega) (by omega) (by omega)).mono ?_
              rintro e w11 ⟨rfl, hb11⟩
              obtain ⟨m1, m2, m3⟩ := M4.out
              rw [m1, m2, m3]
              clear m1 m2 m3 M4
              have N0 := Lib.hid ((J0.out.keep hb11).alloc (.cells #[.int .i64 n, .int .i64 d] 25))
              have N1 := Lib.hid ((J2.out.keep hb11).alloc (.cells #[.int .i64 n, .int .i64 d] 25))
              have N2 := Lib.hid (Box2.new w11 n d 25)
              have L11 := Lib.hid (bA (bT L10.out hb11) (.cells #[.int .i64 n, .int .i64 d] 25))
              clear J0 J2 L10 hb11
              generalize hW11 : w11.alloc (.cells #[.int .i64 n, .int .i64 d] 25) = W11 at *
              generalize hbm : w11.heap.size = bm at *
              obtain ⟨x0, x1, x2, x3, x4⟩ := N0.out
              obtain ⟨y0, y1, y2, y3, y4⟩ := N1.out
              obtain ⟨z0, z1, z2, z3, z4⟩ := N2.out
              go_wp2_with fail
              try rw [hW11]
              go_ret
              exact ⟨rfl, by first | exact L11.out | (rw [hW11]; exact L11.out)⟩
            · have hz' : (kv == 0) = false := by simpa using hz
              by_cases e1 : n = p
              · have e2 : ¬ d = q := fun h => hz (KZ.out.2 ⟨e1, h⟩)
                have e2' : (d == q) = false := by simpa using e2
                clear KZ e2
                subst e1
                go_wp2_with fail
                refine (RatioTextI_any _ _ _ (Pow10.keep L8.out HP.out)).mono ?_
                rintro e w9 ⟨rfl, hb9⟩
                have TT := Lib.hid (show RrIs (txtR n d).data.toList n d true from .inl ⟨rfl, K1.out, (txt_tl K1.out).symm⟩)
                have TS := Lib.hid (txt_small (n := n) (d := d))
                generalize txtR n d = tx at *
                have I0 := Lib.hid (H0.out.keep hb9)
                have L9 := Lib.hid (bT L8.out hb9)
                clear H0 H1 L8 hb9 x0 x1 x2 x3 x4 y0 y1 y2 y3 y4
                go_wp2_with fail
                refine (ReadRatioI_any _ _ TS.out (Pow10.keep L9.out HP.out) (ErrVars.keep L9.out HE.out) (MLen.keep L9.out HM.out)).mono ?_
                rintro e w10 ⟨⟨rn, rd, rk, rfl, hrr⟩, hb10⟩
                obtain ⟨r1, r2, r3⟩ := RrIs.uniq TT.out hrr
                subst r1 r2 r3
                clear TT TS hrr
                have M3 := mk_three K1.out
                try rw [Int.mul_zero] at M3
                have M4 := Lib.hid M3
                clear M3
                obtain ⟨nb1, nb2, nb3, nb4⟩ := okR_bd K1.out
                have J0 := Lib.hid ((I0.out.keep hb10).alloc (.cells #[.int .i64 n, .int .i64 d] 25))
                have J2 := Lib.hid (Box2.new w10 n d 25)
                have L10 := Lib.hid (bA (bT L9.out hb10) (.cells #[.int .i64 n, .int .i64 d] 25))
                clear I0 L9 hb10
                generalize hW10 : w10.alloc (.cells #[.int .i64 n, .int .i64 d] 25) = W10 at *
                generalize hbr : w10.heap.size = br at *
                obtain ⟨x0, x1, x2, x3, x4⟩ := J0.out
                go_wp2_with fail
                try rw [hW10]
                clear hW10 hbr x0 x1 x2 x3 x4
                refine (MakeRatioI_any _ _ _ a0 a1 (HS.out.keep L10.out) (by omega) (by omega) (by omega) (by omega)).mono ?_
                rintro e w11 ⟨rfl, hb11⟩
                obtain ⟨m1, m2, m3⟩ := M4.out
                rw [m1, m2, m3]
                clear m1 m2 m3 M4
                have N0 := Lib.hid ((J0.out.keep hb11).alloc (.cells #[.int .i64 n, .int .i64 d] 25))
                have N1 := Lib.hid ((J2.out.keep hb11).alloc (.cells #[.int .i64 n, .int .i64 d] 25))
                have N2 := Lib.hid (Box2.new w11 n d 25)
                have L11 := Lib.hid (bA (bT L10.out hb11) (.cells #[.int .i64 n, .int .i64 d] 25))
                clear J0 J2 L10 hb11
                generalize hW11 : w11.alloc (.cells #[.int .i64 n, .int .i64 d] 25) = W11 at *
                generalize hbm : w11.heap.size = bm at *
                obtain ⟨x0, x1, x2, x3, x4⟩ := N0.out
                obtain ⟨y0, y1, y2, y3, y4⟩ := N1.out
                obtain ⟨z0, z1, z2, z3, z4⟩ := N2.out
                go_wp2_with fail
                try rw [hW11]
                go_ret
                exact ⟨rfl, by first | exact L11.out | (rw [hW11]; exact L11.out)⟩
              · have e1' : (n == p) = false := by simpa using e1
                clear KZ e1
                go_wp2_with fail
                refine (RatioTextI_any _ _ _ (Pow10.keep L8.out HP.out)).mono ?_
                rintro e w9 ⟨rfl, hb9⟩
                have TT := Lib.hid (show RrIs (txtR n d).data.toList n d true from .inl ⟨rfl, K1.out, (txt_tl K1.out).symm⟩)
                have TS := Lib.hid (txt_small (n := n) (d := d))
                generalize txtR n d = tx at *
                have I0 := Lib.hid (H0.out.keep hb9)
                have L9 := Lib.hid (bT L8.out hb9)
                clear H0 H1 L8 hb9 x0 x1 x2 x3 x4 y0 y1 y2 y3 y4
                go_wp2_with fail
                refine (ReadRatioI_any _ _ TS.out (Pow10.keep L9.out HP.out) (ErrVars.keep L9.out HE.out) (MLen.keep L9.out HM.out)).mono ?_
                rintro e w10 ⟨⟨rn, rd, rk, rfl, hrr⟩, hb10⟩
                obtain ⟨r1, r2, r3⟩ := RrIs.uniq TT.out hrr
                subst r1 r2 r3
                clear TT TS hrr
                have M3 := mk_three K1.out
                try rw [Int.mul_zero] at M3
                have M4 := Lib.hid M3
                clear M3
                obtain ⟨nb1, nb2, nb3, nb4⟩ := okR_bd K1.out
                have J0 := Lib.hid ((I0.out.keep hb10).alloc (.cells #[.int .i64 n, .int .i64 d] 25))
                have J2 := Lib.hid (Box2.new w10 n d 25)
                have L10 := Lib.hid (bA (bT L9.out hb10) (.cells #[.int .i64 n, .int .i64 d] 25))
                clear I0 L9 hb10
                generalize hW10 : w10.alloc (.cells #[.int .i64 n, .int .i64 d] 25) = W10 at *
                generalize hbr : w10.heap.size = br at *
                obtain ⟨x0, x1, x2, x3, x4⟩ := J0.out
                go_wp2_with fail
                try rw [hW10]
                clear hW10 hbr x0 x1 x2 x3 x4
                refine (MakeRatioI_any _ _ _ a0 a1 (HS.out.keep L10.out) (by omega) (by omega) (by omega) (by omega)).mono ?_
                rintro e w11 ⟨rfl, hb11⟩
                obtain ⟨m1, m2, m3⟩ := M4.out
                rw [m1, m2, m3]
                clear m1 m2 m3 M4
                have N0 := Lib.hid ((J0.out.keep hb11).alloc (.cells #[.int .i64 n, .int .i64 d] 25))
                have N1 := Lib.hid ((J2.out.keep hb11).alloc (.cells #[.int .i64 n, .int .i64 d] 25))
                have N2 := Lib.hid (Box2.new w11 n d 25)
                have L11 := Lib.hid (bA (bT L10.out hb11) (.cells #[.int .i64 n, .int .i64 d] 25))
                clear J0 J2 L10 hb11
                generalize hW11 : w11.alloc (.cells #[.int .i64 n, .int .i64 d] 25) = W11 at *
                generalize hbm : w11.heap.size = bm at *
                obtain ⟨x0, x1, x2, x3, x4⟩ := N0.out
                obtain ⟨y0, y1, y2, y3, y4⟩ := N1.out
                obtain ⟨z0, z1, z2, z3, z4⟩ := N2.out
                go_wp2_with fail
                try rw [hW11]
                go_ret
                exact ⟨rfl, by first | exact L11.out | (rw [hW11]; exact L11.out)⟩
        · have hcd' : (cd == 0) = false := by simpa using hcd
          clear KS hcd
          go_wp2_with fail
          try rw [hW7]
          refine (CompareRatioI_any _ _ _ _ _).mono ?_
          rintro e w8 ⟨rfl, hb8⟩
          rw [KW.out]
          clear KW hW7 hbd
          clear x0 x1 x2 x3 x4 y0 y1 y2 y3 y4 z0 z1 z2 z3 z4
          have H0 := Lib.hid (G0.out.keep hb8)
          have H1 := Lib.hid (G1.out.keep hb8)
          have L8 := Lib.hid (bT L7.out hb8)
          clear G0 G1 G2 L7 hb8
          obtain ⟨x0, x1, x2, x3, x4⟩ := H0.out
          obtain ⟨y0, y1, y2, y3, y4⟩ := H1.out
          by_cases hz : kv = 0
          · obtain ⟨e1, e2⟩ := KZ.out.1 hz
            clear KZ
            subst hz
            subst e1
            subst e2
            go_wp2_with fail
            refine (RatioTextI_any _ _ _ (Pow10.keep L8.out HP.out)).mono ?_
            rintro e w9 ⟨rfl, hb9⟩
            have TT := Lib.hid (show RrIs (txtR n d).data.toList n d true from .inl ⟨rfl, K1.out, (txt_tl K1.out).symm⟩)
            have TS := Lib.hid (txt_small (n := n) (d := d))
            generalize txtR n d = tx at *
            have I0 := Lib.hid (H0.out.keep hb9)
            have L9 := Lib.hid (bT L8.out hb9)
            clear H0 H1 L8 hb9 x0 x1 x2 x3 x4 y0 y1 y2 y3 y4
            go_wp2_with fail
            refine (ReadRatioI_any _ _ TS.out (Pow10.keep L9.out HP.out) (ErrVars.keep L9.out HE.out) (MLen.keep L9.out HM.out)).mono ?_
            rintro e w10 ⟨⟨rn, rd, rk, rfl, hrr⟩, hb10⟩
            obtain ⟨r1, r2, r3⟩ := RrIs.uniq TT.out hrr
            subst r1 r2 r3
            clear TT TS hrr
            have M3 := mk_three K1.out
            try rw [Int.mul_zero] at M3
            have M4 := Lib.hid M3
            clear M3
            obtain ⟨nb1, nb2, nb3, nb4⟩ := okR_bd K1.out
            have J0 := Lib.hid ((I0.out.keep hb10).alloc (.cells #[.int .i64 n, .int .i64 d] 25))
            have J2 := Lib.hid (Box2.new w10 n d 25)
            have L10 := Lib.hid (bA (bT L9.out hb10) (.cells #[.int .i64 n, .int .i64 d] 25))
            clear I0 L9 hb10
            generalize hW10 : w10.alloc (.cells #[.int .i64 n, .int .i64 d] 25) = W10 at *
            generalize hbr : w10.heap.size = br at *
            obtain ⟨x0, x1, x2, x3, x4⟩ := J0.out
            go_wp2_with fail
            try rw [hW10]
            clear hW10 hbr x0 x1 x2 x3 x4
            refine (MakeRatioI_any _ _ _ a0 a1 (HS.out.keep L10.out) (by omega) (by omega) (by omega) (by omega)).mono ?_
            rintro e w11 ⟨rfl, hb11⟩
            obtain ⟨m1, m2, m3⟩ := M4.out
            rw [m1, m2, m3]
            clear m1 m2 m3 M4
            have N0 := Lib.hid ((J0.out.keep hb11).alloc (.cells #[.int .i64 n, .int .i64 d] 25))
            have N1 := Lib.hid ((J2.out.keep hb11).alloc (.cells #[.int .i64 n, .int .i64 d] 25))
            have N2 := Lib.hid (Box2.new w11 n d 25)
            have L11 := Lib.hid (bA (bT L10.out hb11) (.cells #[.int .i64 n, .int .i64 d] 25))
            clear J0 J2 L10 hb11
            generalize hW11 : w11.alloc (.cells #[.int .i64 n, .int .i64 d] 25) = W11 at *
            generalize hbm : w11.heap.size = bm at *
            obtain ⟨x0, x1, x2, x3, x4⟩ := N0.out
            obtain ⟨y0, y1, y2, y3, y4⟩ := N1.out
            obtain ⟨z0, z1, z2, z3, z4⟩ := N2.out
            go_wp2_with fail
            try rw [hW11]
            go_ret
            exact ⟨rfl, by first | exact L11.out | (rw [hW11]; exact L11.out)⟩
          · have hz' : (kv == 0) = false := by simpa using hz
            by_cases e1 : n = p
            · have e2 : ¬ d = q := fun h => hz (KZ.out.2 ⟨e1, h⟩)
              have e2' : (d == q) = false := by simpa using e2
              clear KZ e2
              subst e1
              go_wp2_with fail
              refine (RatioTextI_any _ _ _ (Pow10.keep L8.out HP.out)).mono ?_
              rintro e w9 ⟨rfl, hb9⟩
              have TT := Lib.hid (show RrIs (txtR n d).data.toList n d true from .inl ⟨rfl, K1.out, (txt_tl K1.out).symm⟩)
              have TS := Lib.hid (txt_small (n := n) (d := d))
              generalize txtR n d = tx at *
              have I0 := Lib.hid (H0.out.keep hb9)
              have L9 := Lib.hid (bT L8.out hb9)
              clear H0 H1 L8 hb9 x0 x1 x2 x3 x4 y0 y1 y2 y3 y4
              go_wp2_with fail
              refine (ReadRatioI_any _ _ TS.out (Pow10.keep L9.out HP.out) (ErrVars.keep L9.out HE.out) (MLen.keep L9.out HM.out)).mono ?_
              rintro e w10 ⟨⟨rn, rd, rk, rfl, hrr⟩, hb10⟩
              obtain ⟨r1, r2, r3⟩ := RrIs.uniq TT.out hrr
              subst r1 r2 r3
              clear TT TS hrr
              have M3 := mk_three K1.out
              try rw [Int.mul_zero] at M3
              have M4 := Lib.hid M3
              clear M3
              obtain ⟨nb1, nb2, nb3, nb4⟩ := okR_bd K1.out
              have J0 := Lib.hid ((I0.out.keep hb10).alloc (.cells #[.int .i64 n, .int .i64 d] 25))
              have J2 := Lib.hid (Box2.new w10 n d 25)
              have L10 := Lib.hid (bA (bT L9.out hb10) (.cells #[.int .i64 n, .int .i64 d] 25))
              clear I0 L9 hb10
              generalize hW10 : w10.alloc (.cells #[.int .i64 n, .int .i64 d] 25) = W10 at *
              generalize hbr : w10.heap.size = br at *
              obtain ⟨x0, x1, x2, x3, x4⟩ := J0.out
              go_wp2_with fail
              try rw [hW10]
              clear hW10 hbr x0 x1 x2 x3 x4
              refine (MakeRatioI_any _ _ _ a0 a1 (HS.out.keep L10.out) (by omega) (by omega) (by omega) (by omega)).mono ?_
              rintro e w11 ⟨rfl, hb11⟩
              obtain ⟨m1, m2, m3⟩ := M4.out
              rw [m1, m2, m3]
              clear m1 m2 m3 M4
              have N0 := Lib.hid ((J0.out.keep hb11).alloc (.cells #[.int .i64 n, .int .i64 d] 25))
              have N1 := Lib.hid ((J2.out.keep hb11).alloc (.cells #[.int .i64 n, .int .i64 d] 25))
              have N2 := Lib.hid (Box2.new w11 n d 25)
              have L11 := Lib.hid (bA (bT L10.out hb11) (.cells #[.int .i64 n, .int .i64 d] 25))
              clear J0 J2 L10 hb11
              generalize hW11 : w11.alloc (.cells #[.int .i64 n, .int .i64 d] 25) = W11 at *
              generalize hbm : w11.heap.size = bm at *
              obtain ⟨x0, x1, x2, x3, x4⟩ := N0.out
              obtain ⟨y0, y1, y2, y3, y4⟩ := N1.out
              obtain ⟨z0, z1, z2, z3, z4⟩ := N2.out
              go_wp2_with fail
              try rw [hW11]
              go_ret
              exact ⟨rfl, by first | exact L11.out | (rw [hW11]; exact L11.out)⟩
            · have e1' : (n == p) = false := by simpa using e1
              clear KZ e1
              go_wp2_with fail
              refine (RatioTextI_any _ _ _ (Pow10.keep L8.out HP.out)).mono ?_
              rintro e w9 ⟨rfl, hb9⟩
              have TT := Lib.hid (show RrIs (txtR n d).data.toList n d true from .inl ⟨rfl, K1.out, (txt_tl K1.out).symm⟩)
              have TS := Lib.hid (txt_small (n := n) (d := d))
              generalize txtR n d = tx at *
              have I0 := Lib.hid (H0.out.keep hb9)
              have L9 := Lib.hid (bT L8.out hb9)
              clear H0 H1 L8 hb9 x0 x1 x2 x3 x4 y0 y1 y2 y3 y4
              go_wp2_with fail
              refine (ReadRatioI_any _ _ TS.out (Pow10.keep L9.out HP.out) (ErrVars.keep L9.out HE.out) (MLen.keep L9.out HM.out)).mono ?_
              rintro e w10 ⟨⟨rn, rd, rk, rfl, hrr⟩, hb10⟩
              obtain ⟨r1, r2, r3⟩ := RrIs.uniq TT.out hrr
              subst r1 r2 r3
              clear TT TS hrr
              have M3 := mk_three K1.out
              try rw [Int.mul_zero] at M3
              have M4 := Lib.hid M3
              clear M3
              obtain ⟨nb1, nb2, nb3, nb4⟩ := okR_bd K1.out
              have J0 := Lib.hid ((I0.out.keep hb10).alloc (.cells #[.int .i64 n, .int .i64 d] 25))
              have J2 := Lib.hid (Box2.new w10 n d 25)
              have L10 := Lib.hid (bA (bT L9.out hb10) (.cells #[.int .i64 n, .int .i64 d] 25))
              clear I0 L9 hb10
              generalize hW10 : w10.alloc (.cells #[.int .i64 n, .int .i64 d] 25) = W10 at *
              generalize hbr : w10.heap.size = br at *
              obtain ⟨x0, x1, x2, x3, x4⟩ := J0.out
              go_wp2_with fail
              try rw [hW10]
              clear hW10 hbr x0 x1 x2 x3 x4
              refine (MakeRatioI_any _ _ _ a0 a1 (HS.out.keep L10.out) (by omega) (by omega) (by omega) (by omega)).mono ?_
              rintro e w11 ⟨rfl, hb11⟩
              obtain ⟨m1, m2, m3⟩ := M4.out
              rw [m1, m2, m3]
              clear m1 m2 m3 M4
              have N0 := Lib.hid ((J0.out.keep hb11).alloc (.cells #[.int .i64 n, .int .i64 d] 25))
              have N1 := Lib.hid ((J2.out.keep hb11).alloc (.cells #[.int .i64 n, .int .i64 d] 25))
              have N2 := Lib.hid (Box2.new w11 n d 25)
              have L11 := Lib.hid (bA (bT L10.out hb11) (.cells #[.int .i64 n, .int .i64 d] 25))
              clear J0 J2 L10 hb11
              generalize hW11 : w11.alloc (.cells #[.int .i64 n, .int .i64 d] 25) = W11 at *
              generalize hbm : w11.heap.size = bm at *
              obtain ⟨x0, x1, x2, x3, x4⟩ := N0.out
              obtain ⟨y0, y1, y2, y3, y4⟩ := N1.out
              obtain ⟨z0, z1, z2, z3, z4⟩ := N2.out
              go_wp2_with fail
              try rw [hW11]
              go_ret
              exact ⟨rfl, by first | exact L11.out | (rw [hW11]; exact L11.out)⟩
end Go.Proofs.YtjacjjenlokogaaDoor

/-
  The speed of the carrier in the model: the contract of spec.CarrierOf.
-/
import Derived.Test.YtcklcledchboiaaDoorCar
namespace Go.Proofs.YtcklcledchboiaaDoor
open Go.RowKit

theorem l02Make_teeth {a b : Int} (h1 : 1 ≤ a) (h2 : a ≤ 1000) (h3 : 1 ≤ b) (h4 : b ≤ 1000) (W : World) :
    Calls Tryd.prog 75 #[.int .i64 a, .int .i64 b] W fun e w' => e = .returned (.tuple #[.agg #[.int .i64 (rA a b), .int .i64 (rB a b)], .bool true]) ∧ Below W.heap.size W w' := by
  have hl := low_small h1 h2 h3 h4
  have hb : b ≠ 0 := by omega
  have := l02Make_any a b W hb (by omega) (by omega) (by omega) (by omega)
  rw [hl] at this
  simp only [rA, rB, if_neg hb]
  exact this
set_option maxRecDepth 100000 in
set_option maxHeartbeats 8000000 in
theorem CarrierOfS_any (s r p c a b u v : Int) (w : World) :
    Calls Tryd.prog 36 #[.agg #[.int .i64 s, .int .i64 r, .int .i64 p, .int .i64 c], .agg #[.int .i64 a, .int .i64 b], .agg #[.int .i64 u, .int .i64 v]] w (RatC3 w (ca3 s r p c a b u v)) := by
  have D0 := Lib.hid (SpE.start w s r p c a b u v 25 27)
  have VE := Lib.hid (fun W => l07Ok_any s r p c W)
  have VA := Lib.hid (fun W => l02Ok_any a b W)
  have VU := Lib.hid (fun W => l02Ok_any u v W)
  cases h1 : okE s r p c
  · have EQ := Lib.hid (show ca3 s r p c a b u v = (0, 0, 1) from pick3_no _ (by simp [h1]))
    rw [h1] at VE
    clear h1
    rw [EQ.out]
    go_enter Tryd.func36, Tryd.ntmps36
    go_wp2_with fail
    generalize (((w.alloc (.cells #[.int .i64 s, .int .i64 r, .int .i64 p, .int .i64 c] 25)).alloc (.cells #[.int .i64 a, .int .i64 b] 27)).alloc (.cells #[.int .i64 u, .int .i64 v] 27)).alloc (.cells #[.int .i64 0, .int .i64 0] 27) = W0 at *
    generalize hk : w.heap.size = k at *
    have hle : w.heap.size ≤ k + 1 + 1 + 1 := by omega
    refine (VE.out _).mono ?_
    rintro e w1 ⟨rfl, hb⟩
    have D1 := Lib.hid (D0.out.keep hb)
    clear hb
    obtain ⟨y0, y1, _, _, _⟩ := D1.out.a
    obtain ⟨z0, z1, z2, z3, z4⟩ := D1.out.r
    go_wp2_with fail
    refine bodyPost_ret (v := .tuple #[.agg #[.int .i64 0, .int .i64 0], .int .i64 1]) ?_ rfl ⟨rfl, (D1.out.l.setCell hle _).setCell hle _⟩
    simp [results, Tryd.results36, go_sem, z0, z1]
  · cases h2 : okR a b
    · have EQ := Lib.hid (show ca3 s r p c a b u v = (0, 0, 1) from pick3_no _ (by simp [h2]))
      rw [h1] at VE
      rw [h2] at VA
      clear h1 h2
      rw [EQ.out]
      go_enter Tryd.func36, Tryd.ntmps36
      go_wp2_with fail
      generalize (((w.alloc (.cells #[.int .i64 s, .int .i64 r, .int .i64 p, .int .i64 c] 25)).alloc (.cells #[.int .i64 a, .int .i64 b] 27)).alloc (.cells #[.int .i64 u, .int .i64 v] 27)).alloc (.cells #[.int .i64 0, .int .i64 0] 27) = W0 at *
      generalize hk : w.heap.size = k at *
      have hle : w.heap.size ≤ k + 1 + 1 + 1 := by omega
      refine (VE.out _).mono ?_
      rintro e w1 ⟨rfl, hb⟩
      have D1 := Lib.hid (D0.out.keep hb)
      clear hb
      obtain ⟨y0, y1, _, _, _⟩ := D1.out.a
      obtain ⟨z0, z1, z2, z3, z4⟩ := D1.out.r
      go_wp2_with fail
      refine (VA.out _).mono ?_
      rintro e w2 ⟨rfl, hb⟩
      have D2 := Lib.hid (D1.out.keep hb)
      clear hb y0 y1 z0 z1 z2 z3 z4
      obtain ⟨y0, y1, _, _, _⟩ := D2.out.u
      obtain ⟨z0, z1, z2, z3, z4⟩ := D2.out.r
      go_wp2_with fail
      refine bodyPost_ret (v := .tuple #[.agg #[.int .i64 0, .int .i64 0], .int .i64 1]) ?_ rfl ⟨rfl, (D2.out.l.setCell hle _).setCell hle _⟩
      simp [results, Tryd.results36, go_sem, z0, z1]
    · cases h3 : okR u v
      · have EQ := Lib.hid (show ca3 s r p c a b u v = (0, 0, 1) from pick3_no _ (by simp [h3]))
        rw [h1] at VE
        rw [h2] at VA
        rw [h3] at VU
        clear h1 h2 h3
        rw [EQ.out]
        go_enter Tryd.func36, Tryd.ntmps36
        go_wp2_with fail
        generalize (((w.alloc (.cells #[.int .i64 s, .int .i64 r, .int .i64 p, .int .i64 c] 25)).alloc (.cells #[.int .i64 a, .int .i64 b] 27)).alloc (.cells #[.int .i64 u, .int .i64 v] 27)).alloc (.cells #[.int .i64 0, .int .i64 0] 27) = W0 at *
        generalize hk : w.heap.size = k at *
        have hle : w.heap.size ≤ k + 1 + 1 + 1 := by omega
        refine (VE.out _).mono ?_
        rintro e w1 ⟨rfl, hb⟩
        have D1 := Lib.hid (D0.out.keep hb)
        clear hb
        obtain ⟨y0, y1, _, _, _⟩ := D1.out.a
        obtain ⟨z0, z1, z2, z3, z4⟩ := D1.out.r
        go_wp2_with fail
        refine (VA.out _).mono ?_
        rintro e w2 ⟨rfl, hb⟩
        have D2 := Lib.hid (D1.out.keep hb)
        clear hb y0 y1 z0 z1 z2 z3 z4
        obtain ⟨y0, y1, _, _, _⟩ := D2.out.u
        obtain ⟨z0, z1, z2, z3, z4⟩ := D2.out.r
        go_wp2_with fail
        refine (VU.out _).mono ?_
        rintro e w3 ⟨rfl, hb⟩
        have D3 := Lib.hid (D2.out.keep hb)
        clear hb y0 y1 z0 z1 z2 z3 z4 D0 D1 D2
        obtain ⟨z0, z1, z2, z3, z4⟩ := D3.out.r
        go_wp2_with fail
        refine bodyPost_ret (v := .tuple #[.agg #[.int .i64 0, .int .i64 0], .int .i64 1]) ?_ rfl ⟨rfl, (D3.out.l.setCell hle _).setCell hle _⟩
        simp [results, Tryd.results36, go_sem, z0, z1]
      · obtain ⟨⟨t1, t2⟩, ⟨t3, t4⟩, _⟩ := okE_bd h1
        have MK1 := Lib.hid (fun W => l02Make_teeth (a := s) (b := s + r) (by omega) (by omega) (by omega) (by omega) W)
        have MK2 := Lib.hid (fun W => l02Make_teeth (a := r) (b := s + r) (by omega) (by omega) (by omega) (by omega) W)
        have q1 : IntKind.i64.wrap (s + r) = s + r := IntWalk.i64_in _ (by omega)
        have g1 : okR (rA s (s + r)) (rB s (s + r)) = true := teeth_ok (by omega) (by omega) (by omega) (by omega)
        have g2 : okR (rA r (s + r)) (rB r (s + r)) = true := teeth_ok (by omega) (by omega) (by omega) (by omega)
        have SG := Lib.hid (show ca3 s r p c a b u v = bind3 (mu3 a b (rA s (s + r)) (rB s (s + r))) fun x y => bind3 (mu3 u v (rA r (s + r)) (rB r (s + r))) fun x2 y2 => ad3 x y x2 y2 by simp [ca3, h1, h2, h3])
        have HX := Lib.hid (mu_make h2 g1)
        have HY := Lib.hid (mu_make h3 g2)
        have KX := Lib.hid (mk_ok h2 g1)
        have KY := Lib.hid (mk_ok h3 g2)
        obtain ⟨e1, e2, e3, e4⟩ := okR_bd h2
        obtain ⟨f1, f2, f3, f4⟩ := okR_bd h3
        obtain ⟨i1, i2, i3, i4⟩ := okR_bd g1
        obtain ⟨j1, j2, j3, j4⟩ := okR_bd g2
        have M1 := Lib.hid (fun W => l02Mul_any a b (rA s (s + r)) (rB s (s + r)) W e3 e4 e1 e2 i3 i4 i1 i2)
        have M2 := Lib.hid (fun W => l02Mul_any u v (rA r (s + r)) (rB r (s + r)) W f3 f4 f1 f2 j3 j4 j1 j2)
        rw [h1] at VE
        rw [h2] at VA
        rw [h3] at VU
        clear h1 h2 h3 t1 t2 t3 t4 e1 e2 e3 e4 f1 f2 f3 f4 i1 i2 i3 i4 j1 j2 j3 j4 g1 g2
        generalize rA s (s + r) = m at *
        generalize rB s (s + r) = n at *
        generalize rA r (s + r) = m2 at *
        generalize rB r (s + r) = n2 at *
        generalize mkA (mulX a m) (mulX b n) = x at *
        generalize mkB (mulX a m) (mulX b n) = y at *
        generalize lowOk (mulX a m) (mulX b n) = ok1 at *
        generalize mkA (mulX u m2) (mulX v n2) = x2 at *
        generalize mkB (mulX u m2) (mulX v n2) = y2 at *
        generalize lowOk (mulX u m2) (mulX v n2) = ok2 at *
        go_enter Tryd.func36, Tryd.ntmps36
        go_wp2_with fail
        generalize (((w.alloc (.cells #[.int .i64 s, .int .i64 r, .int .i64 p, .int .i64 c] 25)).alloc (.cells #[.int .i64 a, .int .i64 b] 27)).alloc (.cells #[.int .i64 u, .int .i64 v] 27)).alloc (.cells #[.int .i64 0, .int .i64 0] 27) = W0 at *
        generalize hk : w.heap.size = k at *
        have hle : w.heap.size ≤ k + 1 + 1 + 1 := by omega
        refine (VE.out _).mono ?_
        rintro e w1 ⟨rfl, hb⟩
        have D1 := Lib.hid (D0.out.keep hb)
        clear hb
        obtain ⟨y0, y1, _, _, _⟩ := D1.out.a
        obtain ⟨z0, z1, z2, z3, z4⟩ := D1.out.r
        go_wp2_with fail
        refine (VA.out _).mono ?_
        rintro e w2 ⟨rfl, hb⟩
        have D2 := Lib.hid (D1.out.keep hb)
        clear hb y0 y1 z0 z1 z2 z3 z4
        obtain ⟨y0, y1, _, _, _⟩ := D2.out.u
        obtain ⟨z0, z1, z2, z3, z4⟩ := D2.out.r
        go_wp2_with fail
        refine (VU.out _).mono ?_
        rintro e w3 ⟨rfl, hb⟩
        have D3 := Lib.hid (D2.out.keep hb)
        clear hb y0 y1 z0 z1 z2 z3 z4 D0 D1 D2
        obtain ⟨z0, z1, z2, z3, z4⟩ := D3.out.r
        obtain ⟨b0, b1, _, _, _⟩ := D3.out.e
        clear z0 z1 z2 z3 z4
        go_wp2_with fail
        refine (MK1.out _).mono ?_
        rintro e w4 ⟨rfl, hb⟩
        have D4 := Lib.hid (D3.out.keep (bA hb (.cells #[.int .i64 m, .int .i64 n] 27)))
        have N8 := Lib.hid (Box2.new w4 m n 27)
        clear hb
        obtain ⟨b2, b3, _, _, _⟩ := D4.out.e
        clear b0 b1
        go_wp2_with fail
        refine (MK2.out _).mono ?_
        rintro e w5 ⟨rfl, hb⟩
        have D5 := Lib.hid (D4.out.keep (bA hb (.cells #[.int .i64 m2, .int .i64 n2] 27)))
        have N10 := Lib.hid (Box2.new w5 m2 n2 27)
        have N8 := Lib.hid (N8.out.keep (bA hb (.cells #[.int .i64 m2, .int .i64 n2] 27)))
        clear hb
        obtain ⟨b0, b1, _, _, _⟩ := D5.out.a
        obtain ⟨i0, i1, _, _, _⟩ := N8.out
        clear b2 b3
        go_wp2_with fail
        refine (M1.out _).mono ?_
        rintro e w6 ⟨rfl, hb⟩
        have D6 := Lib.hid (D5.out.keep (bA hb (.cells #[.int .i64 x, .int .i64 y] 27)))
        have N12 := Lib.hid (Box2.new w6 x y 27)
        have N8 := Lib.hid (N8.out.keep (bA hb (.cells #[.int .i64 x, .int .i64 y] 27)))
        have N10 := Lib.hid (N10.out.keep (bA hb (.cells #[.int .i64 x, .int .i64 y] 27)))
        clear hb
        obtain ⟨b2, b3, _, _, _⟩ := D6.out.u
        obtain ⟨j0, j1, _, _, _⟩ := N10.out
        clear b0 b1 i0 i1
        go_wp2_with fail
        refine (M2.out _).mono ?_
        rintro e w7 ⟨rfl, hb⟩
        have D7 := Lib.hid (D6.out.keep (bA hb (.cells #[.int .i64 x2, .int .i64 y2] 27)))
        have N14 := Lib.hid (Box2.new w7 x2 y2 27)
        have N12 := Lib.hid (N12.out.keep (bA hb (.cells #[.int .i64 x2, .int .i64 y2] 27)))
        clear hb
        clear b2 b3 j0 j1
        cases ok1
        · have EQ := Lib.hid (show ca3 s r p c a b u v = (0, 0, 2) from SG.out.trans (bind3_no (f := fun x y => bind3 (mu3 u v m2 n2) fun x2 y2 => ad3 x y x2 y2) (HX.out.trans (if_neg (by simp))) (by decide)))
          go_upto_region 8 with fail
          obtain ⟨z0, z1, z2, z3, z4⟩ := D7.out.r
          generalize w7.alloc (.cells #[.int .i64 x2, .int .i64 y2] 27) = W7 at *
          go_wp2_with fail
          rw [EQ.out]
          refine bodyPost_ret (v := .tuple #[.agg #[.int .i64 0, .int .i64 0], .int .i64 2]) ?_ rfl ⟨rfl, (D7.out.l.setCell hle _).setCell hle _⟩
          simp [results, Tryd.results36, go_sem, z0, z1]
        · have EQ1 := Lib.hid (show ca3 s r p c a b u v = bind3 (mu3 u v m2 n2) fun x2 y2 => ad3 x y x2 y2 from SG.out.trans (bind3_go (f := fun x y => bind3 (mu3 u v m2 n2) fun x2 y2 => ad3 x y x2 y2) (HX.out.trans (if_pos rfl)) rfl))
          cases ok2
          · have EQ := Lib.hid (show ca3 s r p c a b u v = (0, 0, 2) from EQ1.out.trans (bind3_no (f := fun x2 y2 => ad3 x y x2 y2) (HY.out.trans (if_neg (by simp))) (by decide)))
            go_upto_region 8 with fail
            obtain ⟨z0, z1, z2, z3, z4⟩ := D7.out.r
            generalize w7.alloc (.cells #[.int .i64 x2, .int .i64 y2] 27) = W7 at *
            go_wp2_with fail
            rw [EQ.out]
            refine bodyPost_ret (v := .tuple #[.agg #[.int .i64 0, .int .i64 0], .int .i64 2]) ?_ rfl ⟨rfl, (D7.out.l.setCell hle _).setCell hle _⟩
            simp [results, Tryd.results36, go_sem, z0, z1]
          · have EQ := Lib.hid (show ca3 s r p c a b u v = ad3 x y x2 y2 from EQ1.out.trans (bind3_go (f := fun x2 y2 => ad3 x y x2 y2) (HY.out.trans (if_pos rfl)) rfl))
            obtain ⟨e1, e2, e3, e4⟩ := okR_bd (KX.out rfl)
            obtain ⟨f1, f2, f3, f4⟩ := okR_bd (KY.out rfl)
            have AD := Lib.hid (fun W => l02Add_any x y x2 y2 W e3 e4 e1 e2 f3 f4 f1 f2)
            have EZ := Lib.hid (EQ.out.trans (ad_make2 (KX.out rfl) (KY.out rfl)))
            clear e1 e2 e3 e4 f1 f2 f3 f4 EQ EQ1 KX KY
            generalize mkA (addX x y x2 y2) (mulX y y2) = x3 at *
            generalize mkB (addX x y x2 y2) (mulX y y2) = y3 at *
            generalize lowOk (addX x y x2 y2) (mulX y y2) = ok3 at *
            cases ok3
            · have EW := Lib.hid (show ca3 s r p c a b u v = (0, 0, 2) from EZ.out.trans (by simp))
              have LC := Lib.hid (fun W => l02Code_any x3 y3 false W)
              simp only [if_false, Bool.false_eq_true] at LC
              go_upto_region 9 with fail
              obtain ⟨i0, i1, _, _, _⟩ := N12.out
              obtain ⟨j0, j1, _, _, _⟩ := N14.out
              generalize w7.alloc (.cells #[.int .i64 x2, .int .i64 y2] 27) = W7 at *
              go_wp2_with fail
              refine (AD.out _).mono ?_
              rintro e w8 ⟨rfl, hb⟩
              have D8 := Lib.hid (D7.out.keep hb)
              clear hb i0 i1 j0 j1
              go_wp2_with fail
              refine (LC.out _).mono ?_
              rintro e w9 ⟨rfl, hb⟩
              have D9 := Lib.hid (D8.out.keep hb)
              clear hb
              obtain ⟨z0, z1, z2, z3, z4⟩ := D9.out.r
              go_wp2_with fail
              rw [EW.out]
              refine bodyPost_ret (v := .tuple #[.agg #[.int .i64 0, .int .i64 0], .int .i64 2]) ?_ rfl ⟨rfl, (D9.out.l.setCell hle _).setCell hle _⟩
              simp [results, Tryd.results36, go_sem, z0, z1]
            · have EW := Lib.hid (show ca3 s r p c a b u v = (x3, y3, 0) from EZ.out.trans (by simp))
              have LC := Lib.hid (fun W => l02Code_any x3 y3 true W)
              simp only [if_true] at LC
              go_upto_region 9 with fail
              obtain ⟨i0, i1, _, _, _⟩ := N12.out
              obtain ⟨j0, j1, _, _, _⟩ := N14.out
              generalize w7.alloc (.cells #[.int .i64 x2, .int .i64 y2] 27) = W7 at *
              go_wp2_with fail
              refine (AD.out _).mono ?_
              rintro e w8 ⟨rfl, hb⟩
              have D8 := Lib.hid (D7.out.keep hb)
              clear hb i0 i1 j0 j1
              go_wp2_with fail
              refine (LC.out _).mono ?_
              rintro e w9 ⟨rfl, hb⟩
              have D9 := Lib.hid (D8.out.keep hb)
              clear hb
              obtain ⟨z0, z1, z2, z3, z4⟩ := D9.out.r
              go_wp2_with fail
              rw [EW.out]
              refine bodyPost_ret (v := .tuple #[.agg #[.int .i64 x3, .int .i64 y3], .int .i64 0]) ?_ rfl ⟨rfl, (D9.out.l.setCell hle _).setCell hle _⟩
              simp [results, Tryd.results36, go_sem, z0, z1]
end Go.Proofs.YtcklcledchboiaaDoor

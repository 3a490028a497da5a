/-
  The contract of impl.SimplestBetween.
-/
import Derived.Test.YthnfkkfonabhkaaSmpI
import Derived.Deep.RegionWith
namespace Go.Proofs.Ythnfkkfonabhkaa
open Go.RowKit

/-- Two ratios lie in the boxes of a call, and an empty one behind them; what lay below stands. -/
def Tri (w : World) (n d p q : Int) (w' : World) : Prop :=
  w'.cell? ⟨w.heap.size, 0, none⟩ = some (.int .i64 n) ∧ w'.cell? ⟨w.heap.size, 1, none⟩ = some (.int .i64 d) ∧ w'.cell? ⟨w.heap.size + 1, 0, none⟩ = some (.int .i64 p) ∧ w'.cell? ⟨w.heap.size + 1, 1, none⟩ = some (.int .i64 q) ∧
  w'.cell? ⟨w.heap.size + 1 + 1, 0, none⟩ = some (.int .i64 0) ∧ w'.cell? ⟨w.heap.size + 1 + 1, 1, none⟩ = some (.int .i64 0) ∧ w'.frozen? ⟨w.heap.size + 1 + 1, 0, none⟩ = false ∧ w'.frozen? ⟨w.heap.size + 1 + 1, 1, none⟩ = false ∧ w.heap.size + 1 + 1 < w'.heap.size ∧ Below w.heap.size w w'
theorem Tri.of {w w' : World} {n d p q : Int} (a : Box2 w' w.heap.size n d) (b : Box2 w' (w.heap.size + 1) p q) (c : Box2 w' (w.heap.size + 1 + 1) 0 0) (h : Below w.heap.size w w') : Tri w n d p q w' := ⟨a.c0, a.c1, b.c0, b.c1, c.c0, c.c1, c.f0, c.f1, c.lt, h⟩
theorem Tri.drew {w w' : World} {n d p q : Int} (h : Tri w n d p q w') : Tri w n d p q w'.drew := by
  obtain ⟨h1, h2, h3, h4, h5, h6, h7, h8, h9, h10⟩ := h
  exact ⟨h1, h2, h3, h4, h5, h6, h7, h8, h9, h10.drew⟩
theorem Tri.keep {w x y : World} {n d p q : Int} (hb : Below x.heap.size x y) (h : Tri w n d p q x) : Tri w n d p q y := by
  obtain ⟨h1, h2, h3, h4, h5, h6, h7, h8, h9, h10⟩ := h
  exact ⟨(hb.cell (p := ⟨w.heap.size, 0, none⟩) (by simp; omega)).trans h1, (hb.cell (p := ⟨w.heap.size, 1, none⟩) (by simp; omega)).trans h2, (hb.cell (p := ⟨w.heap.size + 1, 0, none⟩) (by simp; omega)).trans h3, (hb.cell (p := ⟨w.heap.size + 1, 1, none⟩) (by simp; omega)).trans h4,
    (hb.cell (p := ⟨w.heap.size + 1 + 1, 0, none⟩) h9).trans h5, (hb.cell (p := ⟨w.heap.size + 1 + 1, 1, none⟩) h9).trans h6, (hb.frozen (p := ⟨w.heap.size + 1 + 1, 0, none⟩) h9).trans h7, (hb.frozen (p := ⟨w.heap.size + 1 + 1, 1, none⟩) h9).trans h8, by have := hb.size; omega, bT h10 hb⟩
def SbPost (w : World) (n d p q : Int) (e : Ending) (w' : World) : Prop := e = .returned (.tuple #[.agg #[.int .i64 (sbA n d p q), .int .i64 (sbB n d p q)], .int .i64 (sbC n d p q)]) ∧ Below w.heap.size w w'
theorem cmpR_gt {n d p q : Int} (h1 : okR n d = true) (h2 : okR p q = true) (h : p * d < n * q) : 0 < cmpR n d p q := by rw [← cmpR_yes h1 h2, ← cmpV_gt h]; decide
theorem cmpR_le {n d p q : Int} (h1 : okR n d = true) (h2 : okR p q = true) (h : n * q ≤ p * d) : ¬ 0 < cmpR n d p q := by rw [← cmpR_yes h1 h2]; exact (cmpV_le h).2
set_option maxHeartbeats 1000000 in
theorem sbI_no1 (n d p q : Int) (w : World) (h1 : okR n d = false) :
    Calls Try.prog 35 #[.agg #[.int .i64 n, .int .i64 d], .agg #[.int .i64 p, .int .i64 q]] w (SbPost w n d p q) := by
    have B0 := Lib.hid (three_box w n d p q 0 0 25)
    have H := Lib.hid (sb_no1 (p := p) (q := q) h1)
    go_enter Try.func35, Try.ntmps35
    go_wp2_with fail
    generalize ((w.alloc (.cells #[.int .i64 n, .int .i64 d] 25)).alloc (.cells #[.int .i64 p, .int .i64 q] 25)).alloc (.cells #[.int .i64 0, .int .i64 0] 25) = W0 at *
    obtain ⟨A0, A1, A2, A3⟩ := B0.out
    refine (valid_any _ _ _).mono ?_
    rintro e w1 ⟨rfl, hb1⟩
    have C0 := Lib.hid (A0.keep hb1)
    have C1 := Lib.hid (A1.keep hb1)
    have C2 := Lib.hid (A2.keep hb1)
    have C3 := Lib.hid (bT A3 hb1)
    clear B0 A0 A1 A2 A3 hb1
    obtain ⟨r0, r1, r2, r3, r4⟩ := C2.out
    go_wp2_with fail
    refine bodyPost_ret (v := .tuple #[.agg #[.int .i64 0, .int .i64 0], .int .i64 1]) ?_ rfl ⟨ret_rc H.out.1.symm H.out.2.1.symm H.out.2.2.symm, (C3.out.setCell (by simp; omega) _).setCell (by simp; omega) _⟩
    simp [results, Try.results35, go_sem, r0, r1]
set_option maxHeartbeats 1000000 in
theorem sbI_no2 (n d p q : Int) (w : World) (h1 : okR n d = true) (h2 : okR p q = false) :
    Calls Try.prog 35 #[.agg #[.int .i64 n, .int .i64 d], .agg #[.int .i64 p, .int .i64 q]] w (SbPost w n d p q) := by
    have B0 := Lib.hid (three_box w n d p q 0 0 25)
    have H := Lib.hid (sb_no2 (n := n) (d := d) h2)
    go_enter Try.func35, Try.ntmps35
    go_wp2_with fail
    generalize ((w.alloc (.cells #[.int .i64 n, .int .i64 d] 25)).alloc (.cells #[.int .i64 p, .int .i64 q] 25)).alloc (.cells #[.int .i64 0, .int .i64 0] 25) = W0 at *
    obtain ⟨A0, A1, A2, A3⟩ := B0.out
    refine (valid_any _ _ _).mono ?_
    rintro e w1 ⟨rfl, hb1⟩
    have C0 := Lib.hid (A0.keep hb1)
    have C1 := Lib.hid (A1.keep hb1)
    have C2 := Lib.hid (A2.keep hb1)
    have C3 := Lib.hid (bT A3 hb1)
    clear B0 A0 A1 A2 A3 hb1
    obtain ⟨y0, y1, y2, y3, y4⟩ := C1.out
    go_wp2_with fail
    refine (valid_any _ _ _).mono ?_
    rintro e w2 ⟨rfl, hb2⟩
    have D0 := Lib.hid (C0.out.keep hb2)
    have D1 := Lib.hid (C1.out.keep hb2)
    have D2 := Lib.hid (C2.out.keep hb2)
    have D3 := Lib.hid (bT C3.out hb2)
    clear C0 C1 C2 C3 hb2 y0 y1 y2 y3 y4
    obtain ⟨r0, r1, r2, r3, r4⟩ := D2.out
    go_wp2_with fail
    refine bodyPost_ret (v := .tuple #[.agg #[.int .i64 0, .int .i64 0], .int .i64 1]) ?_ rfl ⟨ret_rc H.out.1.symm H.out.2.1.symm H.out.2.2.symm, (D3.out.setCell (by simp; omega) _).setCell (by simp; omega) _⟩
    simp [results, Try.results35, go_sem, r0, r1]
set_option maxHeartbeats 1000000 in
theorem sbI_gt (n d p q : Int) (w : World) (h1 : okR n d = true) (h2 : okR p q = true) (ho : p * d < n * q) :
    Calls Try.prog 35 #[.agg #[.int .i64 n, .int .i64 d], .agg #[.int .i64 p, .int .i64 q]] w (SbPost w n d p q) := by
    have B0 := Lib.hid (three_box w n d p q 0 0 25)
    have H := Lib.hid (sb_gt h1 h2 ho)
    have hcv := cmpR_gt h1 h2 ho
    clear ho
    go_enter Try.func35, Try.ntmps35
    go_wp2_with fail
    generalize ((w.alloc (.cells #[.int .i64 n, .int .i64 d] 25)).alloc (.cells #[.int .i64 p, .int .i64 q] 25)).alloc (.cells #[.int .i64 0, .int .i64 0] 25) = W0 at *
    obtain ⟨A0, A1, A2, A3⟩ := B0.out
    refine (valid_any _ _ _).mono ?_
    rintro e w1 ⟨rfl, hb1⟩
    have C0 := Lib.hid (A0.keep hb1)
    have C1 := Lib.hid (A1.keep hb1)
    have C2 := Lib.hid (A2.keep hb1)
    have C3 := Lib.hid (bT A3 hb1)
    clear B0 A0 A1 A2 A3 hb1
    obtain ⟨y0, y1, y2, y3, y4⟩ := C1.out
    go_wp2_with fail
    refine (valid_any _ _ _).mono ?_
    rintro e w2 ⟨rfl, hb2⟩
    have D0 := Lib.hid (C0.out.keep hb2)
    have D1 := Lib.hid (C1.out.keep hb2)
    have D2 := Lib.hid (C2.out.keep hb2)
    have D3 := Lib.hid (bT C3.out hb2)
    clear C0 C1 C2 C3 hb2 y0 y1 y2 y3 y4
    obtain ⟨x0, x1, x2, x3, x4⟩ := D0.out
    obtain ⟨y0, y1, y2, y3, y4⟩ := D1.out
    go_wp2_with fail
    refine (CompareRatioI_any _ _ _ _ _).mono ?_
    rintro e w3 ⟨rfl, hb3⟩
    have E0 := Lib.hid (D0.out.keep hb3)
    have E1 := Lib.hid (D1.out.keep hb3)
    have E2 := Lib.hid (D2.out.keep hb3)
    have E3 := Lib.hid (bT D3.out hb3)
    clear D0 D1 D2 D3 hb3 x0 x1 x2 x3 x4 y0 y1 y2 y3 y4
    obtain ⟨x0, x1, x2, x3, x4⟩ := E0.out
    obtain ⟨y0, y1, y2, y3, y4⟩ := E1.out
    obtain ⟨r0, r1, r2, r3, r4⟩ := E2.out
    generalize cmpR n d p q = cv at *
    go_wp2_with fail
    refine bodyPost_ret (v := .tuple #[.agg #[.int .i64 0, .int .i64 0], .int .i64 2]) ?_ rfl ⟨ret_rc H.out.1.symm H.out.2.1.symm H.out.2.2.symm, (E3.out.setCell (by simp; omega) _).setCell (by simp; omega) _⟩
    simp [results, Try.results35, go_sem, r0, r1]
set_option maxHeartbeats 1000000 in
theorem sbI_pos (n d p q : Int) (w : World) (h1 : okR n d = true) (h2 : okR p q = true) (ho : n * q ≤ p * d) (hn : 1 ≤ n) :
    Calls Try.prog 35 #[.agg #[.int .i64 n, .int .i64 d], .agg #[.int .i64 p, .int .i64 q]] w (SbPost w n d p q) := by
    have B0 := Lib.hid (three_box w n d p q 0 0 25)
    have H := Lib.hid (sb_yes h1 h2 ho)
    have hcv := cmpR_le h1 h2 ho
    have HO := Lib.hid ho
    clear ho
    go_enter Try.func35, Try.ntmps35
    go_wp2_with fail
    generalize ((w.alloc (.cells #[.int .i64 n, .int .i64 d] 25)).alloc (.cells #[.int .i64 p, .int .i64 q] 25)).alloc (.cells #[.int .i64 0, .int .i64 0] 25) = W0 at *
    obtain ⟨A0, A1, A2, A3⟩ := B0.out
    refine (valid_any _ _ _).mono ?_
    rintro e w1 ⟨rfl, hb1⟩
    have C0 := Lib.hid (A0.keep hb1)
    have C1 := Lib.hid (A1.keep hb1)
    have C2 := Lib.hid (A2.keep hb1)
    have C3 := Lib.hid (bT A3 hb1)
    clear B0 A0 A1 A2 A3 hb1
    obtain ⟨y0, y1, y2, y3, y4⟩ := C1.out
    go_wp2_with fail
    refine (valid_any _ _ _).mono ?_
    rintro e w2 ⟨rfl, hb2⟩
    have D0 := Lib.hid (C0.out.keep hb2)
    have D1 := Lib.hid (C1.out.keep hb2)
    have D2 := Lib.hid (C2.out.keep hb2)
    have D3 := Lib.hid (bT C3.out hb2)
    clear C0 C1 C2 C3 hb2 y0 y1 y2 y3 y4
    obtain ⟨x0, x1, x2, x3, x4⟩ := D0.out
    obtain ⟨y0, y1, y2, y3, y4⟩ := D1.out
    go_wp2_with fail
    refine (CompareRatioI_any _ _ _ _ _).mono ?_
    rintro e w3 ⟨rfl, hb3⟩
    have E0 := Lib.hid (D0.out.keep hb3)
    have E1 := Lib.hid (D1.out.keep hb3)
    have E2 := Lib.hid (D2.out.keep hb3)
    have E3 := Lib.hid (bT D3.out hb3)
    clear D0 D1 D2 D3 hb3 x0 x1 x2 x3 x4 y0 y1 y2 y3 y4
    obtain ⟨x0, x1, x2, x3, x4⟩ := E0.out
    obtain ⟨y0, y1, y2, y3, y4⟩ := E1.out
    obtain ⟨r0, r1, r2, r3, r4⟩ := E2.out
    generalize cmpR n d p q = cv at *
    go_wp2_with fail
    refine (simplestPositive_any _ _ _ _ _ _ (Nat.le_refl _) h1 h2 hn HO.out).mono ?_
    rintro e w4 ⟨rfl, hb4⟩
    have G2 := Lib.hid (E2.out.keep hb4)
    have G3 := Lib.hid (bT E3.out hb4)
    clear E0 E1 E2 E3 hb4 x0 x1 x2 x3 x4 y0 y1 y2 y3 y4 r0 r1 r2 r3 r4
    obtain ⟨r0, r1, r2, r3, r4⟩ := G2.out
    generalize hX : (smpX n d p q).1 = X at *
    generalize hY : (smpX n d p q).2 = Y at *
    clear hX hY
    go_wp2_with fail
    refine bodyPost_ret (v := .tuple #[.agg #[.int .i64 X, .int .i64 Y], .int .i64 0]) ?_ rfl ⟨ret_rc H.out.1.symm H.out.2.1.symm H.out.2.2.symm, (G3.out.setCell (by simp; omega) _).setCell (by simp; omega) _⟩
    simp [results, Try.results35, go_sem, r0, r1]
set_option maxHeartbeats 1000000 in
theorem sbI_zero (n d p q : Int) (w : World) (h1 : okR n d = true) (h2 : okR p q = true) (ho : n * q ≤ p * d) (hn : n ≤ 0) (hp : 0 ≤ p) :
    Calls Try.prog 35 #[.agg #[.int .i64 n, .int .i64 d], .agg #[.int .i64 p, .int .i64 q]] w (SbPost w n d p q) := by
    have B0 := Lib.hid (three_box w n d p q 0 0 25)
    have H := Lib.hid (sb_yes h1 h2 ho)
    have HX := Lib.hid (smpX_zero h1 h2 hn hp)
    have hcv := cmpR_le h1 h2 ho
    clear ho
    go_enter Try.func35, Try.ntmps35
    go_wp2_with fail
    generalize ((w.alloc (.cells #[.int .i64 n, .int .i64 d] 25)).alloc (.cells #[.int .i64 p, .int .i64 q] 25)).alloc (.cells #[.int .i64 0, .int .i64 0] 25) = W0 at *
    obtain ⟨A0, A1, A2, A3⟩ := B0.out
    refine (valid_any _ _ _).mono ?_
    rintro e w1 ⟨rfl, hb1⟩
    have C0 := Lib.hid (A0.keep hb1)
    have C1 := Lib.hid (A1.keep hb1)
    have C2 := Lib.hid (A2.keep hb1)
    have C3 := Lib.hid (bT A3 hb1)
    clear B0 A0 A1 A2 A3 hb1
    obtain ⟨y0, y1, y2, y3, y4⟩ := C1.out
    go_wp2_with fail
    refine (valid_any _ _ _).mono ?_
    rintro e w2 ⟨rfl, hb2⟩
    have D0 := Lib.hid (C0.out.keep hb2)
    have D1 := Lib.hid (C1.out.keep hb2)
    have D2 := Lib.hid (C2.out.keep hb2)
    have D3 := Lib.hid (bT C3.out hb2)
    clear C0 C1 C2 C3 hb2 y0 y1 y2 y3 y4
    obtain ⟨x0, x1, x2, x3, x4⟩ := D0.out
    obtain ⟨y0, y1, y2, y3, y4⟩ := D1.out
    go_wp2_with fail
    refine (CompareRatioI_any _ _ _ _ _).mono ?_
    rintro e w3 ⟨rfl, hb3⟩
    have E0 := Lib.hid (D0.out.keep hb3)
    have E1 := Lib.hid (D1.out.keep hb3)
    have E2 := Lib.hid (D2.out.keep hb3)
    have E3 := Lib.hid (bT D3.out hb3)
    clear D0 D1 D2 D3 hb3 x0 x1 x2 x3 x4 y0 y1 y2 y3 y4
    obtain ⟨x0, x1, x2, x3, x4⟩ := E0.out
    obtain ⟨y0, y1, y2, y3, y4⟩ := E1.out
    obtain ⟨r0, r1, r2, r3, r4⟩ := E2.out
    generalize cmpR n d p q = cv at *
    go_wp2_with fail
    refine bodyPost_ret (v := .tuple #[.agg #[.int .i64 0, .int .i64 1], .int .i64 0]) ?_ rfl ⟨ret_rc (H.out.1.trans HX.out.1).symm (H.out.2.1.trans HX.out.2).symm H.out.2.2.symm, (E3.out.setCell (by simp; omega) _).setCell (by simp; omega) _⟩
    simp [results, Try.results35, go_sem, r0, r1]
set_option maxHeartbeats 4000000 in
theorem sbI_neg (n d p q : Int) (w : World) (h1 : okR n d = true) (h2 : okR p q = true) (ho : n * q ≤ p * d) (hp : p ≤ -1) :
    Calls Try.prog 35 #[.agg #[.int .i64 n, .int .i64 d], .agg #[.int .i64 p, .int .i64 q]] w (SbPost w n d p q) := by
    have B0 := Lib.hid (three_box w n d p q 0 0 25)
    have H := Lib.hid (sb_yes h1 h2 ho)
    have HX := Lib.hid (smpX_neg h1 h2 hp ho)
    have hcv := cmpR_le h1 h2 ho
    obtain ⟨a1, a2, a3, a4⟩ := okR_bd h1
    obtain ⟨b1, b2, b3, b4⟩ := okR_bd h2
    have hn : n ≤ 0 := by
      by_cases hn : n ≤ 0
      · exact hn
      · exfalso
        have g1 : 1 * 1 ≤ n * q := Int.mul_le_mul (by omega) b1 (by omega) (by omega)
        have g2 : p * d ≤ -1 * d := Int.mul_le_mul_of_nonneg_right hp (by omega)
        omega
    have ho' : -p * d ≤ -n * q := by rw [Int.neg_mul, Int.neg_mul]; omega
    obtain ⟨z1, z2, z3, z4⟩ := smpX_bd (okR_neg h2) (okR_neg h1) (by omega) ho'
    have HP := Lib.hid (fun W => simplestPositive_any _ (-p) q (-n) d W (Nat.le_refl _) (okR_neg h2) (okR_neg h1) (by omega) ho')
    clear ho ho'
    go_enter Try.func35, Try.ntmps35
    go_wp2_with fail
    generalize ((w.alloc (.cells #[.int .i64 n, .int .i64 d] 25)).alloc (.cells #[.int .i64 p, .int .i64 q] 25)).alloc (.cells #[.int .i64 0, .int .i64 0] 25) = W0 at *
    obtain ⟨A0, A1, A2, A3⟩ := B0.out
    refine (valid_any _ _ _).mono ?_
    rintro e w1 ⟨rfl, hb1⟩
    have C0 := Lib.hid (A0.keep hb1)
    have C1 := Lib.hid (A1.keep hb1)
    have C2 := Lib.hid (A2.keep hb1)
    have C3 := Lib.hid (bT A3 hb1)
    clear B0 A0 A1 A2 A3 hb1
    obtain ⟨y0, y1, y2, y3, y4⟩ := C1.out
    go_wp2_with fail
    refine (valid_any _ _ _).mono ?_
    rintro e w2 ⟨rfl, hb2⟩
    have D0 := Lib.hid (C0.out.keep hb2)
    have D1 := Lib.hid (C1.out.keep hb2)
    have D2 := Lib.hid (C2.out.keep hb2)
    have D3 := Lib.hid (bT C3.out hb2)
    clear C0 C1 C2 C3 hb2 y0 y1 y2 y3 y4
    obtain ⟨x0, x1, x2, x3, x4⟩ := D0.out
    obtain ⟨y0, y1, y2, y3, y4⟩ := D1.out
    go_wp2_with fail
    refine (CompareRatioI_any _ _ _ _ _).mono ?_
    rintro e w3 ⟨rfl, hb3⟩
    have E0 := Lib.hid (D0.out.keep hb3)
    have E1 := Lib.hid (D1.out.keep hb3)
    have E2 := Lib.hid (D2.out.keep hb3)
    have E3 := Lib.hid (bT D3.out hb3)
    clear D0 D1 D2 D3 hb3 x0 x1 x2 x3 x4 y0 y1 y2 y3 y4
    obtain ⟨x0, x1, x2, x3, x4⟩ := E0.out
    obtain ⟨y0, y1, y2, y3, y4⟩ := E1.out
    obtain ⟨r0, r1, r2, r3, r4⟩ := E2.out
    generalize cmpR n d p q = cv at *
    go_wp2_with fail
    have hT := Lib.hid (Tri.of E0.out E1.out E2.out E3.out)
    clear E0 E1 E2 E3 x0 x1 x2 x3 x4 y0 y1 y2 y3 y4 r0 r1 r2 r3 r4
    obtain ⟨k1, k2, k3, k4, k5, k6, k7, k8, k9, k10⟩ := hT.out
    go_region_with (first
        | (go_at_call 59; refine (negated_any _ _ _ (by omega) (by omega)).mono ?_; rintro e w' ⟨rfl, hb⟩; have hU : Tri w n d p q w' := (by first | exact Tri.keep hb hT.out.drew | exact Tri.keep hb hT.out | exact Tri.keep hb (by assumption)); have hV := hU; obtain ⟨l1, l2, l3, l4, l5, l6, l7, l8, l9, l10⟩ := hV; clear hb)
        | (go_at_call 58; refine (HP.out _).mono ?_; rintro e w' ⟨rfl, hb⟩; have hU : Tri w n d p q w' := Tri.keep hb (by assumption); have hV := hU; obtain ⟨l1, l2, l3, l4, l5, l6, l7, l8, l9, l10⟩ := hV; clear hb))
    all_goals
      go_wp2_with fail
      refine bodyPost_ret (v := .tuple #[.agg #[.int .i64 (-(smpX (-p) q (-n) d).1), .int .i64 (smpX (-p) q (-n) d).2], .int .i64 0]) ?_ rfl ⟨ret_rc (H.out.1.trans HX.out.1).symm (H.out.2.1.trans HX.out.2).symm H.out.2.2.symm, (Below.setCell (by assumption) (by simp; omega) _).setCell (by simp; omega) _⟩
      simp [results, Try.results35, go_sem, *]
theorem SimplestBetweenI_any (n d p q : Int) (w : World) :
    Calls Try.prog 35 #[.agg #[.int .i64 n, .int .i64 d], .agg #[.int .i64 p, .int .i64 q]] w fun e w' => e = .returned (.tuple #[.agg #[.int .i64 (sbA n d p q), .int .i64 (sbB n d p q)], .int .i64 (sbC n d p q)]) ∧ Below w.heap.size w w' := by
  cases h1 : okR n d
  · exact sbI_no1 n d p q w h1
  · cases h2 : okR p q
    · exact sbI_no2 n d p q w h1 h2
    · by_cases ho : n * q ≤ p * d
      · by_cases hn : 1 ≤ n
        · exact sbI_pos n d p q w h1 h2 ho hn
        · by_cases hp : p ≤ -1
          · exact sbI_neg n d p q w h1 h2 ho hp
          · exact sbI_zero n d p q w h1 h2 ho (by omega) (by omega)
      · exact sbI_gt n d p q w h1 h2 (by omega)
end Go.Proofs.Ythnfkkfonabhkaa

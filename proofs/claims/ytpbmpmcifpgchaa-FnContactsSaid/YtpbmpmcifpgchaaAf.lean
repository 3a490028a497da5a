/-
  Draws of two profiles, and of an angle with an addendum: spec.l10Pair, DrawInterferes, DrawContactBounds, DrawLeastTeeth.
-/
import Derived.Test.YtpbmpmcifpgchaaAe
import Derived.Test.YtpbmpmcifpgchaaRoll
import Derived.Test.YtpbmpmcifpgchaaAnI
namespace Go.Proofs.Ytpbmpmcifpgchaa
open Go.RowKit

theorem BoxL.setI {w : World} {b i : Nat} {vs : List Value} {v u : Value} (h : BoxL w b vs) (hi : vs[i]? = some u) : BoxL (w.setCell ⟨b, i, none⟩ v) b (vs.set i v) := by
  have hl : i < vs.length := by
    by_cases hl : i < vs.length
    · exact hl
    · rw [List.getElem?_eq_none (by omega)] at hi; cases hi
  have c0 := h.c i u hi
  refine ⟨fun j y e => ?_, fun j y e => ?_, by simpa [World.setCell] using h.lt⟩
  · by_cases hj : j = i
    · subst hj
      rw [List.getElem?_set_self hl] at e
      cases e
      simp [go_sem, c0]
    · rw [List.getElem?_set_ne (Ne.symm hj)] at e
      have := h.c j y e
      simp [go_sem, this]
  · by_cases hj : j = i
    · subst hj
      have := h.f j u hi
      simp [go_sem, this]
    · rw [List.getElem?_set_ne (Ne.symm hj)] at e
      have := h.f j y e
      simp [go_sem, this]
theorem BoxL.oth4 {w : World} {b b' i j k l : Nat} {vs : List Value} {u v x y : Value} (h : BoxL w b vs) (hn : b ≠ b') : BoxL ((((w.setCell ⟨b', i, none⟩ u).setCell ⟨b', j, none⟩ v).setCell ⟨b', k, none⟩ x).setCell ⟨b', l, none⟩ y) b vs := (((h.other hn).other hn).other hn).other hn
def PqDraw (w : World) (p : Nat) (a : Option Addr) (len cap d : Nat) (e : Ending) (w' : World) : Prop :=
  ∃ t m k s c h t2 m2 k2 s2 c2 h2 : Int, e = .returned (.tuple #[.agg #[.int .i64 t, .int .i64 m, .int .i64 k, .int .i64 s, .int .i64 c, .int .i64 h], .agg #[.int .i64 t2, .int .i64 m2, .int .i64 k2, .int .i64 s2, .int .i64 c2, .int .i64 h2]]) ∧ DS w p a len cap d w'
set_option maxRecDepth 100000 in
set_option maxHeartbeats 2500000 in
theorem l10Pair_any (w : World) (p : Nat) (a : Option Addr) (len cap c : Nat) (h : SrcAt w p a len cap c) (hc : c ≤ 300000) :
    Calls Try.prog 57 #[.pointer (some ⟨p, 0, none⟩)] w (PqDraw w p a len cap (c + 100)) := by
  have D0 := Lib.hid (((DS.new h).alloc (.cells #[.int .i64 0, .int .i64 0, .int .i64 0, .int .i64 0, .int .i64 0, .int .i64 0] 30)).alloc (.cells #[.int .i64 0, .int .i64 0, .int .i64 0, .int .i64 0, .int .i64 0, .int .i64 0] 30))
  have Q0 := Lib.hid ((BoxL.new w [.int .i64 0, .int .i64 0, .int .i64 0, .int .i64 0, .int .i64 0, .int .i64 0] 30).alloc (.cells #[.int .i64 0, .int .i64 0, .int .i64 0, .int .i64 0, .int .i64 0, .int .i64 0] 30))
  have R0 := Lib.hid (BoxL.at_ (w := w.alloc (.cells #[.int .i64 0, .int .i64 0, .int .i64 0, .int .i64 0, .int .i64 0, .int .i64 0] 30)) (b := w.heap.size + 1) (vs := [.int .i64 0, .int .i64 0, .int .i64 0, .int .i64 0, .int .i64 0, .int .i64 0]) (T := 30) (by simp))
  have hp := h.lt
  clear h
  go_enter Try.func57, Try.ntmps57
  go_wp2_with fail
  refine (l10Bent_any _ p a len cap c D0.out.src (by omega)).mono ?_
  rintro e w1 ⟨t, m, k, s, y, h, _, _, _, _, rfl, d1⟩
  have D1 := Lib.hid (D0.out.step d1.src d1.gr)
  have Q1 := Lib.hid (Q0.out.grownA d1.gr (by omega))
  have R1 := Lib.hid (R0.out.grownA d1.gr (by omega))
  clear d1 D0 Q0 R0
  go_wp2_with fail
  have D2 := Lib.hid (D1.out.alloc (.cells #[.int .i64 t, .int .i64 m, .int .i64 k, .int .i64 s, .int .i64 y, .int .i64 h] 30))
  have Q2 := Lib.hid (Q1.out.alloc (.cells #[.int .i64 t, .int .i64 m, .int .i64 k, .int .i64 s, .int .i64 y, .int .i64 h] 30))
  have R2 := Lib.hid (R1.out.alloc (.cells #[.int .i64 t, .int .i64 m, .int .i64 k, .int .i64 s, .int .i64 y, .int .i64 h] 30))
  have X2 := Lib.hid (BoxL.new w1 [.int .i64 t, .int .i64 m, .int .i64 k, .int .i64 s, .int .i64 y, .int .i64 h] 30)
  have hb4 : w.heap.size + 1 < w1.heap.size := R1.out.lt
  clear D1 Q1 R1
  generalize w1.alloc (.cells #[.int .i64 t, .int .i64 m, .int .i64 k, .int .i64 s, .int .i64 y, .int .i64 h] 30) = W2 at *
  generalize w1.heap.size = b4 at *
  refine (l10Bent_any _ p a len cap _ D2.out.src (by omega)).mono ?_
  rintro e w3 ⟨t2, m2, k2, s2, y2, h2, _, _, _, _, rfl, d1⟩
  have D3 := Lib.hid (D2.out.step d1.src d1.gr)
  have Q3 := Lib.hid (Q2.out.grownA d1.gr (by omega))
  have R3 := Lib.hid (R2.out.grownA d1.gr (by omega))
  have X3 := Lib.hid (X2.out.grownA d1.gr (by omega))
  clear d1 D2 Q2 R2 X2
  go_wp2_with fail
  have D4 := Lib.hid (D3.out.alloc (.cells #[.int .i64 t2, .int .i64 m2, .int .i64 k2, .int .i64 s2, .int .i64 y2, .int .i64 h2] 30))
  have Q4 := Lib.hid (Q3.out.alloc (.cells #[.int .i64 t2, .int .i64 m2, .int .i64 k2, .int .i64 s2, .int .i64 y2, .int .i64 h2] 30))
  have R4 := Lib.hid (R3.out.alloc (.cells #[.int .i64 t2, .int .i64 m2, .int .i64 k2, .int .i64 s2, .int .i64 y2, .int .i64 h2] 30))
  have X4 := Lib.hid (X3.out.alloc (.cells #[.int .i64 t2, .int .i64 m2, .int .i64 k2, .int .i64 s2, .int .i64 y2, .int .i64 h2] 30))
  have Y4 := Lib.hid (BoxL.new w3 [.int .i64 t2, .int .i64 m2, .int .i64 k2, .int .i64 s2, .int .i64 y2, .int .i64 h2] 30)
  have hb5 : b4 < w3.heap.size := X3.out.lt
  clear D3 Q3 R3 X3
  generalize w3.alloc (.cells #[.int .i64 t2, .int .i64 m2, .int .i64 k2, .int .i64 s2, .int .i64 y2, .int .i64 h2] 30) = W4 at *
  generalize w3.heap.size = b5 at *
  refine (oneQ_any _ p a len cap _ 8 D4.out.src (by omega) (by omega) (by omega)).mono ?_
  rintro e w5 ⟨q, rfl, s1, g1⟩
  have D5 := Lib.hid (D4.out.step s1 g1)
  have Q5 := Lib.hid (Q4.out.grownA g1 (by omega))
  have R5 := Lib.hid (R4.out.grownA g1 (by omega))
  have X5 := Lib.hid (X4.out.grownA g1 (by omega))
  have Y5 := Lib.hid (Y4.out.grownA g1 (by omega))
  clear s1 g1 D4 Q4 R4 X4 Y4
  generalize hb1 : w.heap.size + 1 = b1 at *
  have n1 : ¬ w.heap.size = b4 := by omega
  have n2 : ¬ w.heap.size = b5 := by omega
  have n3 : ¬ w.heap.size = b1 := by omega
  have n4 : ¬ b1 = b4 := by omega
  have n5 : ¬ b1 = b5 := by omega
  have n6 : ¬ b4 = b5 := by omega
  have n7 : ¬ b4 = w.heap.size := by omega
  have n8 : ¬ b5 = w.heap.size := by omega
  have n9 : ¬ b1 = w.heap.size := by omega
  have n10 : ¬ b4 = b1 := by omega
  have n11 : ¬ b5 = b1 := by omega
  have n12 : ¬ b5 = b4 := by omega
  have l1 : w.heap.size ≤ b1 := by omega
  have l5 : w.heap.size ≤ b5 := by omega
  cases q
  · obtain ⟨x0, x1, x2, x3, x4, x5, x6⟩ := X5.out.c6
    obtain ⟨z0, z1, z2, z3, z4, z5, z6⟩ := Y5.out.c6
    obtain ⟨y0, y1, y2', y3, y4, y5⟩ := Y5.out.f6
    go_upto_region 6 with fail
    have D6 := Lib.hid ((((D5.out.set (o := 1) (v := .int .i64 m) l5).set (o := 3) (v := .int .i64 s) l5).set (o := 4) (v := .int .i64 y) l5).set (o := 5) (v := .int .i64 h) l5)
    have Q6 := Lib.hid (Q5.out.oth4 (i := 1) (j := 3) (k := 4) (l := 5) (u := .int .i64 m) (v := .int .i64 s) (x := .int .i64 y) (y := .int .i64 h) n2)
    have R6 := Lib.hid (R5.out.oth4 (i := 1) (j := 3) (k := 4) (l := 5) (u := .int .i64 m) (v := .int .i64 s) (x := .int .i64 y) (y := .int .i64 h) n5)
    have X6 := Lib.hid (X5.out.oth4 (i := 1) (j := 3) (k := 4) (l := 5) (u := .int .i64 m) (v := .int .i64 s) (x := .int .i64 y) (y := .int .i64 h) n6)
    have Y6 := Lib.hid (show BoxL ((((w5.setCell ⟨b5, 1, none⟩ (.int .i64 m)).setCell ⟨b5, 3, none⟩ (.int .i64 s)).setCell ⟨b5, 4, none⟩ (.int .i64 y)).setCell ⟨b5, 5, none⟩ (.int .i64 h)) b5 [.int .i64 t2, .int .i64 m, .int .i64 k2, .int .i64 s, .int .i64 y, .int .i64 h] from (((Y5.out.setI (i := 1) (v := .int .i64 m) rfl).setI (i := 3) (v := .int .i64 s) rfl).setI (i := 4) (v := .int .i64 y) rfl).setI (i := 5) (v := .int .i64 h) rfl)
    clear D5 Q5 R5 X5 Y5 x0 x1 x2 x3 x4 x5 x6 z0 z1 z2 z3 z4 z5 z6 y0 y1 y2' y3 y4 y5
    generalize (((w5.setCell ⟨b5, 1, none⟩ (.int .i64 m)).setCell ⟨b5, 3, none⟩ (.int .i64 s)).setCell ⟨b5, 4, none⟩ (.int .i64 y)).setCell ⟨b5, 5, none⟩ (.int .i64 h) = W6 at *
    obtain ⟨q0, q1, q2, q3, q4, q5, q6⟩ := Q6.out.c6
    obtain ⟨r0, r1, r2, r3, r4, r5⟩ := Q6.out.f6
    obtain ⟨u0, u1, u2, u3, u4, u5, u6⟩ := R6.out.c6
    obtain ⟨v0, v1, v2, v3, v4, v5⟩ := R6.out.f6
    obtain ⟨x0, x1, x2, x3, x4, x5, x6⟩ := X6.out.c6
    obtain ⟨z0, z1, z2, z3, z4, z5, z6⟩ := Y6.out.c6
    go_region
    go_wp2_with fail
    exact bodyPost_ret (v := .tuple #[.agg #[.int .i64 t, .int .i64 m, .int .i64 k, .int .i64 s, .int .i64 y, .int .i64 h], .agg #[.int .i64 t2, .int .i64 m, .int .i64 k2, .int .i64 s, .int .i64 y, .int .i64 h]]) (by simp [results, Try.results57, go_sem, q0, q1, q2, q3, q4, q5, u0, u1, u2, u3, u4, u5]) rfl ⟨t, m, k, s, y, h, t2, m, k2, s, y, h, rfl, (((D6.out.set6 (Nat.le_refl _)).set6 l1).keep (bR _).drew).mono (by omega)⟩
  · obtain ⟨q0, q1, q2, q3, q4, q5, q6⟩ := Q5.out.c6
    obtain ⟨r0, r1, r2, r3, r4, r5⟩ := Q5.out.f6
    obtain ⟨u0, u1, u2, u3, u4, u5, u6⟩ := R5.out.c6
    obtain ⟨v0, v1, v2, v3, v4, v5⟩ := R5.out.f6
    obtain ⟨x0, x1, x2, x3, x4, x5, x6⟩ := X5.out.c6
    obtain ⟨z0, z1, z2, z3, z4, z5, z6⟩ := Y5.out.c6
    go_wp2_with fail
    go_region
    go_wp2_with fail
    exact bodyPost_ret (v := .tuple #[.agg #[.int .i64 t, .int .i64 m, .int .i64 k, .int .i64 s, .int .i64 y, .int .i64 h], .agg #[.int .i64 t2, .int .i64 m2, .int .i64 k2, .int .i64 s2, .int .i64 y2, .int .i64 h2]]) (by simp [results, Try.results57, go_sem, q0, q1, q2, q3, q4, q5, u0, u1, u2, u3, u4, u5]) rfl ⟨t, m, k, s, y, h, t2, m2, k2, s2, y2, h2, rfl, (((D5.out.set6 (Nat.le_refl _)).set6 l1).keep (bR _).drew).mono (by omega)⟩
theorem below_set6 {w w' : World} {r : Nat} {v0 v1 v2 v3 v4 v5 : Value} (h : Below w.heap.size w w') (hr : w.heap.size ≤ r) : Below w.heap.size w ((((((w'.setCell ⟨r, 0, none⟩ v0).setCell ⟨r, 1, none⟩ v1).setCell ⟨r, 2, none⟩ v2).setCell ⟨r, 3, none⟩ v3).setCell ⟨r, 4, none⟩ v4).setCell ⟨r, 5, none⟩ v5) :=
  (((((h.setCell hr _).setCell hr _).setCell hr _).setCell hr _).setCell hr _).setCell hr _
def TwoPf (w : World) (e : Ending) (w' : World) : Prop := ∃ t m k s c h t2 m2 k2 s2 c2 h2 : Int, e = .returned (.tuple #[.agg #[.int .i64 t, .int .i64 m, .int .i64 k, .int .i64 s, .int .i64 c, .int .i64 h], .agg #[.int .i64 t2, .int .i64 m2, .int .i64 k2, .int .i64 s2, .int .i64 c2, .int .i64 h2]]) ∧ Below w.heap.size w w'
set_option maxRecDepth 100000 in
set_option maxHeartbeats 2500000 in
theorem DrawInterferes_any (w : World) (a : Option Addr) (len cap : Nat) (zs : List Int) (h : IsRow .u8 w a len cap zs) :
    Calls Try.prog 24 #[.slice a len cap] w (TwoPf w) := by
  have A0 := Lib.hid ((h.keep (bA (bR w) (.cells #[.int .i64 0, .int .i64 0, .int .i64 0, .int .i64 0, .int .i64 0, .int .i64 0] 30))).keep (bA (bR _) (.cells #[.int .i64 0, .int .i64 0, .int .i64 0, .int .i64 0, .int .i64 0, .int .i64 0] 30)))
  have L0 := Lib.hid (bA (bA (bR w) (.cells #[.int .i64 0, .int .i64 0, .int .i64 0, .int .i64 0, .int .i64 0, .int .i64 0] 30)) (.cells #[.int .i64 0, .int .i64 0, .int .i64 0, .int .i64 0, .int .i64 0, .int .i64 0] 30))
  have Q0 := Lib.hid ((BoxL.new w [.int .i64 0, .int .i64 0, .int .i64 0, .int .i64 0, .int .i64 0, .int .i64 0] 30).alloc (.cells #[.int .i64 0, .int .i64 0, .int .i64 0, .int .i64 0, .int .i64 0, .int .i64 0] 30))
  have R0 := Lib.hid (BoxL.at_ (w := w.alloc (.cells #[.int .i64 0, .int .i64 0, .int .i64 0, .int .i64 0, .int .i64 0, .int .i64 0] 30)) (b := w.heap.size + 1) (vs := [.int .i64 0, .int .i64 0, .int .i64 0, .int .i64 0, .int .i64 0, .int .i64 0]) (T := 30) (by simp))
  have hw : ((w.alloc (.cells #[.int .i64 0, .int .i64 0, .int .i64 0, .int .i64 0, .int .i64 0, .int .i64 0] 30)).alloc (.cells #[.int .i64 0, .int .i64 0, .int .i64 0, .int .i64 0, .int .i64 0, .int .i64 0] 30)).heap.size = w.heap.size + 1 + 1 := by simp
  clear h
  go_enter Try.func24, Try.ntmps24
  go_wp2_with fail
  generalize (w.alloc (.cells #[.int .i64 0, .int .i64 0, .int .i64 0, .int .i64 0, .int .i64 0, .int .i64 0] 30)).alloc (.cells #[.int .i64 0, .int .i64 0, .int .i64 0, .int .i64 0, .int .i64 0, .int .i64 0] 30) = W0 at *
  refine (l00From_any W0 a len cap zs A0.out).mono ?_
  rintro e w1 ⟨rfl, s1, hb⟩
  have S1 := Lib.hid s1
  have L1 := Lib.hid (bT L0.out hb)
  have Q1 := Lib.hid (Q0.out.keep hb)
  have R1 := Lib.hid (R0.out.keep hb)
  clear s1 hb A0 L0 Q0 R0
  generalize hpp : W0.heap.size = p at S1 ⊢
  go_wp2_with fail
  refine (l10Pair_any _ p a len cap 0 S1.out (by omega)).mono ?_
  rintro e w2 ⟨t, m, k, s, y, h, t2, m2, k2, s2, y2, h2, rfl, d2⟩
  have L2 := Lib.hid (below_grown L1.out d2.gr (by omega))
  have Q2 := Lib.hid (Q1.out.grownA d2.gr (by omega))
  have R2 := Lib.hid (R1.out.grownA d2.gr (by omega))
  clear d2 L1 Q1 R1 S1
  obtain ⟨q0, q1, q2, q3, q4, q5, q6⟩ := Q2.out.c6
  obtain ⟨r0, r1, r2, r3, r4, r5⟩ := Q2.out.f6
  obtain ⟨u0, u1, u2, u3, u4, u5, u6⟩ := R2.out.c6
  obtain ⟨v0, v1, v2, v3, v4, v5⟩ := R2.out.f6
  clear hw
  generalize hb1 : w.heap.size + 1 = b1 at *
  have n3 : ¬ w.heap.size = b1 := by omega
  have n9 : ¬ b1 = w.heap.size := by omega
  have l1 : w.heap.size ≤ b1 := by omega
  go_wp2_with fail
  exact bodyPost_ret (v := .tuple #[.agg #[.int .i64 t, .int .i64 m, .int .i64 k, .int .i64 s, .int .i64 y, .int .i64 h], .agg #[.int .i64 t2, .int .i64 m2, .int .i64 k2, .int .i64 s2, .int .i64 y2, .int .i64 h2]]) (by simp [results, Try.results24, go_sem, q0, q1, q2, q3, q4, q5, u0, u1, u2, u3, u4, u5]) rfl ⟨t, m, k, s, y, h, t2, m2, k2, s2, y2, h2, rfl, below_set6 (below_set6 L2.out (Nat.le_refl _)) l1⟩
set_option maxRecDepth 100000 in
set_option maxHeartbeats 2500000 in
theorem DrawContactBounds_any (w : World) (a : Option Addr) (len cap : Nat) (zs : List Int) (h : IsRow .u8 w a len cap zs) :
    Calls Try.prog 23 #[.slice a len cap] w (TwoPf w) := by
  have A0 := Lib.hid ((h.keep (bA (bR w) (.cells #[.int .i64 0, .int .i64 0, .int .i64 0, .int .i64 0, .int .i64 0, .int .i64 0] 30))).keep (bA (bR _) (.cells #[.int .i64 0, .int .i64 0, .int .i64 0, .int .i64 0, .int .i64 0, .int .i64 0] 30)))
  have L0 := Lib.hid (bA (bA (bR w) (.cells #[.int .i64 0, .int .i64 0, .int .i64 0, .int .i64 0, .int .i64 0, .int .i64 0] 30)) (.cells #[.int .i64 0, .int .i64 0, .int .i64 0, .int .i64 0, .int .i64 0, .int .i64 0] 30))
  have Q0 := Lib.hid ((BoxL.new w [.int .i64 0, .int .i64 0, .int .i64 0, .int .i64 0, .int .i64 0, .int .i64 0] 30).alloc (.cells #[.int .i64 0, .int .i64 0, .int .i64 0, .int .i64 0, .int .i64 0, .int .i64 0] 30))
  have R0 := Lib.hid (BoxL.at_ (w := w.alloc (.cells #[.int .i64 0, .int .i64 0, .int .i64 0, .int .i64 0, .int .i64 0, .int .i64 0] 30)) (b := w.heap.size + 1) (vs := [.int .i64 0, .int .i64 0, .int .i64 0, .int .i64 0, .int .i64 0, .int .i64 0]) (T := 30) (by simp))
  have hw : ((w.alloc (.cells #[.int .i64 0, .int .i64 0, .int .i64 0, .int .i64 0, .int .i64 0, .int .i64 0] 30)).alloc (.cells #[.int .i64 0, .int .i64 0, .int .i64 0, .int .i64 0, .int .i64 0, .int .i64 0] 30)).heap.size = w.heap.size + 1 + 1 := by simp
  clear h
  go_enter Try.func23, Try.ntmps23
  go_wp2_with fail
  generalize (w.alloc (.cells #[.int .i64 0, .int .i64 0, .int .i64 0, .int .i64 0, .int .i64 0, .int .i64 0] 30)).alloc (.cells #[.int .i64 0, .int .i64 0, .int .i64 0, .int .i64 0, .int .i64 0, .int .i64 0] 30) = W0 at *
  refine (l00From_any W0 a len cap zs A0.out).mono ?_
  rintro e w1 ⟨rfl, s1, hb⟩
  have S1 := Lib.hid s1
  have L1 := Lib.hid (bT L0.out hb)
  have Q1 := Lib.hid (Q0.out.keep hb)
  have R1 := Lib.hid (R0.out.keep hb)
  clear s1 hb A0 L0 Q0 R0
  generalize hpp : W0.heap.size = p at S1 ⊢
  go_wp2_with fail
  refine (l10Pair_any _ p a len cap 0 S1.out (by omega)).mono ?_
  rintro e w2 ⟨t, m, k, s, y, h, t2, m2, k2, s2, y2, h2, rfl, d2⟩
  have L2 := Lib.hid (below_grown L1.out d2.gr (by omega))
  have Q2 := Lib.hid (Q1.out.grownA d2.gr (by omega))
  have R2 := Lib.hid (R1.out.grownA d2.gr (by omega))
  clear d2 L1 Q1 R1 S1
  obtain ⟨q0, q1, q2, q3, q4, q5, q6⟩ := Q2.out.c6
  obtain ⟨r0, r1, r2, r3, r4, r5⟩ := Q2.out.f6
  obtain ⟨u0, u1, u2, u3, u4, u5, u6⟩ := R2.out.c6
  obtain ⟨v0, v1, v2, v3, v4, v5⟩ := R2.out.f6
  clear hw
  generalize hb1 : w.heap.size + 1 = b1 at *
  have n3 : ¬ w.heap.size = b1 := by omega
  have n9 : ¬ b1 = w.heap.size := by omega
  have l1 : w.heap.size ≤ b1 := by omega
  go_wp2_with fail
  exact bodyPost_ret (v := .tuple #[.agg #[.int .i64 t, .int .i64 m, .int .i64 k, .int .i64 s, .int .i64 y, .int .i64 h], .agg #[.int .i64 t2, .int .i64 m2, .int .i64 k2, .int .i64 s2, .int .i64 y2, .int .i64 h2]]) (by simp [results, Try.results23, go_sem, q0, q1, q2, q3, q4, q5, u0, u1, u2, u3, u4, u5]) rfl ⟨t, m, k, s, y, h, t2, m2, k2, s2, y2, h2, rfl, below_set6 (below_set6 L2.out (Nat.le_refl _)) l1⟩
end Go.Proofs.Ytpbmpmcifpgchaa

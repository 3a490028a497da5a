/-
  The draws of the law of weights: spec.l02Bent, DrawWeightFor, DrawDaysOf.
-/
import Derived.Test.YtclefibjmnabbaaAd
import Derived.Test.YtclefibjmnabbaaRoll
namespace Go.Proofs.Ytclefibjmnabbaa
open Go.RowKit

def BentR (w : World) (p : Nat) (a : Option Addr) (len cap d : Nat) (e : Ending) (w' : World) : Prop :=
  ∃ x y : Int, e = .returned (.agg #[.int .i64 x, .int .i64 y]) ∧ DS w p a len cap d w'
set_option maxRecDepth 100000 in
set_option maxHeartbeats 4000000 in
theorem l02Bent_any (w : World) (p : Nat) (a : Option Addr) (len cap c : Nat) (h : SrcAt w p a len cap c) (hc : c ≤ 700000) :
    Calls Try.prog 70 #[.pointer (some ⟨p, 0, none⟩)] w (BentR w p a len cap (c + 14)) := by
  have D0 := Lib.hid ((DS.new h).alloc (.cells #[.int .i64 0, .int .i64 0] 59))
  have Q0 := Lib.hid (BoxL.new w [.int .i64 0, .int .i64 0] 59)
  have hp := h.lt
  clear h
  go_enter Try.func70, Try.ntmps70
  go_wp2_with fail
  generalize w.alloc (.cells #[.int .i64 0, .int .i64 0] 59) = W0 at *
  refine (l02Draw_any W0 p a len cap c D0.out.src (by omega)).mono ?_
  rintro e w1 ⟨n, d, _, rfl, s1, g1⟩
  have D1 := Lib.hid ((D0.out.step s1 g1).alloc (.cells #[.int .i64 n, .int .i64 d] 59))
  have Q1 := Lib.hid ((Q0.out.grownA g1 (by omega)).alloc (.cells #[.int .i64 n, .int .i64 d] 59))
  have X1 := Lib.hid (BoxL.new w1 [.int .i64 n, .int .i64 d] 59)
  have hb4 : w.heap.size < w1.heap.size := (Q0.out.grownA g1 (by omega)).lt
  clear s1 g1 D0 Q0
  go_wp2_with fail
  generalize w1.alloc (.cells #[.int .i64 n, .int .i64 d] 59) = W1 at *
  generalize w1.heap.size = b4 at *
  have hb4' : w.heap.size ≤ b4 := by omega
  have n1 : ¬ w.heap.size = b4 := by omega
  have n2 : ¬ b4 = w.heap.size := by omega
  refine (pick_any _ p a len cap _ 24 D1.out.src (by omega) (by omega) (by omega)).mono ?_
  rintro e w2 ⟨k, k0, k1, rfl, s1, g1⟩
  have D2 := Lib.hid (D1.out.step s1 g1)
  have Q2 := Lib.hid (Q1.out.grownA g1 (by omega))
  have X2 := Lib.hid (X1.out.grownA g1 (by omega))
  clear s1 g1 D1 Q1 X1
  by_cases e0 : k = 0
  · subst e0
    go_wp2_with fail
    refine (among_any _ p a len cap _ _ 3 (-1) 1000000001 (D2.out.alloc _).src (by omega) (by omega) (by omega) (by have := D2.out.src.lt; omega) (by simp) ?hnu).mono ?_
    case hnu =>
      intro i hi
      match i, hi with
      | 0, _ => exact ⟨_, by simp [go_sem]; rfl, by omega, by omega⟩
      | 1, _ => exact ⟨_, by simp [go_sem]; rfl, by omega, by omega⟩
      | 2, _ => exact ⟨_, by simp [go_sem]; rfl, by omega, by omega⟩
    rintro e w3 ⟨x, x0, x1, rfl, s1, g1⟩
    have D3 := Lib.hid ((D2.out.alloc _).step s1 g1)
    have Q3 := Lib.hid ((Q2.out.alloc _).grownA g1 (by omega))
    have X3 := Lib.hid ((X2.out.alloc _).grownA g1 (by omega))
    clear s1 g1 D2 Q2 X2 x0 x1
    obtain ⟨x0, x1, x2⟩ := X3.out.c2
    obtain ⟨y0, y1⟩ := X3.out.f2
    obtain ⟨q0, q1, q2⟩ := Q3.out.c2
    obtain ⟨r0, r1⟩ := Q3.out.f2
    go_wp2_with fail
    exact bodyPost_ret (v := .agg #[.int .i64 (n), .int .i64 (x)]) (by simp [results, Try.results70, go_sem, q0, q1]) rfl ⟨_, _, rfl, ((((D3.out.set (o := 1) (v := .int .i64 (x)) hb4').set (r := w.heap.size) (o := 0) (v := .int .i64 (n)) (Nat.le_refl _)).set (r := w.heap.size) (o := 1) (v := .int .i64 (x)) (Nat.le_refl _))).mono (by omega)⟩
  have b0 : (k == 0) = false := by simpa using e0
  by_cases e1 : k = 1
  · subst e1
    go_wp2_with fail
    refine (among_any _ p a len cap _ _ 3 (-9223372036854775808) 9223372036854775807 (D2.out.alloc _).src (by omega) (by omega) (by omega) (by have := D2.out.src.lt; omega) (by simp) ?hnu).mono ?_
    case hnu =>
      intro i hi
      match i, hi with
      | 0, _ => exact ⟨_, by simp [go_sem]; rfl, by omega, by omega⟩
      | 1, _ => exact ⟨_, by simp [go_sem]; rfl, by omega, by omega⟩
      | 2, _ => exact ⟨_, by simp [go_sem]; rfl, by omega, by omega⟩
    rintro e w3 ⟨x, x0, x1, rfl, s1, g1⟩
    have D3 := Lib.hid ((D2.out.alloc _).step s1 g1)
    have Q3 := Lib.hid ((Q2.out.alloc _).grownA g1 (by omega))
    have X3 := Lib.hid ((X2.out.alloc _).grownA g1 (by omega))
    clear s1 g1 D2 Q2 X2 x0 x1
    obtain ⟨x0, x1, x2⟩ := X3.out.c2
    obtain ⟨y0, y1⟩ := X3.out.f2
    obtain ⟨q0, q1, q2⟩ := Q3.out.c2
    obtain ⟨r0, r1⟩ := Q3.out.f2
    go_wp2_with fail
    exact bodyPost_ret (v := .agg #[.int .i64 (x), .int .i64 (d)]) (by simp [results, Try.results70, go_sem, q0, q1]) rfl ⟨_, _, rfl, ((((D3.out.set (o := 0) (v := .int .i64 (x)) hb4').set (r := w.heap.size) (o := 0) (v := .int .i64 (x)) (Nat.le_refl _)).set (r := w.heap.size) (o := 1) (v := .int .i64 (d)) (Nat.le_refl _))).mono (by omega)⟩
  have b1 : (k == 1) = false := by simpa using e1
  by_cases e2 : k = 2
  · subst e2
    have D3 := D2
    have Q3 := Q2
    have X3 := X2
    obtain ⟨x0, x1, x2⟩ := X3.out.c2
    obtain ⟨y0, y1⟩ := X3.out.f2
    obtain ⟨q0, q1, q2⟩ := Q3.out.c2
    obtain ⟨r0, r1⟩ := Q3.out.f2
    go_wp2_with fail
    exact bodyPost_ret (v := .agg #[.int .i64 (2), .int .i64 (4)]) (by simp [results, Try.results70, go_sem, q0, q1]) rfl ⟨_, _, rfl, (((((D3.out.set (o := 0) (v := .int .i64 (2)) hb4').set (o := 1) (v := .int .i64 (4)) hb4').set (r := w.heap.size) (o := 0) (v := .int .i64 (2)) (Nat.le_refl _)).set (r := w.heap.size) (o := 1) (v := .int .i64 (4)) (Nat.le_refl _))).mono (by omega)⟩
  have b2 : (k == 2) = false := by simpa using e2
  by_cases e3 : k = 3
  · subst e3
    go_wp2_with fail
    refine (among_any _ p a len cap _ _ 2 (1) 2 (D2.out.alloc _).src (by omega) (by omega) (by omega) (by have := D2.out.src.lt; omega) (by simp) ?hnu).mono ?_
    case hnu =>
      intro i hi
      match i, hi with
      | 0, _ => exact ⟨_, by simp [go_sem]; rfl, by omega, by omega⟩
      | 1, _ => exact ⟨_, by simp [go_sem]; rfl, by omega, by omega⟩
    rintro e w3 ⟨x, x0, x1, rfl, s1, g1⟩
    have D3 := Lib.hid ((D2.out.alloc _).step s1 g1)
    have Q3 := Lib.hid ((Q2.out.alloc _).grownA g1 (by omega))
    have X3 := Lib.hid ((X2.out.alloc _).grownA g1 (by omega))
    clear s1 g1 D2 Q2 X2 x0 x1
    obtain ⟨x0, x1, x2⟩ := X3.out.c2
    obtain ⟨y0, y1⟩ := X3.out.f2
    obtain ⟨q0, q1, q2⟩ := Q3.out.c2
    obtain ⟨r0, r1⟩ := Q3.out.f2
    go_wp2_with fail
    exact bodyPost_ret (v := .agg #[.int .i64 (0), .int .i64 (x)]) (by simp [results, Try.results70, go_sem, q0, q1]) rfl ⟨_, _, rfl, (((((D3.out.set (o := 0) (v := .int .i64 (0)) hb4').set (o := 1) (v := .int .i64 (x)) hb4').set (r := w.heap.size) (o := 0) (v := .int .i64 (0)) (Nat.le_refl _)).set (r := w.heap.size) (o := 1) (v := .int .i64 (x)) (Nat.le_refl _))).mono (by omega)⟩
  have b3 : (k == 3) = false := by simpa using e3
  have D3 := D2
  have Q3 := Q2
  have X3 := X2
  obtain ⟨x0, x1, x2⟩ := X3.out.c2
  obtain ⟨y0, y1⟩ := X3.out.f2
  obtain ⟨q0, q1, q2⟩ := Q3.out.c2
  obtain ⟨r0, r1⟩ := Q3.out.f2
  go_wp2_with fail
  exact bodyPost_ret (v := .agg #[.int .i64 (n), .int .i64 (d)]) (by simp [results, Try.results70, go_sem, q0, q1]) rfl ⟨_, _, rfl, (((D3.out.set (r := w.heap.size) (o := 0) (v := .int .i64 (n)) (Nat.le_refl _)).set (r := w.heap.size) (o := 1) (v := .int .i64 (d)) (Nat.le_refl _))).mono (by omega)⟩
def WtDraw (w : World) (e : Ending) (w' : World) : Prop := ∃ m r : Int, e = .returned (.tuple #[.int .i64 m, .int .i64 r]) ∧ Below w.heap.size w w'
set_option maxRecDepth 100000 in
set_option maxHeartbeats 4000000 in
theorem DrawWeightFor_any (w : World) (a : Option Addr) (len cap : Nat) (zs : List Int) (h : IsRow .u8 w a len cap zs) :
    Calls Try.prog 34 #[.slice a len cap] w (WtDraw w) := by
  go_enter Try.func34, Try.ntmps34
  go_wp2_with fail
  refine (l00From_any w a len cap zs h).mono ?_
  rintro e w1 ⟨rfl, s1, hb⟩
  have S1 := Lib.hid (DS.new s1)
  have L1 := Lib.hid hb
  clear s1 hb h
  generalize hpp : w.heap.size = p at S1 ⊢
  have hwp : w.heap.size ≤ p := by omega
  go_wp2_with fail
  refine (pick_any _ p a len cap _ 60000 S1.out.src (by omega) (by omega) (by omega)).mono ?_
  rintro e w2 ⟨m, _, _, rfl, s1, g1⟩
  have S2 := Lib.hid (S1.out.step s1 g1)
  clear s1 g1 S1
  go_wp2_with fail
  refine (pick_any _ p a len cap _ 400 S2.out.src (by omega) (by omega) (by omega)).mono ?_
  rintro e w3 ⟨r, _, _, rfl, s1, g1⟩
  have S3 := Lib.hid (S2.out.step s1 g1)
  clear s1 g1 S2
  go_wp2_with fail
  refine (pick_any _ p a len cap _ 12 S3.out.src (by omega) (by omega) (by omega)).mono ?_
  rintro e w4 ⟨k, k0, k1, rfl, s1, g1⟩
  have S4 := Lib.hid (S3.out.step s1 g1)
  clear s1 g1 S3
  by_cases e0 : k = 0
  · subst e0
    go_wp2_with fail
    refine (among_any _ p a len cap _ _ 4 (-1) 1000000001 (S4.out.alloc _).src (by omega) (by omega) (by omega) (by have := S4.out.src.lt; omega) (by simp) ?hnu).mono ?_
    case hnu =>
      intro i hi
      match i, hi with
      | 0, _ => exact ⟨_, by simp [go_sem]; rfl, by omega, by omega⟩
      | 1, _ => exact ⟨_, by simp [go_sem]; rfl, by omega, by omega⟩
      | 2, _ => exact ⟨_, by simp [go_sem]; rfl, by omega, by omega⟩
      | 3, _ => exact ⟨_, by simp [go_sem]; rfl, by omega, by omega⟩
    rintro e w5 ⟨x, x0, x1, rfl, s1, g1⟩
    have L5 := Lib.hid (below_grown L1.out ((S4.out.alloc _).step s1 g1).gr hwp)
    clear s1 g1 S4 L1
    go_wp2_with fail
    go_ret2
    exact ⟨_, _, rfl, L5.out⟩
  have b0 : (k == 0) = false := by simpa using e0
  by_cases e1 : k = 1
  · subst e1
    go_wp2_with fail
    refine (among_any _ p a len cap _ _ 4 (0) 10001 (S4.out.alloc _).src (by omega) (by omega) (by omega) (by have := S4.out.src.lt; omega) (by simp) ?hnu).mono ?_
    case hnu =>
      intro i hi
      match i, hi with
      | 0, _ => exact ⟨_, by simp [go_sem]; rfl, by omega, by omega⟩
      | 1, _ => exact ⟨_, by simp [go_sem]; rfl, by omega, by omega⟩
      | 2, _ => exact ⟨_, by simp [go_sem]; rfl, by omega, by omega⟩
      | 3, _ => exact ⟨_, by simp [go_sem]; rfl, by omega, by omega⟩
    rintro e w5 ⟨x, x0, x1, rfl, s1, g1⟩
    have L5 := Lib.hid (below_grown L1.out ((S4.out.alloc _).step s1 g1).gr hwp)
    clear s1 g1 S4 L1
    go_wp2_with fail
    go_ret2
    exact ⟨_, _, rfl, L5.out⟩
  have b1 : (k == 1) = false := by simpa using e1
  have L5 := Lib.hid (below_grown L1.out S4.out.gr hwp)
  go_wp2_with fail
  go_ret2
  exact ⟨_, _, rfl, L5.out⟩
def DyDraw (w : World) (e : Ending) (w' : World) : Prop := ∃ x n d : Int, e = .returned (.tuple #[.int .i64 x, .agg #[.int .i64 n, .int .i64 d]]) ∧ Below w.heap.size w w'
theorem bset2 {w w' : World} {r : Nat} {v0 v1 : Value} (h : Below w.heap.size w w') (hr : w.heap.size ≤ r) : Below w.heap.size w ((w'.setCell ⟨r, 0, none⟩ v0).setCell ⟨r, 1, none⟩ v1) :=
  (h.setCell hr _).setCell hr _
set_option maxRecDepth 100000 in
set_option maxHeartbeats 4000000 in
theorem DrawDaysOf_any (w : World) (a : Option Addr) (len cap : Nat) (zs : List Int) (h : IsRow .u8 w a len cap zs) :
    Calls Try.prog 37 #[.slice a len cap] w (DyDraw w) := by
  have A0 := Lib.hid (h.keep (bA (bR w) (.cells #[.int .i64 0, .int .i64 0] 59)))
  have L0 := Lib.hid (bA (bR w) (.cells #[.int .i64 0, .int .i64 0] 59))
  have Q0 := Lib.hid (BoxL.new w [.int .i64 0, .int .i64 0] 59)
  have hw : (w.alloc (.cells #[.int .i64 0, .int .i64 0] 59)).heap.size = w.heap.size + 1 := by simp
  clear h
  go_enter Try.func37, Try.ntmps37
  go_wp2_with fail
  generalize w.alloc (.cells #[.int .i64 0, .int .i64 0] 59) = W0 at *
  refine (l00From_any W0 a len cap zs A0.out).mono ?_
  rintro e w1 ⟨rfl, s1, hb⟩
  have S1 := Lib.hid s1
  have L1 := Lib.hid (bT L0.out hb)
  have Q1 := Lib.hid (Q0.out.keep hb)
  clear s1 hb A0 L0 Q0
  generalize hpp : W0.heap.size = p at S1 ⊢
  have hwp : w.heap.size ≤ p := by omega
  have hwn : w.heap.size ≠ p := by omega
  go_wp2_with fail
  refine (pick_any _ p a len cap _ 2002 S1.out (by omega) (by omega) (by omega)).mono ?_
  rintro e w2 ⟨x, _, _, rfl, s1, g1⟩
  have S2 := Lib.hid s1
  have L2 := Lib.hid (below_grown L1.out g1 hwp)
  have Q2 := Lib.hid (Q1.out.grownA g1 hwn)
  clear s1 g1 S1 L1 Q1
  go_wp2_with fail
  refine (pick_any _ p a len cap _ 20 S2.out (by omega) (by omega) (by omega)).mono ?_
  rintro e w3 ⟨y, y0, y1, rfl, s1, g1⟩
  have S3 := Lib.hid s1
  have L3 := Lib.hid (below_grown L2.out g1 hwp)
  have Q3 := Lib.hid (Q2.out.grownA g1 hwn)
  clear s1 g1 S2 L2 Q2
  go_wp2_with fail
  generalize hz : x - y / 19 = z at *
  refine (l02Bent_any _ p a len cap _ S3.out (by omega)).mono ?_
  rintro e w4 ⟨n, d, rfl, d4⟩
  have S4 := Lib.hid ((d4.src).keep (bA (bR _) (.cells #[.int .i64 n, .int .i64 d] 59)))
  have L4 := Lib.hid (bA (below_grown L3.out d4.gr hwp) (.cells #[.int .i64 n, .int .i64 d] 59))
  have Q4 := Lib.hid ((Q3.out.grownA d4.gr hwn).alloc (.cells #[.int .i64 n, .int .i64 d] 59))
  have X4 := Lib.hid (BoxL.new w4 [.int .i64 n, .int .i64 d] 59)
  have hp4 := d4.src.lt
  have hb5 : w.heap.size < w4.heap.size := (Q3.out.grownA d4.gr hwn).lt
  have hnp : w4.heap.size ≠ p := by omega
  clear d4 S3 L3 Q3
  go_wp2_with fail
  generalize w4.alloc (.cells #[.int .i64 n, .int .i64 d] 59) = W4 at *
  generalize w4.heap.size = b5 at *
  have hb5' : w.heap.size ≤ b5 := by omega
  refine (oneQ_any _ p a len cap _ 2 S4.out (by omega) (by omega) (by omega)).mono ?_
  rintro e w5 ⟨q, rfl, s1, g1⟩
  have S5 := Lib.hid s1
  have L5 := Lib.hid (below_grown L4.out g1 hwp)
  have Q5 := Lib.hid (Q4.out.grownA g1 hwn)
  have X5 := Lib.hid (X4.out.grownA g1 hnp)
  clear s1 g1 S4 L4 Q4 X4
  have n1 : ¬ w.heap.size = b5 := by omega
  have n2 : ¬ b5 = w.heap.size := by omega
  cases q
  · obtain ⟨q0, q1, q2⟩ := Q5.out.c2
    obtain ⟨r0, r1⟩ := Q5.out.f2
    obtain ⟨x0, x1, x2⟩ := X5.out.c2
    go_wp2_with fail
    go_region
    go_wp2_with fail
    exact bodyPost_ret (v := .tuple #[.int .i64 z, .agg #[.int .i64 n, .int .i64 d]]) (by simp [results, Try.results37, go_sem, q0, q1]) rfl ⟨z, n, d, rfl, (bset2 L5.out (Nat.le_refl _)).drew⟩
  · go_wp2_with fail
    refine (pick_any _ p a len cap _ 4 S5.out (by omega) (by omega) (by omega)).mono ?_
    rintro e w6 ⟨k, k0, k1, rfl, s1, g1⟩
    have L6 := Lib.hid (below_grown L5.out g1 hwp)
    have Q6 := Lib.hid (Q5.out.grownA g1 hwn)
    have X6 := Lib.hid (X5.out.grownA g1 hnp)
    clear s1 g1 S5 L5 Q5 X5
    obtain ⟨q0, q1, q2⟩ := Q6.out.c2
    obtain ⟨r0, r1⟩ := Q6.out.f2
    obtain ⟨x0, x1, x2⟩ := X6.out.c2
    obtain ⟨y0, y1⟩ := X6.out.f2
    go_wp2_with fail
    go_region
    go_wp2_with fail
    exact bodyPost_ret (v := .tuple #[.int .i64 z, .agg #[.int .i64 (1 + k), .int .i64 1]]) (by simp [results, Try.results37, go_sem, q0, q1]) rfl ⟨z, 1 + k, 1, rfl, (bset2 (bset2 L6.out hb5') (Nat.le_refl _)).drew⟩
end Go.Proofs.Ytclefibjmnabbaa

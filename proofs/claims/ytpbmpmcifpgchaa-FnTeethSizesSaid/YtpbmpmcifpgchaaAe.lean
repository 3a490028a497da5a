/-
  Draws of profiles: spec.l10BentAngle, l10Draw, l10Bent.
-/
import Derived.Test.YtpbmpmcifpgchaaAd
namespace Go.Proofs.Ytpbmpmcifpgchaa
open Go.RowKit

set_option maxRecDepth 100000 in
set_option maxHeartbeats 2000000 in
theorem l10BentAngle_any (w : World) (p : Nat) (a : Option Addr) (len cap c : Nat) (h : SrcAt w p a len cap c) (hc : c ≤ 700000) :
    Calls Try.prog 49 #[.pointer (some ⟨p, 0, none⟩)] w (AnDraw 5001 w p a len cap (c + 20)) := by
  have D0 := Lib.hid ((DS.new h).alloc (.cells #[.int .i64 0, .int .i64 0, .int .i64 0] 28))
  have Q0 := Lib.hid (BoxL.new w [.int .i64 0, .int .i64 0, .int .i64 0] 28)
  have hp := h.lt
  clear h
  go_enter Try.func49, Try.ntmps49
  go_wp2_with fail
  refine (l10DrawAngle_any _ p a len cap c D0.out.src (by omega)).mono ?_
  rintro e w1 ⟨x, y, z, hx, hy, hz, rfl, d1⟩
  have D1 := Lib.hid (D0.out.step d1.src d1.gr)
  have Q1 := Lib.hid (Q0.out.grownA d1.gr (by omega))
  clear d1 D0 Q0
  go_wp2_with fail
  have D2 := Lib.hid (D1.out.alloc (.cells #[.int .i64 x, .int .i64 y, .int .i64 z] 28))
  have Q2 := Lib.hid (Q1.out.alloc (.cells #[.int .i64 x, .int .i64 y, .int .i64 z] 28))
  have X2 := Lib.hid (BoxL.new w1 [.int .i64 x, .int .i64 y, .int .i64 z] 28)
  have hb4 : w.heap.size < w1.heap.size := Q1.out.lt
  clear D1 Q1
  generalize w1.alloc (.cells #[.int .i64 x, .int .i64 y, .int .i64 z] 28) = W2 at *
  generalize w1.heap.size = b4 at *
  refine (pick_any _ p a len cap _ 24 D2.out.src (by omega) (by omega) (by omega)).mono ?_
  rintro e w3 ⟨v, v0, v1, rfl, s1, g1⟩
  have D3 := Lib.hid (D2.out.step s1 g1)
  have Q3 := Lib.hid (Q2.out.grownA g1 (by omega))
  have X3 := Lib.hid (X2.out.grownA g1 (by omega))
  clear s1 g1 D2 Q2 X2
  obtain ⟨q0, q1, q2, q3⟩ := Q3.out.c3
  obtain ⟨r0, r1, r2⟩ := Q3.out.f3
  obtain ⟨x0, x1, x2, x3⟩ := X3.out.c3
  obtain ⟨y0, y1, y2⟩ := X3.out.f3
  have n1 : ¬ w.heap.size = b4 := by omega
  have n2 : ¬ b4 = w.heap.size := by omega
  have hb4' : w.heap.size ≤ b4 := by omega
  by_cases e0 : v = 0
  · subst e0
    go_wp2_with fail
    exact bodyPost_ret (v := .agg #[.int .i64 x, .int .i64 y, .int .i64 (z + 1)]) (by simp [results, Try.results49, go_sem, q0, q1, q2]) rfl ⟨x, y, z + 1, by omega, by omega, by omega, rfl, ((((D3.out.set hb4').set (Nat.le_refl _)).set (Nat.le_refl _)).set (Nat.le_refl _)).mono (by omega)⟩
  by_cases e1 : v = 1
  · subst e1
    go_wp2_with fail
    exact bodyPost_ret (v := .agg #[.int .i64 0, .int .i64 5, .int .i64 5]) (by simp [results, Try.results49, go_sem, q0, q1, q2]) rfl ⟨0, 5, 5, by omega, by omega, by omega, rfl, ((((((D3.out.set hb4').set hb4').set hb4').set (Nat.le_refl _)).set (Nat.le_refl _)).set (Nat.le_refl _)).mono (by omega)⟩
  by_cases e2 : v = 2
  · subst e2
    go_wp2_with fail
    exact bodyPost_ret (v := .agg #[.int .i64 600, .int .i64 800, .int .i64 1000]) (by simp [results, Try.results49, go_sem, q0, q1, q2]) rfl ⟨600, 800, 1000, by omega, by omega, by omega, rfl, ((((((D3.out.set hb4').set hb4').set hb4').set (Nat.le_refl _)).set (Nat.le_refl _)).set (Nat.le_refl _)).mono (by omega)⟩
  by_cases e3 : v = 3
  · subst e3
    go_wp2_with fail
    exact bodyPost_ret (v := .agg #[.int .i64 3000, .int .i64 4000, .int .i64 5000]) (by simp [results, Try.results49, go_sem, q0, q1, q2]) rfl ⟨3000, 4000, 5000, by omega, by omega, by omega, rfl, ((((((D3.out.set hb4').set hb4').set hb4').set (Nat.le_refl _)).set (Nat.le_refl _)).set (Nat.le_refl _)).mono (by omega)⟩
  · have f0 : (v == 0) = false := by simpa using e0
    have f1 : (v == 1) = false := by simpa using e1
    have f2 : (v == 2) = false := by simpa using e2
    have f3 : (v == 3) = false := by simpa using e3
    go_wp2_with fail
    exact bodyPost_ret (v := .agg #[.int .i64 x, .int .i64 y, .int .i64 z]) (by simp [results, Try.results49, go_sem, q0, q1, q2]) rfl ⟨x, y, z, by omega, by omega, by omega, rfl, (((D3.out.set (Nat.le_refl _)).set (Nat.le_refl _)).set (Nat.le_refl _)).mono (by omega)⟩
def PfDraw (mx : Int) (w : World) (p : Nat) (a : Option Addr) (len cap d : Nat) (e : Ending) (w' : World) : Prop :=
  ∃ t m k s c h : Int, (0 ≤ t ∧ t ≤ 1000) ∧ (0 ≤ m ∧ m ≤ 1000) ∧ (0 ≤ k ∧ k ≤ 1000) ∧ (0 ≤ c ∧ c ≤ mx) ∧ e = .returned (.agg #[.int .i64 t, .int .i64 m, .int .i64 k, .int .i64 s, .int .i64 c, .int .i64 h]) ∧ DS w p a len cap d w'
theorem DS.set6 {w : World} {p : Nat} {a : Option Addr} {len cap c r : Nat} {w' : World} {v0 v1 v2 v3 v4 v5 : Value} (h : DS w p a len cap c w') (hr : w.heap.size ≤ r) : DS w p a len cap c ((((((w'.setCell ⟨r, 0, none⟩ v0).setCell ⟨r, 1, none⟩ v1).setCell ⟨r, 2, none⟩ v2).setCell ⟨r, 3, none⟩ v3).setCell ⟨r, 4, none⟩ v4).setCell ⟨r, 5, none⟩ v5) :=
  (((((h.set hr).set hr).set hr).set hr).set hr).set hr
set_option maxRecDepth 100000 in
set_option maxHeartbeats 4000000 in
theorem l10Draw_any (w : World) (p : Nat) (a : Option Addr) (len cap c : Nat) (h : SrcAt w p a len cap c) (hc : c ≤ 600000) :
    Calls Try.prog 87 #[.pointer (some ⟨p, 0, none⟩)] w (PfDraw 2000 w p a len cap (c + 30)) := by
  have D0 := Lib.hid ((DS.new h).alloc (.cells #[.int .i64 0, .int .i64 0, .int .i64 0, .int .i64 0, .int .i64 0, .int .i64 0] 30))
  have Q0 := Lib.hid (BoxL.new w [.int .i64 0, .int .i64 0, .int .i64 0, .int .i64 0, .int .i64 0, .int .i64 0] 30)
  have hp := h.lt
  clear h
  go_enter Try.func87, Try.ntmps87
  go_wp2_with fail
  refine (pick_any _ p a len cap c 60 D0.out.src (by omega) (by omega) (by omega)).mono ?_
  rintro e w1 ⟨t, t0, t1, rfl, s1, g1⟩
  have D1 := Lib.hid (D0.out.step s1 g1)
  have Q1 := Lib.hid (Q0.out.grownA g1 (by omega))
  clear s1 g1 D0 Q0
  go_wp2_with fail
  refine (oneQ_any _ p a len cap _ 8 D1.out.src (by omega) (by omega) (by omega)).mono ?_
  rintro e w2 ⟨q, rfl, s1, g1⟩
  have D2 := Lib.hid (D1.out.step s1 g1)
  have Q2 := Lib.hid (Q1.out.grownA g1 (by omega))
  clear s1 g1 D1 Q1
  go_upto_if 10 with fail
  go_cut [3] (fun i wx => ∃ t' : Int, i = .int .i64 t' ∧ (0 ≤ t' ∧ t' ≤ 1000) ∧ DS w p a len cap (c + 6) wx ∧ BoxL wx w.heap.size [.int .i64 0, .int .i64 0, .int .i64 0, .int .i64 0, .int .i64 0, .int .i64 0])
  case first =>
    cases q
    · go_wp2_with fail
      go_meet
      exact ⟨6 + t, rfl, by omega, D2.out.mono (by omega), Q2.out⟩
    · go_wp2_with fail
      refine (among_any _ p a len cap _ _ 3 6 240 (D2.out.alloc _).src (by omega) (by omega) (by omega) (by have := D2.out.src.lt; omega) (by simp) ?hnu).mono ?_
      case hnu =>
        intro i hi
        match i, hi with
        | 0, _ => exact ⟨_, by simp [go_sem]; rfl, by omega, by omega⟩
        | 1, _ => exact ⟨_, by simp [go_sem]; rfl, by omega, by omega⟩
        | 2, _ => exact ⟨_, by simp [go_sem]; rfl, by omega, by omega⟩
      rintro e w3 ⟨u, u0, u1, rfl, s1, g1⟩
      have D3 := Lib.hid ((D2.out.alloc _).step s1 g1)
      have Q3 := Lib.hid ((Q2.out.alloc _).grownA g1 (by omega))
      clear s1 g1 D2 Q2
      go_wp2_with fail
      go_meet
      exact ⟨u, rfl, by omega, D3.out.mono (by omega), Q3.out⟩
  case rest =>
    clear D2 Q2 t0 t1
    obtain ⟨t', rfl, ht, d3, q3⟩ := hcut
    have D3 := Lib.hid d3
    have Q3 := Lib.hid q3
    clear d3 q3
    generalize wc = w3 at *
    go_wp2_with fail
    refine (pick_any _ p a len cap _ 60 D3.out.src (by omega) (by omega) (by omega)).mono ?_
    rintro e w4 ⟨m, m0, m1, rfl, s1, g1⟩
    have D4 := Lib.hid (D3.out.step s1 g1)
    have Q4 := Lib.hid (Q3.out.grownA g1 (by omega))
    clear s1 g1 D3 Q3
    go_wp2_with fail
    refine (oneQ_any _ p a len cap _ 8 D4.out.src (by omega) (by omega) (by omega)).mono ?_
    rintro e w5 ⟨q, rfl, s1, g1⟩
    have D5 := Lib.hid (D4.out.step s1 g1)
    have Q5 := Lib.hid (Q4.out.grownA g1 (by omega))
    clear s1 g1 D4 Q4
    go_upto_if 18 with fail
    go_cut [4] (fun i wx => ∃ m' : Int, i = .int .i64 m' ∧ (0 ≤ m' ∧ m' ≤ 1000) ∧ DS w p a len cap (c + 12) wx ∧ BoxL wx w.heap.size [.int .i64 0, .int .i64 0, .int .i64 0, .int .i64 0, .int .i64 0, .int .i64 0])
    case first =>
      cases q
      · go_wp2_with fail
        go_meet
        exact ⟨1 + m, rfl, by omega, D5.out.mono (by omega), Q5.out⟩
      · go_wp2_with fail
        refine (among_any _ p a len cap _ _ 2 1 500 (D5.out.alloc _).src (by omega) (by omega) (by omega) (by have := D5.out.src.lt; omega) (by simp) ?hnu).mono ?_
        case hnu =>
          intro i hi
          match i, hi with
          | 0, _ => exact ⟨_, by simp [go_sem]; rfl, by omega, by omega⟩
          | 1, _ => exact ⟨_, by simp [go_sem]; rfl, by omega, by omega⟩
        rintro e w6 ⟨u, u0, u1, rfl, s1, g1⟩
        have D6 := Lib.hid ((D5.out.alloc _).step s1 g1)
        have Q6 := Lib.hid ((Q5.out.alloc _).grownA g1 (by omega))
        clear s1 g1 D5 Q5
        go_wp2_with fail
        go_meet
        exact ⟨u, rfl, by omega, D6.out.mono (by omega), Q6.out⟩
    case rest =>
      clear D5 Q5 m0 m1
      obtain ⟨m', rfl, hm, d6, q6⟩ := hcut
      have D6 := Lib.hid d6
      have Q6 := Lib.hid q6
      clear d6 q6
      generalize wc = w6 at *
      go_wp2_with fail
      refine (pick_any _ p a len cap _ 20 D6.out.src (by omega) (by omega) (by omega)).mono ?_
      rintro e w7 ⟨k, k0, k1, rfl, s1, g1⟩
      have D7 := Lib.hid (D6.out.step s1 g1)
      have Q7 := Lib.hid (Q6.out.grownA g1 (by omega))
      clear s1 g1 D6 Q6
      go_wp2_with fail
      refine (l10DrawAngle_any _ p a len cap _ D7.out.src (by omega)).mono ?_
      rintro e w8 ⟨x, y, z, hx, hy, hz, rfl, d1⟩
      have D8 := Lib.hid (D7.out.step d1.src d1.gr)
      have Q8 := Lib.hid (Q7.out.grownA d1.gr (by omega))
      clear d1 D7 Q7
      obtain ⟨q0, q1, q2, q3, q4, q5, q6⟩ := Q8.out.c6
      obtain ⟨r0, r1, r2, r3, r4, r5⟩ := Q8.out.f6
      go_wp2_with fail
      exact bodyPost_ret (v := .agg #[.int .i64 t', .int .i64 m', .int .i64 (1 + k), .int .i64 x, .int .i64 y, .int .i64 z]) (by simp [results, Try.results87, go_sem, q0, q1, q2, q3, q4, q5]) rfl ⟨t', m', 1 + k, x, y, z, by omega, by omega, by omega, by omega, rfl, (D8.out.set6 (Nat.le_refl _)).mono (by omega)⟩
set_option maxRecDepth 100000 in
set_option maxHeartbeats 4000000 in
theorem l10Bent_any (w : World) (p : Nat) (a : Option Addr) (len cap c : Nat) (h : SrcAt w p a len cap c) (hc : c ≤ 500000) :
    Calls Try.prog 58 #[.pointer (some ⟨p, 0, none⟩)] w (PfDraw 2001 w p a len cap (c + 40)) := by
  have D0 := Lib.hid ((DS.new h).alloc (.cells #[.int .i64 0, .int .i64 0, .int .i64 0, .int .i64 0, .int .i64 0, .int .i64 0] 30))
  have Q0 := Lib.hid (BoxL.new w [.int .i64 0, .int .i64 0, .int .i64 0, .int .i64 0, .int .i64 0, .int .i64 0] 30)
  have hp := h.lt
  clear h
  go_enter Try.func58, Try.ntmps58
  go_wp2_with fail
  refine (l10Draw_any _ p a len cap c D0.out.src (by omega)).mono ?_
  rintro e w1 ⟨t, m, k, s, y, h, ht, hm, hk, hy, rfl, d1⟩
  have D1 := Lib.hid (D0.out.step d1.src d1.gr)
  have Q1 := Lib.hid (Q0.out.grownA d1.gr (by omega))
  clear d1 D0 Q0
  go_wp2_with fail
  have D2 := Lib.hid (D1.out.alloc (.cells #[.int .i64 t, .int .i64 m, .int .i64 k, .int .i64 s, .int .i64 y, .int .i64 h] 30))
  have Q2 := Lib.hid (Q1.out.alloc (.cells #[.int .i64 t, .int .i64 m, .int .i64 k, .int .i64 s, .int .i64 y, .int .i64 h] 30))
  have X2 := Lib.hid (BoxL.new w1 [.int .i64 t, .int .i64 m, .int .i64 k, .int .i64 s, .int .i64 y, .int .i64 h] 30)
  have hb4 : w.heap.size < w1.heap.size := Q1.out.lt
  clear D1 Q1
  generalize w1.alloc (.cells #[.int .i64 t, .int .i64 m, .int .i64 k, .int .i64 s, .int .i64 y, .int .i64 h] 30) = W2 at *
  generalize w1.heap.size = b4 at *
  refine (pick_any _ p a len cap _ 40 D2.out.src (by omega) (by omega) (by omega)).mono ?_
  rintro e w3 ⟨v, v0, v1, rfl, s1, g1⟩
  have D3 := Lib.hid (D2.out.step s1 g1)
  have Q3 := Lib.hid (Q2.out.grownA g1 (by omega))
  have X3 := Lib.hid (X2.out.grownA g1 (by omega))
  clear s1 g1 D2 Q2 X2
  have n1 : ¬ w.heap.size = b4 := by omega
  have n2 : ¬ b4 = w.heap.size := by omega
  have hb4' : w.heap.size ≤ b4 := by omega
  by_cases e0 : v = 0
  · subst e0
    go_wp2_with fail
    refine (among_any _ p a len cap _ _ 2 5 241 (D3.out.alloc _).src (by omega) (by omega) (by omega) (by have := D3.out.src.lt; omega) (by simp) ?hnu).mono ?_
    case hnu =>
      intro i hi
      match i, hi with
      | 0, _ => exact ⟨_, by simp [go_sem]; rfl, by omega, by omega⟩
      | 1, _ => exact ⟨_, by simp [go_sem]; rfl, by omega, by omega⟩
    rintro e w4 ⟨u, u0, u1, rfl, s1, g1⟩
    have D4 := Lib.hid ((D3.out.alloc _).step s1 g1)
    have Q4 := Lib.hid ((Q3.out.alloc _).grownA g1 (by omega))
    have X4 := Lib.hid ((X3.out.alloc _).grownA g1 (by omega))
    clear s1 g1 D3 Q3 X3
    obtain ⟨q0, q1, q2, q3, q4, q5, q6⟩ := Q4.out.c6
    obtain ⟨r0, r1, r2, r3, r4, r5⟩ := Q4.out.f6
    obtain ⟨x0, x1, x2, x3, x4, x5, x6⟩ := X4.out.c6
    obtain ⟨y0, y1, y2, y3, y4, y5⟩ := X4.out.f6
    go_wp2_with fail
    exact bodyPost_ret (v := .agg #[.int .i64 u, .int .i64 m, .int .i64 k, .int .i64 s, .int .i64 y, .int .i64 h]) (by simp [results, Try.results58, go_sem, q0, q1, q2, q3, q4, q5]) rfl ⟨u, m, k, s, y, h, by omega, by omega, by omega, by omega, rfl, ((D4.out.set hb4').set6 (Nat.le_refl _)).mono (by omega)⟩
  by_cases e1 : v = 1
  · subst e1
    go_wp2_with fail
    refine (among_any _ p a len cap _ _ 2 0 501 (D3.out.alloc _).src (by omega) (by omega) (by omega) (by have := D3.out.src.lt; omega) (by simp) ?hnu).mono ?_
    case hnu =>
      intro i hi
      match i, hi with
      | 0, _ => exact ⟨_, by simp [go_sem]; rfl, by omega, by omega⟩
      | 1, _ => exact ⟨_, by simp [go_sem]; rfl, by omega, by omega⟩
    rintro e w4 ⟨u, u0, u1, rfl, s1, g1⟩
    have D4 := Lib.hid ((D3.out.alloc _).step s1 g1)
    have Q4 := Lib.hid ((Q3.out.alloc _).grownA g1 (by omega))
    have X4 := Lib.hid ((X3.out.alloc _).grownA g1 (by omega))
    clear s1 g1 D3 Q3 X3
    obtain ⟨q0, q1, q2, q3, q4, q5, q6⟩ := Q4.out.c6
    obtain ⟨r0, r1, r2, r3, r4, r5⟩ := Q4.out.f6
    obtain ⟨x0, x1, x2, x3, x4, x5, x6⟩ := X4.out.c6
    obtain ⟨y0, y1, y2, y3, y4, y5⟩ := X4.out.f6
    go_wp2_with fail
    exact bodyPost_ret (v := .agg #[.int .i64 t, .int .i64 u, .int .i64 k, .int .i64 s, .int .i64 y, .int .i64 h]) (by simp [results, Try.results58, go_sem, q0, q1, q2, q3, q4, q5]) rfl ⟨t, u, k, s, y, h, by omega, by omega, by omega, by omega, rfl, ((D4.out.set hb4').set6 (Nat.le_refl _)).mono (by omega)⟩
  by_cases e2 : v = 2
  · subst e2
    go_wp2_with fail
    refine (among_any _ p a len cap _ _ 2 0 21 (D3.out.alloc _).src (by omega) (by omega) (by omega) (by have := D3.out.src.lt; omega) (by simp) ?hnu).mono ?_
    case hnu =>
      intro i hi
      match i, hi with
      | 0, _ => exact ⟨_, by simp [go_sem]; rfl, by omega, by omega⟩
      | 1, _ => exact ⟨_, by simp [go_sem]; rfl, by omega, by omega⟩
    rintro e w4 ⟨u, u0, u1, rfl, s1, g1⟩
    have D4 := Lib.hid ((D3.out.alloc _).step s1 g1)
    have Q4 := Lib.hid ((Q3.out.alloc _).grownA g1 (by omega))
    have X4 := Lib.hid ((X3.out.alloc _).grownA g1 (by omega))
    clear s1 g1 D3 Q3 X3
    obtain ⟨q0, q1, q2, q3, q4, q5, q6⟩ := Q4.out.c6
    obtain ⟨r0, r1, r2, r3, r4, r5⟩ := Q4.out.f6
    obtain ⟨x0, x1, x2, x3, x4, x5, x6⟩ := X4.out.c6
    obtain ⟨y0, y1, y2, y3, y4, y5⟩ := X4.out.f6
    go_wp2_with fail
    exact bodyPost_ret (v := .agg #[.int .i64 t, .int .i64 m, .int .i64 u, .int .i64 s, .int .i64 y, .int .i64 h]) (by simp [results, Try.results58, go_sem, q0, q1, q2, q3, q4, q5]) rfl ⟨t, m, u, s, y, h, by omega, by omega, by omega, by omega, rfl, ((D4.out.set hb4').set6 (Nat.le_refl _)).mono (by omega)⟩
  obtain ⟨q0, q1, q2, q3, q4, q5, q6⟩ := Q3.out.c6
  obtain ⟨r0, r1, r2, r3, r4, r5⟩ := Q3.out.f6
  obtain ⟨x0, x1, x2, x3, x4, x5, x6⟩ := X3.out.c6
  obtain ⟨y0, y1, y2, y3, y4, y5⟩ := X3.out.f6
  by_cases e3 : v = 3
  · subst e3
    go_wp2_with fail
    exact bodyPost_ret (v := .agg #[.int .i64 t, .int .i64 m, .int .i64 k, .int .i64 s, .int .i64 (y + 1), .int .i64 h]) (by simp [results, Try.results58, go_sem, q0, q1, q2, q3, q4, q5]) rfl ⟨t, m, k, s, y + 1, h, by omega, by omega, by omega, by omega, rfl, ((D3.out.set hb4').set6 (Nat.le_refl _)).mono (by omega)⟩
  · have f0 : (v == 0) = false := by simpa using e0
    have f1 : (v == 1) = false := by simpa using e1
    have f2 : (v == 2) = false := by simpa using e2
    have f3 : (v == 3) = false := by simpa using e3
    go_wp2_with fail
    exact bodyPost_ret (v := .agg #[.int .i64 t, .int .i64 m, .int .i64 k, .int .i64 s, .int .i64 y, .int .i64 h]) (by simp [results, Try.results58, go_sem, q0, q1, q2, q3, q4, q5]) rfl ⟨t, m, k, s, y, h, by omega, by omega, by omega, by omega, rfl, (D3.out.set6 (Nat.le_refl _)).mono (by omega)⟩
end Go.Proofs.Ytpbmpmcifpgchaa

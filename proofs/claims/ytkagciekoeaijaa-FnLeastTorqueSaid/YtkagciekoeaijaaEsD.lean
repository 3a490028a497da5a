/-
  Draws of escapements.
-/
import Derived.Test.YtkagciekoeaijaaAd
import Derived.Test.YtkagciekoeaijaaEsB
namespace Go.Proofs.Ytkagciekoeaijaa
open Go.RowKit

/-- A drawn escapement: five small numbers. -/
def EsDraw (w : World) (p : Nat) (a : Option Addr) (len cap d : Nat) (en : Ending) (w' : World) : Prop :=
  ∃ t u i l m : Int, (-1 ≤ t ∧ t ≤ 200000) ∧ (-1 ≤ u ∧ u ≤ 200000) ∧ (-1 ≤ i ∧ i ≤ 200000) ∧ (-1 ≤ l ∧ l ≤ 200000) ∧ (-1 ≤ m ∧ m ≤ 150000) ∧ en = .returned (.agg #[.int .i64 t, .int .i64 u, .int .i64 i, .int .i64 l, .int .i64 m]) ∧ DS w p a len cap d w'
theorem DS.set5 {w : World} {p : Nat} {a : Option Addr} {len cap c r : Nat} {w' : World} {v0 v1 v2 v3 v4 : Value} (h : DS w p a len cap c w') (hr : w.heap.size ≤ r) : DS w p a len cap c (((((w'.setCell ⟨r, 0, none⟩ v0).setCell ⟨r, 1, none⟩ v1).setCell ⟨r, 2, none⟩ v2).setCell ⟨r, 3, none⟩ v3).setCell ⟨r, 4, none⟩ v4) :=
  ((((h.set hr).set hr).set hr).set hr).set hr
set_option maxRecDepth 100000 in
set_option maxHeartbeats 4000000 in
theorem l11Draw_any (w : World) (p : Nat) (a : Option Addr) (len cap c : Nat) (h : SrcAt w p a len cap c) (hc : c ≤ 600000) :
    Calls Try.prog 57 #[.pointer (some ⟨p, 0, none⟩)] w (EsDraw w p a len cap (c + 40)) := by
  have D0 := Lib.hid ((DS.new h).alloc (.cells #[.int .i64 0, .int .i64 0, .int .i64 0, .int .i64 0, .int .i64 0] 25))
  have Q0 := Lib.hid (BoxL.new w [.int .i64 0, .int .i64 0, .int .i64 0, .int .i64 0, .int .i64 0] 25)
  have hp := h.lt
  clear h
  go_enter Try.func57, Try.ntmps57
  go_wp2_with fail
  refine (pick_any _ p a len cap _ 30 D0.out.src (by omega) (by omega) (by omega)).mono ?_
  rintro en w1 ⟨u, u0, u1, rfl, s1, g1⟩
  have D1 := Lib.hid (D0.out.step s1 g1)
  have Q1 := Lib.hid (Q0.out.grownA g1 (by omega))
  clear s1 g1 D0 Q0
  go_wp2_with fail
  refine (pick_any _ p a len cap _ 90 D1.out.src (by omega) (by omega) (by omega)).mono ?_
  rintro en w2 ⟨i, i0, i1, rfl, s1, g1⟩
  have D2 := Lib.hid (D1.out.step s1 g1)
  have Q2 := Lib.hid (Q1.out.grownA g1 (by omega))
  clear s1 g1 D1 Q1
  go_wp2_with fail
  refine (pick_any _ p a len cap _ 120 D2.out.src (by omega) (by omega) (by omega)).mono ?_
  rintro en w3 ⟨l, l0, l1, rfl, s1, g1⟩
  have D3 := Lib.hid (D2.out.step s1 g1)
  have Q3 := Lib.hid (Q2.out.grownA g1 (by omega))
  clear s1 g1 D2 Q2
  go_wp2_with fail
  refine (pick_any _ p a len cap _ 900 D3.out.src (by omega) (by omega) (by omega)).mono ?_
  rintro en w4 ⟨m, m0, m1, rfl, s1, g1⟩
  have D4 := Lib.hid (D3.out.step s1 g1)
  have Q4 := Lib.hid (Q3.out.grownA g1 (by omega))
  clear s1 g1 D3 Q3
  go_wp2_with fail
  refine (oneQ_any _ p a len cap _ 8 D4.out.src (by omega) (by omega) (by omega)).mono ?_
  rintro en w5 ⟨q, rfl, s1, g1⟩
  have D5 := Lib.hid (D4.out.step s1 g1)
  have Q5 := Lib.hid (Q4.out.grownA g1 (by omega))
  clear s1 g1 D4 Q4
  go_upto_if 19 with fail
  go_cut [5] (fun s wx => ∃ l' : Int, s = .int .i64 l' ∧ (0 ≤ l' ∧ l' ≤ 1000) ∧ DS w p a len cap (c + 20) wx ∧ BoxL wx w.heap.size [.int .i64 0, .int .i64 0, .int .i64 0, .int .i64 0, .int .i64 0])
  case first =>
    cases q
    · go_wp2_with fail
      go_meet
      exact ⟨l, rfl, by omega, D5.out.mono (by omega), Q5.out⟩
    · go_wp2_with fail
      refine (among_any _ p a len cap _ _ 4 (0) (1000) (D5.out.alloc _).src (by omega) (by omega) (by omega) (by have := D5.out.src.lt; omega) (by simp) ?hnu).mono ?_
      case hnu =>
        intro i hi
        match i, hi with
        | 0, _ => exact ⟨_, by simp [go_sem]; rfl, by omega, by omega⟩
        | 1, _ => exact ⟨_, by simp [go_sem]; rfl, by omega, by omega⟩
        | 2, _ => exact ⟨_, by simp [go_sem]; rfl, by omega, by omega⟩
        | 3, _ => exact ⟨_, by simp [go_sem]; rfl, by omega, by omega⟩
      rintro en w6 ⟨v, v0, v1, rfl, s1, g1⟩
      have D6 := Lib.hid ((D5.out.alloc _).step s1 g1)
      have Q6 := Lib.hid ((Q5.out.alloc _).grownA g1 (by omega))
      clear s1 g1 D5 Q5
      go_wp2_with fail
      go_meet
      exact ⟨v, rfl, by omega, D6.out.mono (by omega), Q6.out⟩
  case rest =>
    clear D5 Q5 l0 l1
    obtain ⟨l', rfl, hl, d6, q6⟩ := hcut
    have D6 := Lib.hid d6
    have Q6 := Lib.hid q6
    clear d6 q6
    generalize wc = w6 at *
    go_wp2_with fail
    refine (oneQ_any _ p a len cap _ 10 D6.out.src (by omega) (by omega) (by omega)).mono ?_
    rintro en w7 ⟨q, rfl, s1, g1⟩
    have D7 := Lib.hid (D6.out.step s1 g1)
    have Q7 := Lib.hid (Q6.out.grownA g1 (by omega))
    clear s1 g1 D6 Q6
    go_upto_if 24 with fail
    go_cut [6] (fun s wx => ∃ m' : Int, s = .int .i64 m' ∧ (0 ≤ m' ∧ m' ≤ 6000) ∧ DS w p a len cap (c + 30) wx ∧ BoxL wx w.heap.size [.int .i64 0, .int .i64 0, .int .i64 0, .int .i64 0, .int .i64 0])
    case first =>
      cases q
      · go_wp2_with fail
        go_meet
        exact ⟨1 + u + m, rfl, by omega, D7.out.mono (by omega), Q7.out⟩
      · go_wp2_with fail
        refine (among_any _ p a len cap _ _ 3 (0) (5000) (D7.out.alloc _).src (by omega) (by omega) (by omega) (by have := D7.out.src.lt; omega) (by simp) ?hnu).mono ?_
        case hnu =>
          intro i hi
          match i, hi with
          | 0, _ => exact ⟨_, by simp [go_sem]; rfl, by omega, by omega⟩
          | 1, _ => exact ⟨_, by simp [go_sem]; rfl, by omega, by omega⟩
          | 2, _ => exact ⟨_, by simp [go_sem]; rfl, by omega, by omega⟩
        rintro en w8 ⟨v, v0, v1, rfl, s1, g1⟩
        have D8 := Lib.hid ((D7.out.alloc _).step s1 g1)
        have Q8 := Lib.hid ((Q7.out.alloc _).grownA g1 (by omega))
        clear s1 g1 D7 Q7
        go_wp2_with fail
        go_meet
        exact ⟨v, rfl, by omega, D8.out.mono (by omega), Q8.out⟩
    case rest =>
      clear D7 Q7 m0 m1
      obtain ⟨m', rfl, hm, d8, q8⟩ := hcut
      have D8 := Lib.hid d8
      have Q8 := Lib.hid q8
      clear d8 q8
      generalize wc = w8 at *
      go_wp2_with fail
      refine (pick_any _ p a len cap _ 30 D8.out.src (by omega) (by omega) (by omega)).mono ?_
      rintro en w9 ⟨t, t0, t1, rfl, s1, g1⟩
      have D9 := Lib.hid (D8.out.step s1 g1)
      have Q9 := Lib.hid (Q8.out.grownA g1 (by omega))
      clear s1 g1 D8 Q8
      obtain ⟨q0, q1, q2, q3, q4, q5⟩ := Q9.out.c5
      obtain ⟨r0, r1, r2, r3, r4⟩ := Q9.out.f5
      go_wp2_with fail
      exact bodyPost_ret (v := .agg #[.int .i64 (6 + t), .int .i64 (1 + u), .int .i64 i, .int .i64 l', .int .i64 m']) (by simp [results, Try.results57, go_sem, q0, q1, q2, q3, q4]) rfl ⟨6 + t, 1 + u, i, l', m', by omega, by omega, by omega, by omega, by omega, rfl, (D9.out.set5 (Nat.le_refl _)).mono (by omega)⟩
set_option maxRecDepth 100000 in
set_option maxHeartbeats 4000000 in
theorem l11Bent_any (w : World) (p : Nat) (a : Option Addr) (len cap c : Nat) (h : SrcAt w p a len cap c) (hc : c ≤ 500000) :
    Calls Try.prog 31 #[.pointer (some ⟨p, 0, none⟩)] w (EsDraw w p a len cap (c + 60)) := by
  have D0 := Lib.hid ((DS.new h).alloc (.cells #[.int .i64 0, .int .i64 0, .int .i64 0, .int .i64 0, .int .i64 0] 25))
  have Q0 := Lib.hid (BoxL.new w [.int .i64 0, .int .i64 0, .int .i64 0, .int .i64 0, .int .i64 0] 25)
  have hp := h.lt
  clear h
  go_enter Try.func31, Try.ntmps31
  go_wp2_with fail
  refine (l11Draw_any _ p a len cap c D0.out.src (by omega)).mono ?_
  rintro en w1 ⟨t, u, i, l, m, ht, hu, hi, hl, hm, rfl, d1⟩
  have D1 := Lib.hid (D0.out.step d1.src d1.gr)
  have Q1 := Lib.hid (Q0.out.grownA d1.gr (by omega))
  clear d1 D0 Q0
  go_wp2_with fail
  have D2 := Lib.hid (D1.out.alloc (.cells #[.int .i64 t, .int .i64 u, .int .i64 i, .int .i64 l, .int .i64 m] 25))
  have Q2 := Lib.hid (Q1.out.alloc (.cells #[.int .i64 t, .int .i64 u, .int .i64 i, .int .i64 l, .int .i64 m] 25))
  have X2 := Lib.hid (BoxL.new w1 [.int .i64 t, .int .i64 u, .int .i64 i, .int .i64 l, .int .i64 m] 25)
  have hb4 : w.heap.size < w1.heap.size := Q1.out.lt
  have hpb : p < w1.heap.size := by omega
  clear D1 Q1
  generalize w1.alloc (.cells #[.int .i64 t, .int .i64 u, .int .i64 i, .int .i64 l, .int .i64 m] 25) = W2 at *
  generalize w1.heap.size = b4 at *
  refine (pick_any _ p a len cap _ 50 D2.out.src (by omega) (by omega) (by omega)).mono ?_
  rintro en w3 ⟨v, v0, v1, rfl, s1, g1⟩
  have D3 := Lib.hid (D2.out.step s1 g1)
  have Q3 := Lib.hid (Q2.out.grownA g1 (by omega))
  have X3 := Lib.hid (X2.out.grownA g1 (by omega))
  clear s1 g1 D2 Q2 X2
  have n1 : ¬ w.heap.size = b4 := by omega
  have n2 : ¬ b4 = w.heap.size := by omega
  have hb4' : w.heap.size ≤ b4 := by omega
  by_cases e0 : v = 0
  · subst e0
    go_wp2_with fail
    refine (among_any _ p a len cap _ _ 3 (5) (121) (D3.out.alloc _).src (by omega) (by omega) (by omega) (by have := D3.out.src.lt; omega) (by simp) ?hnu).mono ?_
    case hnu =>
      intro i hi
      match i, hi with
      | 0, _ => exact ⟨_, by simp [go_sem]; rfl, by omega, by omega⟩
      | 1, _ => exact ⟨_, by simp [go_sem]; rfl, by omega, by omega⟩
      | 2, _ => exact ⟨_, by simp [go_sem]; rfl, by omega, by omega⟩
    rintro en w4 ⟨z, z0, z1, rfl, s1, g1⟩
    have D4 := Lib.hid ((D3.out.alloc _).step s1 g1)
    have Q4 := Lib.hid ((Q3.out.alloc _).grownA g1 (by omega))
    have X4 := Lib.hid ((X3.out.alloc _).grownA g1 (by omega))
    clear s1 g1 D3 Q3 X3
    obtain ⟨x0, x1, x2, x3, x4, x5⟩ := X4.out.c5
    obtain ⟨f0, f1, f2, f3, f4⟩ := X4.out.f5
    obtain ⟨q0, q1, q2, q3, q4, q5⟩ := Q4.out.c5
    obtain ⟨r0, r1, r2, r3, r4⟩ := Q4.out.f5
    go_wp2_with fail
    exact bodyPost_ret (v := .agg #[.int .i64 z, .int .i64 u, .int .i64 i, .int .i64 l, .int .i64 m]) (by simp [results, Try.results31, go_sem, q0, q1, q2, q3, q4]) rfl ⟨_, _, _, _, _, by omega, by omega, by omega, by omega, by omega, rfl, by first | exact ((D4.out.set hb4').set5 (Nat.le_refl _)).mono (by omega) | exact (DS.set (DS.set5 D4.out (Nat.le_refl _)) hb4').mono (by omega)⟩
  have f0 : (v == 0) = false := by simpa using e0
  by_cases e1 : v = 1
  · subst e1
    obtain ⟨x0, x1, x2, x3, x4, x5⟩ := X3.out.c5
    go_wp2_with fail
    refine (among_any _ p a len cap _ _ 3 (-1) (160000) (D3.out.alloc _).src (by omega) (by omega) (by omega) (by have := D3.out.src.lt; omega) (by simp) ?hnu).mono ?_
    case hnu =>
      intro i hi
      match i, hi with
      | 0, _ => exact ⟨_, by simp [go_sem]; rfl, by omega, by omega⟩
      | 1, _ => exact ⟨_, by simp [go_sem]; rfl, by omega, by omega⟩
      | 2, _ => exact ⟨_, by simp [go_sem]; rfl, by omega, by omega⟩
    rintro en w4 ⟨z, z0, z1, rfl, s1, g1⟩
    have D4 := Lib.hid ((D3.out.alloc _).step s1 g1)
    have Q4 := Lib.hid ((Q3.out.alloc _).grownA g1 (by omega))
    have X4 := Lib.hid ((X3.out.alloc _).grownA g1 (by omega))
    clear s1 g1 D3 Q3 X3 x0 x1 x2 x3 x4 x5
    obtain ⟨x0, x1, x2, x3, x4, x5⟩ := X4.out.c5
    obtain ⟨f0, f1, f2, f3, f4⟩ := X4.out.f5
    obtain ⟨q0, q1, q2, q3, q4, q5⟩ := Q4.out.c5
    obtain ⟨r0, r1, r2, r3, r4⟩ := Q4.out.f5
    go_wp2_with fail
    exact bodyPost_ret (v := .agg #[.int .i64 t, .int .i64 z, .int .i64 i, .int .i64 l, .int .i64 m]) (by simp [results, Try.results31, go_sem, q0, q1, q2, q3, q4]) rfl ⟨_, _, _, _, _, by omega, by omega, by omega, by omega, by omega, rfl, by first | exact ((D4.out.set hb4').set5 (Nat.le_refl _)).mono (by omega) | exact (DS.set (DS.set5 D4.out (Nat.le_refl _)) hb4').mono (by omega)⟩
  have f1 : (v == 1) = false := by simpa using e1
  by_cases e2 : v = 2
  · subst e2
    go_wp2_with fail
    refine (among_any _ p a len cap _ _ 2 (-1) (1001) (D3.out.alloc _).src (by omega) (by omega) (by omega) (by have := D3.out.src.lt; omega) (by simp) ?hnu).mono ?_
    case hnu =>
      intro i hi
      match i, hi with
      | 0, _ => exact ⟨_, by simp [go_sem]; rfl, by omega, by omega⟩
      | 1, _ => exact ⟨_, by simp [go_sem]; rfl, by omega, by omega⟩
    rintro en w4 ⟨z, z0, z1, rfl, s1, g1⟩
    have D4 := Lib.hid ((D3.out.alloc _).step s1 g1)
    have Q4 := Lib.hid ((Q3.out.alloc _).grownA g1 (by omega))
    have X4 := Lib.hid ((X3.out.alloc _).grownA g1 (by omega))
    clear s1 g1 D3 Q3 X3
    obtain ⟨x0, x1, x2, x3, x4, x5⟩ := X4.out.c5
    obtain ⟨f0, f1, f2, f3, f4⟩ := X4.out.f5
    obtain ⟨q0, q1, q2, q3, q4, q5⟩ := Q4.out.c5
    obtain ⟨r0, r1, r2, r3, r4⟩ := Q4.out.f5
    go_wp2_with fail
    exact bodyPost_ret (v := .agg #[.int .i64 t, .int .i64 u, .int .i64 i, .int .i64 z, .int .i64 m]) (by simp [results, Try.results31, go_sem, q0, q1, q2, q3, q4]) rfl ⟨_, _, _, _, _, by omega, by omega, by omega, by omega, by omega, rfl, by first | exact ((D4.out.set hb4').set5 (Nat.le_refl _)).mono (by omega) | exact (DS.set (DS.set5 D4.out (Nat.le_refl _)) hb4').mono (by omega)⟩
  have f2 : (v == 2) = false := by simpa using e2
  by_cases e3 : v = 3
  · subst e3
    obtain ⟨x0, x1, x2, x3, x4, x5⟩ := X3.out.c5
    obtain ⟨f0, f1, f2, f3, f4⟩ := X3.out.f5
    obtain ⟨q0, q1, q2, q3, q4, q5⟩ := Q3.out.c5
    obtain ⟨r0, r1, r2, r3, r4⟩ := Q3.out.f5
    go_wp2_with fail
    exact bodyPost_ret (v := .agg #[.int .i64 t, .int .i64 u, .int .i64 i, .int .i64 l, .int .i64 100001]) (by simp [results, Try.results31, go_sem, q0, q1, q2, q3, q4]) rfl ⟨_, _, _, _, _, by omega, by omega, by omega, by omega, by omega, rfl, by first | exact ((D3.out.set hb4').set5 (Nat.le_refl _)).mono (by omega) | exact (DS.set (DS.set5 D3.out (Nat.le_refl _)) hb4').mono (by omega)⟩
  have f3 : (v == 3) = false := by simpa using e3
  by_cases e4 : v = 4
  · subst e4
    go_wp2_with fail
    refine (among_any _ p a len cap _ _ 3 (-1) (100001) (D3.out.alloc _).src (by omega) (by omega) (by omega) (by have := D3.out.src.lt; omega) (by simp) ?hnu).mono ?_
    case hnu =>
      intro i hi
      match i, hi with
      | 0, _ => exact ⟨_, by simp [go_sem]; rfl, by omega, by omega⟩
      | 1, _ => exact ⟨_, by simp [go_sem]; rfl, by omega, by omega⟩
      | 2, _ => exact ⟨_, by simp [go_sem]; rfl, by omega, by omega⟩
    rintro en w4 ⟨z, z0, z1, rfl, s1, g1⟩
    have D4 := Lib.hid ((D3.out.alloc _).step s1 g1)
    have Q4 := Lib.hid ((Q3.out.alloc _).grownA g1 (by omega))
    have X4 := Lib.hid ((X3.out.alloc _).grownA g1 (by omega))
    clear s1 g1 D3 Q3 X3
    obtain ⟨x0, x1, x2, x3, x4, x5⟩ := X4.out.c5
    obtain ⟨f0, f1, f2, f3, f4⟩ := X4.out.f5
    obtain ⟨q0, q1, q2, q3, q4, q5⟩ := Q4.out.c5
    obtain ⟨r0, r1, r2, r3, r4⟩ := Q4.out.f5
    go_wp2_with fail
    exact bodyPost_ret (v := .agg #[.int .i64 t, .int .i64 u, .int .i64 z, .int .i64 l, .int .i64 m]) (by simp [results, Try.results31, go_sem, q0, q1, q2, q3, q4]) rfl ⟨_, _, _, _, _, by omega, by omega, by omega, by omega, by omega, rfl, by first | exact ((D4.out.set hb4').set5 (Nat.le_refl _)).mono (by omega) | exact (DS.set (DS.set5 D4.out (Nat.le_refl _)) hb4').mono (by omega)⟩
  have f4 : (v == 4) = false := by simpa using e4
  obtain ⟨x0, x1, x2, x3, x4, x5⟩ := X3.out.c5
  obtain ⟨q0, q1, q2, q3, q4, q5⟩ := Q3.out.c5
  obtain ⟨r0, r1, r2, r3, r4⟩ := Q3.out.f5
  go_wp2_with fail
  exact bodyPost_ret (v := .agg #[.int .i64 t, .int .i64 u, .int .i64 i, .int .i64 l, .int .i64 m]) (by simp [results, Try.results31, go_sem, q0, q1, q2, q3, q4]) rfl ⟨_, _, _, _, _, ht, hu, hi, hl, hm, rfl, (DS.set5 D3.out (Nat.le_refl _)).mono (by omega)⟩
end Go.Proofs.Ytkagciekoeaijaa

/-
  Draws of states; of an escapement, a number and a state.
-/
import Derived.Test.YtkagciekoeaijaaEsE
namespace Go.Proofs.Ytkagciekoeaijaa
open Go.RowKit

theorem l00MaxE_any (x y : Int) (w : World) :
    Calls Try.prog 60 #[.int .i64 x, .int .i64 y] w fun e w' => e = .returned (.int .i64 (max x y)) ∧ w = w' := by
  by_cases h : y < x
  · go_enter Try.func60, Try.ntmps60
    go_wp2
    go_ret
    exact ⟨ret_int (by omega), rfl⟩
  · go_enter Try.func60, Try.ntmps60
    go_wp2
    go_ret
    exact ⟨ret_int (by omega), rfl⟩
/-- A drawn state. -/
def BtDraw (w : World) (p : Nat) (a : Option Addr) (len cap d : Nat) (en : Ending) (w' : World) : Prop := ∃ e k : Int, (-1 ≤ e ∧ e ≤ 200000) ∧ (-1 ≤ k ∧ k ≤ 1000000001) ∧ en = .returned (.agg #[.int .i64 e, .int .i64 k]) ∧ DS w p a len cap d w'
set_option maxRecDepth 100000 in
set_option maxHeartbeats 4000000 in
theorem l11DrawBeat_any (w : World) (p : Nat) (a : Option Addr) (len cap c : Nat) (t u i l m : Int) (h : SrcAt w p a len cap c) (hc : c ≤ 600000) (hm : -1 ≤ m ∧ m ≤ 150000) :
    Calls Try.prog 35 #[.pointer (some ⟨p, 0, none⟩), .agg #[.int .i64 t, .int .i64 u, .int .i64 i, .int .i64 l, .int .i64 m]] w (BtDraw w p a len cap (c + 20)) := by
  have D0 := Lib.hid (((DS.new h).alloc (.cells #[.int .i64 t, .int .i64 u, .int .i64 i, .int .i64 l, .int .i64 m] 25)).alloc (.cells #[.int .i64 0, .int .i64 0] 28))
  have X0 := Lib.hid ((BoxL.new w [.int .i64 t, .int .i64 u, .int .i64 i, .int .i64 l, .int .i64 m] 25).alloc (.cells #[.int .i64 0, .int .i64 0] 28))
  have Q0 := Lib.hid (BoxL.at_ (w := w.alloc (.cells #[.int .i64 t, .int .i64 u, .int .i64 i, .int .i64 l, .int .i64 m] 25)) (b := w.heap.size + 1) (vs := [.int .i64 0, .int .i64 0]) (T := 28) (by simp))
  have hp := h.lt
  have lq : w.heap.size ≤ w.heap.size + 1 := by omega
  have hnp : w.heap.size ≠ p := by omega
  have hnq : w.heap.size + 1 ≠ p := by omega
  have hmx : 1 ≤ max 1 (m + 1) ∧ max 1 (m + 1) ≤ 150001 := by omega
  clear h
  go_enter Try.func35, Try.ntmps35
  go_wp2_with (go_at_call 60; refine (l00MaxE_any _ _ _).mono ?_; rintro e w1 ⟨rfl, rfl⟩)
  generalize (w.alloc (.cells #[.int .i64 t, .int .i64 u, .int .i64 i, .int .i64 l, .int .i64 m] 25)).alloc (.cells #[.int .i64 0, .int .i64 0] 28) = W0 at *
  generalize w.heap.size + 1 = bq at *
  refine (pick_any _ p a len cap c _ D0.out.src (by omega) (by omega) (by omega)).mono ?_
  rintro en w1 ⟨e, e0, e1, rfl, s1, g1⟩
  have D1 := Lib.hid (D0.out.step s1 g1)
  have X1 := Lib.hid (X0.out.grownA g1 hnp)
  have Q1 := Lib.hid (Q0.out.grownA g1 hnq)
  clear s1 g1 D0 X0 Q0
  go_wp2_with fail
  refine (pick_any _ p a len cap _ 300 D1.out.src (by omega) (by omega) (by omega)).mono ?_
  rintro en w2 ⟨k, k0, k1, rfl, s1, g1⟩
  have D2 := Lib.hid (D1.out.step s1 g1)
  have X2 := Lib.hid (X1.out.grownA g1 hnp)
  have Q2 := Lib.hid (Q1.out.grownA g1 hnq)
  clear s1 g1 D1 X1 Q1
  go_wp2_with fail
  refine (pick_any _ p a len cap _ 40 D2.out.src (by omega) (by omega) (by omega)).mono ?_
  rintro en w3 ⟨v, v0, v1, rfl, s1, g1⟩
  have D3 := Lib.hid (D2.out.step s1 g1)
  have X3 := Lib.hid (X2.out.grownA g1 hnp)
  have Q3 := Lib.hid (Q2.out.grownA g1 hnq)
  clear s1 g1 D2 X2 Q2
  have he : -1 ≤ e ∧ e ≤ 200000 := by omega
  clear e0 e1 hmx
  by_cases f0 : v = 0
  · subst f0
    obtain ⟨c0, c1, c2, c3, c4, c5⟩ := X3.out.c5
    go_wp2_with fail
    refine (among_any _ p a len cap _ _ 3 (-1) 150001 (D3.out.alloc _).src (by omega) (by omega) (by omega) (by have := D3.out.src.lt; omega) (by simp) ?hnu).mono ?_
    case hnu =>
      intro i hi
      match i, hi with
      | 0, _ => exact ⟨_, by simp [go_sem]; rfl, by omega, by omega⟩
      | 1, _ => exact ⟨_, by simp [go_sem]; rfl, by omega, by omega⟩
      | 2, _ => exact ⟨_, by simp [go_sem]; rfl, by omega, by omega⟩
    rintro en w4 ⟨z, z0, z1, rfl, s1, g1⟩
    have D4 := Lib.hid ((D3.out.alloc _).step s1 g1)
    have Q4 := Lib.hid ((Q3.out.alloc _).grownA g1 hnq)
    clear s1 g1 D3 Q3 X3 c0 c1 c2 c3 c4 c5
    obtain ⟨q0, q1, q2⟩ := Q4.out.c2
    obtain ⟨r0, r1⟩ := Q4.out.f2
    go_wp2_with fail
    exact bodyPost_ret (v := .agg #[.int .i64 z, .int .i64 k]) (by simp [results, Try.results35, go_sem, q0, q1]) rfl ⟨z, k, by omega, by omega, rfl, ((D4.out.set lq).set lq).mono (by omega)⟩
  have g0 : (v == 0) = false := by simpa using f0
  by_cases f1 : v = 1
  · subst f1
    go_wp2_with fail
    refine (among_any _ p a len cap _ _ 4 (-1) 1000000001 (D3.out.alloc _).src (by omega) (by omega) (by omega) (by have := D3.out.src.lt; omega) (by simp) ?hnu).mono ?_
    case hnu =>
      intro i hi
      match i, hi with
      | 0, _ => exact ⟨_, by simp [go_sem]; rfl, by omega, by omega⟩
      | 1, _ => exact ⟨_, by simp [go_sem]; rfl, by omega, by omega⟩
      | 2, _ => exact ⟨_, by simp [go_sem]; rfl, by omega, by omega⟩
      | 3, _ => exact ⟨_, by simp [go_sem]; rfl, by omega, by omega⟩
    rintro en w4 ⟨z, z0, z1, rfl, s1, g1⟩
    have D4 := Lib.hid ((D3.out.alloc _).step s1 g1)
    have Q4 := Lib.hid ((Q3.out.alloc _).grownA g1 hnq)
    clear s1 g1 D3 Q3 X3
    obtain ⟨q0, q1, q2⟩ := Q4.out.c2
    obtain ⟨r0, r1⟩ := Q4.out.f2
    go_wp2_with fail
    exact bodyPost_ret (v := .agg #[.int .i64 e, .int .i64 z]) (by simp [results, Try.results35, go_sem, q0, q1]) rfl ⟨e, z, by omega, by omega, rfl, ((D4.out.set lq).set lq).mono (by omega)⟩
  have g1 : (v == 1) = false := by simpa using f1
  obtain ⟨q0, q1, q2⟩ := Q3.out.c2
  obtain ⟨r0, r1⟩ := Q3.out.f2
  go_wp2_with fail
  exact bodyPost_ret (v := .agg #[.int .i64 e, .int .i64 k]) (by simp [results, Try.results35, go_sem, q0, q1]) rfl ⟨e, k, by omega, by omega, rfl, ((D3.out.set lq).set lq).mono (by omega)⟩
end Go.Proofs.Ytkagciekoeaijaa

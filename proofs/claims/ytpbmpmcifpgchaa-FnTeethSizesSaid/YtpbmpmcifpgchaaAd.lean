/-
  Draws: what is kept of a source while new blocks are made and written; spec.l00Src.one; spec.l10DrawAngle, l10BentAngle.
-/
import Derived.Test.YtpbmpmcifpgchaaDraw2
import Derived.Test.YtpbmpmcifpgchaaBl
import Derived.Deep.DeepCutAuto
namespace Go.Proofs.Ytpbmpmcifpgchaa
open Go.RowKit

def OneQ (w : World) (p : Nat) (a : Option Addr) (len cap c : Nat) (e : Ending) (w' : World) : Prop := ∃ b : Bool, e = .returned (.bool b) ∧ SrcAt w' p a len cap (c + 2) ∧ w.grownBy w' (some p)
theorem oneQ_any (w : World) (p : Nat) (a : Option Addr) (len cap c : Nat) (n : Int) (h : SrcAt w p a len cap c) (hc : c ≤ 900000) (h1 : 1 ≤ n) (h2 : n ≤ 1000000) :
    Calls Try.prog 59 #[.pointer (some ⟨p, 0, none⟩), .int .i64 n] w (OneQ w p a len cap c) := by
  go_enter Try.func59, Try.ntmps59
  go_wp2_with fail
  refine (pick_any _ p a len cap c n h (by omega) h1 h2).mono ?_
  rintro e w1 ⟨x, x0, x1, rfl, s1, g1⟩
  go_wp2_with fail
  go_ret
  exact ⟨_, rfl, s1, g1⟩
/-- A box of numbers through a step that writes another block. -/
theorem BoxL.grownA {w w' : World} {b p : Nat} {vs : List Value} (h : BoxL w b vs) (g : w.grownBy w' (some p)) (hn : b ≠ p) : BoxL w' b vs :=
  ⟨fun i u e => ((gcell g).1 b i h.lt hn).trans (h.c i u e), fun i u e => ((gcell g).2 b i h.lt hn).trans (h.f i u e), Nat.lt_of_lt_of_le h.lt g.size⟩
theorem BoxL.f3 {w : World} {b : Nat} {u v x : Value} (h : BoxL w b [u, v, x]) : w.frozen? ⟨b, 0, none⟩ = false ∧ w.frozen? ⟨b, 1, none⟩ = false ∧ w.frozen? ⟨b, 2, none⟩ = false := ⟨h.f 0 _ rfl, h.f 1 _ rfl, h.f 2 _ rfl⟩
theorem BoxL.set3 {w : World} {b : Nat} {u v x : Value} (h : BoxL w b [u, v, x]) (u' v' x' : Value) : BoxL (((w.setCell ⟨b, 0, none⟩ u').setCell ⟨b, 1, none⟩ v').setCell ⟨b, 2, none⟩ x') b [u', v', x'] := by
  obtain ⟨c0, c1, c2, c3⟩ := h.c3
  obtain ⟨f0, f1, f2⟩ := h.f3
  refine ⟨fun i y e => ?_, fun i y e => ?_, by simpa [World.setCell] using c3⟩
  · match i, e with
    | 0, e => cases e; simp [go_sem, c0]
    | 1, e => cases e; simp [go_sem, c1]
    | 2, e => cases e; simp [go_sem, c2]
  · match i, e with
    | 0, e => simp [go_sem, f0]
    | 1, e => simp [go_sem, f1]
    | 2, e => simp [go_sem, f2]
theorem BoxL.oth3 {w : World} {b b' : Nat} {vs : List Value} {u v x : Value} (h : BoxL w b vs) (hn : b ≠ b') : BoxL (((w.setCell ⟨b', 0, none⟩ u).setCell ⟨b', 1, none⟩ v).setCell ⟨b', 2, none⟩ x) b vs := ((h.other hn).other hn).other hn
/-- A source and what lay before, from world w on. -/
structure DS (w : World) (p : Nat) (a : Option Addr) (len cap c : Nat) (w' : World) : Prop where
  src : SrcAt w' p a len cap c
  gr : w.grownBy w' (some p)
  old : 0 < len → ∀ xb xo, a = some ⟨xb, xo, none⟩ → xb < w.heap.size
  pl : p < w.heap.size
theorem DS.new {w : World} {p : Nat} {a : Option Addr} {len cap c : Nat} (h : SrcAt w p a len cap c) : DS w p a len cap c w :=
  ⟨h, gRefl _ _, fun hl xb xo e => by
    apply Classical.byContradiction; intro hn
    exact (SrcAt.old h hl (r := xb) (by omega)) xb xo e rfl, h.lt⟩
theorem DS.keep {w : World} {p : Nat} {a : Option Addr} {len cap c : Nat} {w' x : World} (h : DS w p a len cap c w') (hb : Below w'.heap.size w' x) : DS w p a len cap c x := ⟨h.src.keep hb, gBelow h.gr hb, h.old, h.pl⟩
theorem DS.alloc {w : World} {p : Nat} {a : Option Addr} {len cap c : Nat} {w' : World} (h : DS w p a len cap c w') (o : Obj) : DS w p a len cap c (w'.alloc o) := h.keep (bA (bR _) _)
theorem DS.step {w : World} {p : Nat} {a : Option Addr} {len cap c d : Nat} {w' x : World} (h : DS w p a len cap c w') (s : SrcAt x p a len cap d) (g : w'.grownBy x (some p)) : DS w p a len cap d x := ⟨s, gTrans h.gr g, h.old, h.pl⟩
theorem DS.set {w : World} {p : Nat} {a : Option Addr} {len cap c r o : Nat} {w' : World} {v : Value} (h : DS w p a len cap c w') (hr : w.heap.size ≤ r) : DS w p a len cap c (w'.setCell ⟨r, o, none⟩ v) :=
  ⟨h.src.set (by have := h.pl; omega) (fun hl xb xo e => by have := h.old hl xb xo e; omega), gSet h.gr hr, h.old, h.pl⟩
theorem DS.mono {w : World} {p : Nat} {a : Option Addr} {len cap c d : Nat} {w' : World} (h : DS w p a len cap c w') (hc : c ≤ d) : DS w p a len cap d w' := ⟨h.src.mono hc, h.gr, h.old, h.pl⟩
def AnDraw (mx : Int) (w : World) (p : Nat) (a : Option Addr) (len cap d : Nat) (e : Ending) (w' : World) : Prop :=
  ∃ s c h : Int, (0 ≤ s ∧ s ≤ mx) ∧ (0 ≤ c ∧ c ≤ mx) ∧ (0 ≤ h ∧ h ≤ mx) ∧ e = .returned (.agg #[.int .i64 s, .int .i64 c, .int .i64 h]) ∧ DS w p a len cap d w'
/-- The cells of the list of angles. -/
def anL : List Value := [.int .i64 5, .int .i64 12, .int .i64 13, .int .i64 7, .int .i64 24, .int .i64 25, .int .i64 8, .int .i64 15, .int .i64 17, .int .i64 12, .int .i64 35, .int .i64 37, .int .i64 3, .int .i64 4, .int .i64 5, .int .i64 20, .int .i64 21, .int .i64 29, .int .i64 9, .int .i64 40, .int .i64 41, .int .i64 60, .int .i64 11, .int .i64 61, .int .i64 33, .int .i64 544, .int .i64 545]
theorem anL_at {w : World} {b i : Nat} (h : BoxL w b anL) (hi : i < 9) : ∃ x y z : Int, w.cell? ⟨b, i * 3, none⟩ = some (.int .i64 x) ∧ w.cell? ⟨b, i * 3 + 1, none⟩ = some (.int .i64 y) ∧ w.cell? ⟨b, i * 3 + 2, none⟩ = some (.int .i64 z) ∧ (0 ≤ x ∧ x ≤ 600) ∧ (0 ≤ y ∧ y ≤ 600) ∧ (0 ≤ z ∧ z ≤ 600) := by
  have : i = 0 ∨ i = 1 ∨ i = 2 ∨ i = 3 ∨ i = 4 ∨ i = 5 ∨ i = 6 ∨ i = 7 ∨ i = 8 := by omega
  rcases this with rfl | rfl | rfl | rfl | rfl | rfl | rfl | rfl | rfl <;> exact ⟨_, _, _, h.c _ _ rfl, h.c _ _ rfl, h.c _ _ rfl, by omega, by omega, by omega⟩
set_option maxRecDepth 100000 in
set_option maxHeartbeats 2000000 in
theorem l10DrawAngle_any (w : World) (p : Nat) (a : Option Addr) (len cap c : Nat) (h : SrcAt w p a len cap c) (hc : c ≤ 800000) :
    Calls Try.prog 81 #[.pointer (some ⟨p, 0, none⟩)] w (AnDraw 2000 w p a len cap (c + 10)) := by
  have D0 := Lib.hid (((DS.new h).alloc (.cells #[.int .i64 0, .int .i64 0, .int .i64 0] 28)).alloc (.cells anL.toArray 28))
  have Q0 := Lib.hid ((BoxL.new w [.int .i64 0, .int .i64 0, .int .i64 0] 28).alloc (.cells anL.toArray 28))
  have L0 := Lib.hid (BoxL.at_ (w := w.alloc (.cells #[.int .i64 0, .int .i64 0, .int .i64 0] 28)) (b := w.heap.size + 1) (vs := anL) (T := 28) (by simp))
  have hp := h.lt
  clear h
  go_enter Try.func81, Try.ntmps81
  go_wp2_with fail
  refine (pick_any _ p a len cap c 9 D0.out.src (by omega) (by omega) (by omega)).mono ?_
  rintro e w1 ⟨v, v0, v1, rfl, s1, g1⟩
  have D1 := Lib.hid (D0.out.step s1 g1)
  have Q1 := Lib.hid (Q0.out.grownA g1 (by omega))
  have L1 := Lib.hid (L0.out.grownA g1 (by omega))
  clear s1 g1 D0 Q0 L0
  obtain ⟨i, rfl⟩ := Int.eq_ofNat_of_zero_le v0
  obtain ⟨x, y, z, cx, cy, cz, bx, by_, bz⟩ := anL_at L1.out (i := i) (by omega)
  have hi9 : (i : Int) < 9 := by omega
  go_wp2_with fail
  have D2 := Lib.hid (D1.out.alloc (.cells #[.int .i64 x, .int .i64 y, .int .i64 z] 28))
  have Q2 := Lib.hid (Q1.out.alloc (.cells #[.int .i64 x, .int .i64 y, .int .i64 z] 28))
  have L2 := Lib.hid (L1.out.alloc (.cells #[.int .i64 x, .int .i64 y, .int .i64 z] 28))
  have X2 := Lib.hid (BoxL.new w1 [.int .i64 x, .int .i64 y, .int .i64 z] 28)
  have hb4 : w.heap.size + 1 < w1.heap.size := L1.out.lt
  clear cx cy cz D1 Q1 L1
  generalize w1.alloc (.cells #[.int .i64 x, .int .i64 y, .int .i64 z] 28) = W2 at *
  generalize w1.heap.size = b4 at *
  refine (oneQ_any _ p a len cap _ 6 D2.out.src (by omega) (by omega) (by omega)).mono ?_
  rintro e w3 ⟨q, rfl, s1, g1⟩
  have D3 := Lib.hid (D2.out.step s1 g1)
  have Q3 := Lib.hid (Q2.out.grownA g1 (by omega))
  have L3 := Lib.hid (L2.out.grownA g1 (by omega))
  have X3 := Lib.hid (X2.out.grownA g1 (by omega))
  clear s1 g1 D2 Q2 L2 X2
  cases q
  · obtain ⟨q0, q1, q2, q3⟩ := Q3.out.c3
    obtain ⟨r0, r1, r2⟩ := Q3.out.f3
    obtain ⟨x0, x1, x2, x3⟩ := X3.out.c3
    have n1 : ¬ w.heap.size = b4 := by omega
    have n2 : ¬ b4 = w.heap.size := by omega
    go_wp2_with fail
    exact bodyPost_ret (v := .agg #[.int .i64 x, .int .i64 y, .int .i64 z]) (by simp [results, Try.results81, go_sem, q0, q1, q2]) rfl ⟨x, y, z, by omega, by omega, by omega, rfl, (((D3.out.set (Nat.le_refl _)).set (Nat.le_refl _)).set (Nat.le_refl _)).mono (by omega)⟩
  · go_wp2_with fail
    refine (among_any _ p a len cap _ _ 2 2 3 (D3.out.alloc _).src (by omega) (by omega) (by omega) (by have := D3.out.src.lt; omega) (by simp) ?hnu).mono ?_
    case hnu =>
      intro i hi
      match i, hi with
      | 0, _ => exact ⟨_, by simp [go_sem]; rfl, by omega, by omega⟩
      | 1, _ => exact ⟨_, by simp [go_sem]; rfl, by omega, by omega⟩
    rintro e w4 ⟨k, k0, k1, rfl, s1, g1⟩
    have D4 := Lib.hid ((D3.out.alloc _).step s1 g1)
    have Q4 := Lib.hid ((Q3.out.alloc _).grownA g1 (by omega))
    have L4 := Lib.hid ((L3.out.alloc _).grownA g1 (by omega))
    have X4 := Lib.hid ((X3.out.alloc _).grownA g1 (by omega))
    clear s1 g1 D3 Q3 L3 X3
    have hk : k = 2 ∨ k = 3 := by omega
    have kb : (0 ≤ k * x ∧ k * x ≤ 1800) ∧ (0 ≤ k * y ∧ k * y ≤ 1800) ∧ (0 ≤ k * z ∧ k * z ≤ 1800) := by rcases hk with rfl | rfl <;> omega
    obtain ⟨kx, ky, kz⟩ := kb
    obtain ⟨x0, x1, x2, x3⟩ := X4.out.c3
    obtain ⟨y0, y1, y2⟩ := X4.out.f3
    have n1 : w.heap.size ≠ b4 := by omega
    have n3 : w.heap.size + 1 ≠ b4 := by omega
    have hb4' : w.heap.size ≤ b4 := by omega
    clear hk
    go_upto_region 6 with fail
    have D5 := Lib.hid (((D4.out.set (o := 0) (v := .int .i64 (k * x)) hb4').set (o := 1) (v := .int .i64 (k * y)) hb4').set (o := 2) (v := .int .i64 (k * z)) hb4')
    have Q5 := Lib.hid (Q4.out.oth3 (u := .int .i64 (k * x)) (v := .int .i64 (k * y)) (x := .int .i64 (k * z)) n1)
    have L5 := Lib.hid (L4.out.oth3 (u := .int .i64 (k * x)) (v := .int .i64 (k * y)) (x := .int .i64 (k * z)) n3)
    have X5 := Lib.hid (X4.out.set3 (.int .i64 (k * x)) (.int .i64 (k * y)) (.int .i64 (k * z)))
    clear D4 Q4 L4 X4 x0 x1 x2 x3 y0 y1 y2
    generalize ((w4.setCell ⟨b4, 0, none⟩ (.int .i64 (k * x))).setCell ⟨b4, 1, none⟩ (.int .i64 (k * y))).setCell ⟨b4, 2, none⟩ (.int .i64 (k * z)) = W5 at *
    obtain ⟨x0, x1, x2, x3⟩ := X5.out.c3
    obtain ⟨y0, y1, y2⟩ := X5.out.f3
    generalize k * x = x' at *
    generalize k * y = y' at *
    generalize k * z = z' at *
    by_cases hz : 1000 < z'
    · have l0 := L5.out.c 0 _ rfl
      have l1 := L5.out.c 1 _ rfl
      have l2 := L5.out.c 2 _ rfl
      go_upto_region 8 with fail
      have D6 := Lib.hid (((D5.out.set (o := 0) (v := .int .i64 5) hb4').set (o := 1) (v := .int .i64 12) hb4').set (o := 2) (v := .int .i64 13) hb4')
      have Q6 := Lib.hid (Q5.out.oth3 (u := .int .i64 5) (v := .int .i64 12) (x := .int .i64 13) n1)
      have X6 := Lib.hid (X5.out.set3 (.int .i64 5) (.int .i64 12) (.int .i64 13))
      clear D5 Q5 L5 X5 x0 x1 x2 x3 y0 y1 y2 l0 l1 l2
      generalize ((W5.setCell ⟨b4, 0, none⟩ (.int .i64 5)).setCell ⟨b4, 1, none⟩ (.int .i64 12)).setCell ⟨b4, 2, none⟩ (.int .i64 13) = W6 at *
      obtain ⟨x0, x1, x2, x3⟩ := X6.out.c3
      obtain ⟨q0, q1, q2, q3⟩ := Q6.out.c3
      obtain ⟨r0, r1, r2⟩ := Q6.out.f3
      go_wp2_with fail
      exact bodyPost_ret (v := .agg #[.int .i64 5, .int .i64 12, .int .i64 13]) (by simp [results, Try.results81, go_sem, q0, q1, q2]) rfl ⟨5, 12, 13, by omega, by omega, by omega, rfl, (((D6.out.set (Nat.le_refl _)).set (Nat.le_refl _)).set (Nat.le_refl _)).mono (by omega)⟩
    · obtain ⟨q0, q1, q2, q3⟩ := Q5.out.c3
      obtain ⟨r0, r1, r2⟩ := Q5.out.f3
      go_wp2_with fail
      exact bodyPost_ret (v := .agg #[.int .i64 x', .int .i64 y', .int .i64 z']) (by simp [results, Try.results81, go_sem, q0, q1, q2]) rfl ⟨x', y', z', by omega, by omega, by omega, rfl, (((D5.out.set (Nat.le_refl _)).set (Nat.le_refl _)).set (Nat.le_refl _)).mono (by omega)⟩
end Go.Proofs.Ytpbmpmcifpgchaa

/-
  Draws: what is kept of a source while new blocks are made and written; spec.l00Src.one; spec.l10DrawAngle, l10BentAngle.
-/
import Derived.Test.YtmmmbchlkjljaaaDraw2
import Derived.Test.YtmmmbchlkjljaaaBl
import Derived.Deep.DeepCutAuto
namespace Go.Proofs.Ytmmmbchlkjljaaa
open Go.RowKit

def OneQ (w : World) (p : Nat) (a : Option Addr) (len cap c : Nat) (e : Ending) (w' : World) : Prop := ∃ b : Bool, e = .returned (.bool b) ∧ SrcAt w' p a len cap (c + 2) ∧ w.grownBy w' (some p)
theorem oneQ_any (w : World) (p : Nat) (a : Option Addr) (len cap c : Nat) (n : Int) (h : SrcAt w p a len cap c) (hc : c ≤ 900000) (h1 : 1 ≤ n) (h2 : n ≤ 1000000) :
    Calls Try.prog 74 #[.pointer (some ⟨p, 0, none⟩), .int .i64 n] w (OneQ w p a len cap c) := by
  go_enter Try.func74, Try.ntmps74
  go_wp2_with fail
  refine (pick_any _ p a len cap c n h (by omega) h1 h2).mono ?_
  rintro e w1 ⟨x, x0, x1, rfl, s1, g1⟩
  go_wp2_with fail
  go_ret
  exact ⟨_, rfl, s1, g1⟩
/-- A box of numbers through a step that writes another block. -/
theorem BoxL.grownA {w w' : World} {b p : Nat} {vs : List Value} (h : BoxL w b vs) (g : w.grownBy w' (some p)) (hn : b ≠ p) : BoxL w' b vs :=
  ⟨fun i u e => ((gcell g).1 b i h.lt hn).trans (h.c i u e), fun i u e => ((gcell g).2 b i h.lt hn).trans (h.f i u e), Nat.lt_of_lt_of_le h.lt g.size⟩
theorem BoxL.f3 {w : World} {b : Nat} {u v x : Value} (h : BoxL w b [u, v, x]) : w.frozen? ⟨b, 0, none⟩ = false ∧ w.frozen? ⟨b, 1, none⟩ = false ∧ w.frozen? ⟨b, 2, none⟩ = false := ⟨h.f 0 _ rfl, h.f 1 _ rfl, h.f 2 _ rfl⟩
theorem BoxL.set3 {w : World} {b : Nat} {u v x : Value} (h : BoxL w b [u, v, x]) (u' v' x' : Value) : BoxL (((w.setCell ⟨b, 0, none⟩ u').setCell ⟨b, 1, none⟩ v').setCell ⟨b, 2, none⟩ x') b [u', v', x'] := by
  obtain ⟨c0, c1, c2, c3⟩ := h.c3
  obtain ⟨f0, f1, f2⟩ := h.f3
  refine ⟨fun i y e => ?_, fun i y e => ?_, by simpa [World.setCell] using c3⟩
  · match i, e with
    | 0, e => cases e; simp [go_sem, c0]
    | 1, e => cases e; simp [go_sem, c1]
    | 2, e => cases e; simp [go_sem, c2]
  · match i, e with
    | 0, e => simp [go_sem, f0]
    | 1, e => simp [go_sem, f1]
    | 2, e => simp [go_sem, f2]
theorem BoxL.oth3 {w : World} {b b' : Nat} {vs : List Value} {u v x : Value} (h : BoxL w b vs) (hn : b ≠ b') : BoxL (((w.setCell ⟨b', 0, none⟩ u).setCell ⟨b', 1, none⟩ v).setCell ⟨b', 2, none⟩ x) b vs := ((h.other hn).other hn).other hn
/-- A source and what lay before, from world w on. -/
structure DS (w : World) (p : Nat) (a : Option Addr) (len cap c : Nat) (w' : World) : Prop where
  src : SrcAt w' p a len cap c
  gr : w.grownBy w' (some p)
  old : 0 < len → ∀ xb xo, a = some ⟨xb, xo, none⟩ → xb < w.heap.size
  pl : p < w.heap.size
theorem DS.new {w : World} {p : Nat} {a : Option Addr} {len cap c : Nat} (h : SrcAt w p a len cap c) : DS w p a len cap c w :=
  ⟨h, gRefl _ _, fun hl xb xo e => by
    apply Classical.byContradiction; intro hn
    exact (SrcAt.old h hl (r := xb) (by omega)) xb xo e rfl, h.lt⟩
theorem DS.keep {w : World} {p : Nat} {a : Option Addr} {len cap c : Nat} {w' x : World} (h : DS w p a len cap c w') (hb : Below w'.heap.size w' x) : DS w p a len cap c x := ⟨h.src.keep hb, gBelow h.gr hb, h.old, h.pl⟩
theorem DS.alloc {w : World} {p : Nat} {a : Option Addr} {len cap c : Nat} {w' : World} (h : DS w p a len cap c w') (o : Obj) : DS w p a len cap c (w'.alloc o) := h.keep (bA (bR _) _)
theorem DS.step {w : World} {p : Nat} {a : Option Addr} {len cap c d : Nat} {w' x : World} (h : DS w p a len cap c w') (s : SrcAt x p a len cap d) (g : w'.grownBy x (some p)) : DS w p a len cap d x := ⟨s, gTrans h.gr g, h.old, h.pl⟩
theorem DS.set {w : World} {p : Nat} {a : Option Addr} {len cap c r o : Nat} {w' : World} {v : Value} (h : DS w p a len cap c w') (hr : w.heap.size ≤ r) : DS w p a len cap c (w'.setCell ⟨r, o, none⟩ v) :=
  ⟨h.src.set (by have := h.pl; omega) (fun hl xb xo e => by have := h.old hl xb xo e; omega), gSet h.gr hr, h.old, h.pl⟩
theorem DS.mono {w : World} {p : Nat} {a : Option Addr} {len cap c d : Nat} {w' : World} (h : DS w p a len cap c w') (hc : c ≤ d) : DS w p a len cap d w' := ⟨h.src.mono hc, h.gr, h.old, h.pl⟩
def AnDraw (mx : Int) (w : World) (p : Nat) (a : Option Addr) (len cap d : Nat) (e : Ending) (w' : World) : Prop :=
  ∃ s c h : Int, (0 ≤ s ∧ s ≤ mx) ∧ (0 ≤ c ∧ c ≤ mx) ∧ (0 ≤ h ∧ h ≤ mx) ∧ e = .returned (.agg #[.int .i64 s, .int .i64 c, .int .i64 h]) ∧ DS w p a len cap d w'
/-- The cells of the list of angles. -/
def anL : List Value := [.int .i64 5, .int .i64 12, .int .i64 13, .int .i64 7, .int .i64 24, .int .i64 25, .int .i64 8, .int .i64 15, .int .i64 17, .int .i64 12, .int .i64 35, .int .i64 37, .int .i64 3, .int .i64 4, .int .i64 5, .int .i64 20, .int .i64 21, .int .i64 29, .int .i64 9, .int .i64 40, .int .i64 41, .int .i64 60, .int .i64 11, .int .i64 61, .int .i64 33, .int .i64 544, .int .i64 545]
theorem anL_at {w : World} {b i : Nat} (h : BoxL w b anL) (hi : i < 9) : ∃ x y z : Int, w.cell? ⟨b, i * 3, none⟩ = some (.int .i64 x) ∧ w.cell? ⟨b, i * 3 + 1, none⟩ = some (.int .i64 y) ∧ w.cell? ⟨b, i * 3 + 2, none⟩ = some (.int .i64 z) ∧ (0 ≤ x ∧ x ≤ 600) ∧ (0 ≤ y ∧ y ≤ 600) ∧ (0 ≤ z ∧ z ≤ 600) := by
  have : i = 0 ∨ i = 1 ∨ i = 2 ∨ i = 3 ∨ i = 4 ∨ i = 5 ∨ i = 6 ∨ i = 7 ∨ i = 8 := by omega
  rcases this with rfl | rfl | rfl | rfl | rfl | rfl | rfl | rfl | rfl <;> exact ⟨_, _, _, h.c _ _ rfl, h.c _ _ rfl, h.c _ _ rfl, by omega, by omega, by omega⟩
end Go.Proofs.Ytmmmbchlkjljaaa

/-
  A third point that is drawn: spec.l09DrawPoint, l09BentPoint, l00Src.one, l00Min, DrawThirdPoint.
-/
import Derived.Test.YtclefibjmnabbaaDraw2
import Derived.Test.YtclefibjmnabbaaPlB
import Derived.Test.YtclefibjmnabbaaRtC
namespace Go.Proofs.Ytclefibjmnabbaa
open Go.RowKit

theorem BoxL.grown {w w' : World} {b p : Nat} {vs : List Value} (h : BoxL w b vs) (g : w.grownBy w' (some p)) (hn : b ≠ p) : BoxL w' b vs :=
  ⟨fun i u e => ((gcell g).1 b i h.lt hn).trans (h.c i u e), fun i u e => ((gcell g).2 b i h.lt hn).trans (h.f i u e), Nat.lt_of_lt_of_le h.lt g.size⟩
theorem BoxL.g2 {w : World} {b : Nat} {u v : Value} (h : BoxL w b [u, v]) : (w.cell? ⟨b, 0, none⟩ = some u ∧ w.cell? ⟨b, 1, none⟩ = some v) ∧ (w.frozen? ⟨b, 0, none⟩ = false ∧ w.frozen? ⟨b, 1, none⟩ = false) ∧ b < w.heap.size := ⟨⟨h.c 0 _ rfl, h.c 1 _ rfl⟩, ⟨h.f 0 _ rfl, h.f 1 _ rfl⟩, h.lt⟩
/-- The source stands, and nothing but its block and what is new has been written. -/
structure Drw (w0 : World) (p : Nat) (a : Option Addr) (len cap c : Nat) (w : World) : Prop where
  s : SrcAt w p a len cap c
  g : w0.grownBy w (some p)
theorem Drw.of {w0 w w' : World} {p : Nat} {a : Option Addr} {len cap c c' : Nat} (h : Drw w0 p a len cap c w) (s : SrcAt w' p a len cap c') (g : w.grownBy w' (some p)) : Drw w0 p a len cap c' w' := ⟨s, gTrans h.g g⟩
theorem Drw.keep {w0 w w' : World} {p : Nat} {a : Option Addr} {len cap c : Nat} (h : Drw w0 p a len cap c w) (hb : Below w.heap.size w w') : Drw w0 p a len cap c w' := ⟨h.s.keep hb, gBelow h.g hb⟩
theorem Drw.mono {w0 w : World} {p : Nat} {a : Option Addr} {len cap c c' : Nat} (h : Drw w0 p a len cap c w) (hc : c ≤ c') : Drw w0 p a len cap c' w := ⟨h.s.mono hc, h.g⟩
/-- Blocks that are new since the beginning may be written. -/
theorem Drw.set {w0 w : World} {p : Nat} {a : Option Addr} {len cap c r o : Nat} {v : Value} (h : Drw w0 p a len cap c w) (h0 : SrcAt w0 p a len cap c) (hr : w0.heap.size ≤ r) : Drw w0 p a len cap c (w.setCell ⟨r, o, none⟩ v) :=
  ⟨h.s.set (by have := h0.lt; omega) (fun hl => h0.old hl hr), gSet h.g hr⟩
def PtDraw (lo hi : Int) (w : World) (p : Nat) (a : Option Addr) (len cap c : Nat) (e : Ending) (w' : World) : Prop :=
  ∃ x y : Int, (lo ≤ x ∧ x ≤ hi) ∧ (lo ≤ y ∧ y ≤ hi) ∧ e = .returned (.agg #[.int .i64 x, .int .i64 y]) ∧ SrcAt w' p a len cap c ∧ w.grownBy w' (some p)
set_option maxHeartbeats 1000000 in
theorem l09DrawPoint_any (w : World) (p : Nat) (a : Option Addr) (len cap c : Nat) (h : SrcAt w p a len cap c) (hc : c ≤ 800000) :
    Calls Try.prog 62 #[.pointer (some ⟨p, 0, none⟩), .int .i64 600, .int .i64 600] w (PtDraw 0 600 w p a len cap (c + 4)) := by
  have hlt := h.lt
  have hRp : w.heap.size ≠ p := by omega
  have HH := Lib.hid h
  have B0 := Lib.hid (BoxL.new w [.int .i64 0, .int .i64 0] 38)
  clear h
  go_enter Try.func62, Try.ntmps62
  go_wp2_with fail
  refine (pick_any _ p a len cap c 601 (HH.out.keep (bA (bR _) _)) (by omega) (by omega) (by omega)).mono ?_
  rintro e w1 ⟨x, x0, x1, rfl, s1, g1⟩
  have S1 := Lib.hid s1
  have G1 := Lib.hid g1
  clear s1 g1
  go_wp2_with fail
  refine (pick_any _ p a len cap _ 601 S1.out (by omega) (by omega) (by omega)).mono ?_
  rintro e w2 ⟨y, y0, y1, rfl, s2, g2⟩
  have S2 := Lib.hid s2
  have G2 := Lib.hid (gTrans G1.out g2)
  clear s2 g2
  obtain ⟨⟨z0, z1⟩, ⟨z2, z3⟩, z4⟩ := (B0.out.grown G2.out hRp).g2
  have HOLD := Lib.hid (fun hl => HH.out.old hl (Nat.le_refl w.heap.size))
  go_wp2_with fail
  refine bodyPost_ret (v := .agg #[.int .i64 x, .int .i64 y]) ?_ rfl ⟨x, y, ⟨x0, by omega⟩, ⟨y0, by omega⟩, rfl, ((S2.out.set hRp HOLD.out).set hRp HOLD.out), gSet (gSet (gFrom G2.out) (Nat.le_refl _)) (Nat.le_refl _)⟩
  simp [results, Try.results62, go_sem, z0, z1]
def BoolDraw (w : World) (p : Nat) (a : Option Addr) (len cap c : Nat) (e : Ending) (w' : World) : Prop :=
  ∃ b : Bool, e = .returned (.bool b) ∧ SrcAt w' p a len cap c ∧ w.grownBy w' (some p)
theorem one_any (w : World) (p : Nat) (a : Option Addr) (len cap c : Nat) (n : Int) (h : SrcAt w p a len cap c) (hc : c ≤ 800000) (h1 : 1 ≤ n) (h2 : n ≤ 1000000) :
    Calls Try.prog 61 #[.pointer (some ⟨p, 0, none⟩), .int .i64 n] w (BoolDraw w p a len cap (c + 2)) := by
  go_enter Try.func61, Try.ntmps61
  go_wp2_with fail
  refine (pick_any _ p a len cap c n h (by omega) h1 h2).mono ?_
  rintro e w1 ⟨x, x0, x1, rfl, s1, g1⟩
  go_wp2_with fail
  go_ret
  exact ⟨_, rfl, s1, g1⟩
theorem l00Min_any (x y : Int) (w : World) :
    Calls Try.prog 63 #[.int .i64 x, .int .i64 y] w fun e w' => e = .returned (.int .i64 (min x y)) ∧ w = w' := by
  by_cases h : x < y
  · go_enter Try.func63, Try.ntmps63
    go_wp2
    go_ret
    exact ⟨ret_int (by omega), rfl⟩
  · go_enter Try.func63, Try.ntmps63
    go_wp2
    go_ret
    exact ⟨ret_int (by omega), rfl⟩
theorem d2_bdW {a b c d : Int} (h1 : -1 ≤ a ∧ a ≤ 10001) (h2 : -1 ≤ b ∧ b ≤ 10001) (h3 : 0 ≤ c ∧ c ≤ 600) (h4 : 0 ≤ d ∧ d ≤ 600) : (0 ≤ (a - c) * (a - c) ∧ (a - c) * (a - c) ≤ 400000000) ∧ (0 ≤ (b - d) * (b - d) ∧ (b - d) * (b - d) ≤ 400000000) ∧ 0 ≤ d2 a b c d ∧ d2 a b c d ≤ 800000000 := by
  have p := sq_bd (x := a - c) (m := 20000) (by omega) (by omega)
  have q := sq_bd (x := b - d) (m := 20000) (by omega) (by omega)
  unfold d2; omega
set_option maxHeartbeats 1000000 in
theorem l09SquareW_any (a b c d : Int) (w : World) (h1 : -1 ≤ a ∧ a ≤ 10001) (h2 : -1 ≤ b ∧ b ≤ 10001) (h3 : 0 ≤ c ∧ c ≤ 600) (h4 : 0 ≤ d ∧ d ≤ 600) :
    Calls Try.prog 50 #[.agg #[.int .i64 a, .int .i64 b], .agg #[.int .i64 c, .int .i64 d]] w fun e w' => e = .returned (.int .i64 (d2 a b c d)) ∧ Below w.heap.size w w' := by
  obtain ⟨p, q, _, _⟩ := d2_bdW h1 h2 h3 h4
  have HD := Lib.hid (show (a - c) * (a - c) + (b - d) * (b - d) = d2 a b c d from rfl)
  go_enter Try.func50, Try.ntmps50
  go_wp2_with fail
  go_ret
  exact ⟨ret_int HD.out, bA (bA (bR _) _) _⟩
set_option maxRecDepth 100000 in
set_option maxHeartbeats 2000000 in
theorem l09BentPoint_any (w : World) (p : Nat) (a : Option Addr) (len cap c : Nat) (h : SrcAt w p a len cap c) (hc : c ≤ 700000) :
    Calls Try.prog 60 #[.pointer (some ⟨p, 0, none⟩)] w (PtDraw (-1) 10001 w p a len cap (c + 10)) := by
  have hlt := h.lt
  have hRp : w.heap.size ≠ p := by omega
  have HH := Lib.hid h
  have B0 := Lib.hid (BoxL.new w [.int .i64 0, .int .i64 0] 38)
  clear h
  go_enter Try.func60, Try.ntmps60
  go_wp2_with fail
  refine (l09DrawPoint_any _ p a len cap c (HH.out.keep (bA (bR _) _)) (by omega)).mono ?_
  rintro e w1 ⟨x, y, hx, hy, rfl, s1, g1⟩
  have S1 := Lib.hid s1
  have hw1 : w.heap.size < w1.heap.size := by have := g1.size; simp at this; omega
  have B1 := Lib.hid ((B0.out.grown g1 hRp).alloc (.cells #[.int .i64 x, .int .i64 y] 38))
  have K1 := Lib.hid (BoxL.new w1 [.int .i64 x, .int .i64 y] 38)
  have G1 := Lib.hid (gAlloc (gFrom g1) (.cells #[.int .i64 x, .int .i64 y] 38))
  have S1' := Lib.hid (S1.out.keep (bA (bR w1) (.cells #[.int .i64 x, .int .i64 y] 38)))
  have hKp : w1.heap.size ≠ p := by omega
  clear s1 g1 B0 S1
  go_wp2_with fail
  generalize w1.alloc (.cells #[.int .i64 x, .int .i64 y] 38) = W1 at *
  have hk : w.heap.size ≤ w1.heap.size := by omega
  have HOLD := Lib.hid (fun hl => HH.out.old hl (Nat.le_refl w.heap.size))
  have HOLDk := Lib.hid (fun hl => HH.out.old hl hk)
  have hrk : ¬ w.heap.size = w1.heap.size := by omega
  have hkr : ¬ w1.heap.size = w.heap.size := by omega
  generalize w1.heap.size = k at *
  refine (pick_any _ p a len cap _ 24 S1'.out (by omega) (by omega) (by omega)).mono ?_
  rintro e w2 ⟨v, v0, v1, rfl, s2, g2⟩
  have S2 := Lib.hid s2
  have G2 := Lib.hid (gTrans G1.out g2)
  have B2 := Lib.hid (B1.out.grown g2 hRp)
  have K2 := Lib.hid (K1.out.grown g2 hKp)
  clear s2 g2 B1 K1 G1 S1'
  by_cases hv0 : v = 0
  · subst hv0
    go_wp2_with fail
    refine (among_any _ p a len cap _ _ 3 (-1) 10001 (S2.out.keep (bA (bR _) _)) (by omega) (by omega) (by omega) (by have := S2.out.lt; omega) (by simp) ?hnu).mono ?_
    case hnu =>
      intro i hi
      match i, hi with
      | 0, _ => exact ⟨_, by simp [go_sem]; rfl, by omega, by omega⟩
      | 1, _ => exact ⟨_, by simp [go_sem]; rfl, by omega, by omega⟩
      | 2, _ => exact ⟨_, by simp [go_sem]; rfl, by omega, by omega⟩
    rintro e w3 ⟨z, zlo, zhi, rfl, s3, g3⟩
    have S3 := Lib.hid s3
    have G3 := Lib.hid (gTrans (gAlloc G2.out _) g3)
    obtain ⟨⟨a0, a1⟩, ⟨a2, a3⟩, a4⟩ := ((B2.out.alloc _).grown g3 hRp).g2
    obtain ⟨⟨b0, b1⟩, ⟨b2, b3⟩, b4⟩ := ((K2.out.alloc _).grown g3 hKp).g2
    clear s3 g3 B2 K2 S2 G2
    go_wp2_with fail
    refine bodyPost_ret (v := .agg #[.int .i64 z, .int .i64 y]) ?_ rfl ⟨z, y, by omega, by omega, rfl, ((((S3.out.set hKp HOLDk.out).set hRp HOLD.out).set hRp HOLD.out)).mono (by omega), gSet (gSet (gSet G3.out hk) (Nat.le_refl _)) (Nat.le_refl _)⟩
    simp [results, Try.results60, go_sem, a0, a1]
  by_cases hv1 : v = 1
  · subst hv1
    go_wp2_with fail
    refine (among_any _ p a len cap _ _ 3 (-1) 10001 (S2.out.keep (bA (bR _) _)) (by omega) (by omega) (by omega) (by have := S2.out.lt; omega) (by simp) ?hnu).mono ?_
    case hnu =>
      intro i hi
      match i, hi with
      | 0, _ => exact ⟨_, by simp [go_sem]; rfl, by omega, by omega⟩
      | 1, _ => exact ⟨_, by simp [go_sem]; rfl, by omega, by omega⟩
      | 2, _ => exact ⟨_, by simp [go_sem]; rfl, by omega, by omega⟩
    rintro e w3 ⟨z, zlo, zhi, rfl, s3, g3⟩
    have S3 := Lib.hid s3
    have G3 := Lib.hid (gTrans (gAlloc G2.out _) g3)
    obtain ⟨⟨a0, a1⟩, ⟨a2, a3⟩, a4⟩ := ((B2.out.alloc _).grown g3 hRp).g2
    obtain ⟨⟨b0, b1⟩, ⟨b2, b3⟩, b4⟩ := ((K2.out.alloc _).grown g3 hKp).g2
    clear s3 g3 B2 K2 S2 G2
    go_wp2_with fail
    refine bodyPost_ret (v := .agg #[.int .i64 x, .int .i64 z]) ?_ rfl ⟨x, z, by omega, by omega, rfl, ((((S3.out.set hKp HOLDk.out).set hRp HOLD.out).set hRp HOLD.out)).mono (by omega), gSet (gSet (gSet G3.out hk) (Nat.le_refl _)) (Nat.le_refl _)⟩
    simp [results, Try.results60, go_sem, a0, a1]
  have hv0' : (v == 0) = false := by simpa using hv0
  have hv1' : (v == 1) = false := by simpa using hv1
  obtain ⟨⟨a0, a1⟩, ⟨a2, a3⟩, a4⟩ := B2.out.g2
  obtain ⟨⟨b0, b1⟩, ⟨b2, b3⟩, b4⟩ := K2.out.g2
  go_wp2_with fail
  refine bodyPost_ret (v := .agg #[.int .i64 x, .int .i64 y]) ?_ rfl ⟨x, y, by omega, by omega, rfl, (((S2.out.set hRp HOLD.out).set hRp HOLD.out)).mono (by omega), gSet (gSet G2.out (Nat.le_refl _)) (Nat.le_refl _)⟩
  simp [results, Try.results60, go_sem, a0, a1]
end Go.Proofs.Ytclefibjmnabbaa

/-
  The clearance of two sites: spec.l09Clear, impl.Site.clearanceTo, Plate.hasSite.
-/
import Derived.Test.YtmhheecjpalajaaPlJ
import Derived.Test.YtmhheecjpalajaaRtC
namespace Go.Proofs.Ytmhheecjpalajaa
open Go.RowKit

/-- What stands while two sites of a plate are read. -/
def ClH (W0 : World) (bx g k l : Nat) (u : Value) (n1 : ByteArray) (x1 y1 wh1 st1 : Int) (n2 : ByteArray) (x2 y2 wh2 st2 : Int) (w' : World) : Prop :=
  w'.cell? ⟨bx, 4, none⟩ = some u ∧ w'.cell? ⟨g, k * 5, none⟩ = some (.string n1) ∧ w'.cell? ⟨g, k * 5 + 1, none⟩ = some (.int .i64 x1) ∧ w'.cell? ⟨g, k * 5 + 2, none⟩ = some (.int .i64 y1) ∧ w'.cell? ⟨g, k * 5 + 3, none⟩ = some (.int .i64 wh1) ∧ w'.cell? ⟨g, k * 5 + 4, none⟩ = some (.int .i64 st1) ∧ w'.cell? ⟨g, l * 5, none⟩ = some (.string n2) ∧ w'.cell? ⟨g, l * 5 + 1, none⟩ = some (.int .i64 x2) ∧ w'.cell? ⟨g, l * 5 + 2, none⟩ = some (.int .i64 y2) ∧ w'.cell? ⟨g, l * 5 + 3, none⟩ = some (.int .i64 wh2) ∧ w'.cell? ⟨g, l * 5 + 4, none⟩ = some (.int .i64 st2) ∧ bx < w'.heap.size ∧ g < w'.heap.size ∧ Below W0.heap.size W0 w'
theorem ClH.keep {W0 : World} {bx g k l : Nat} {u : Value} {n1 : ByteArray} {x1 y1 wh1 st1 : Int} {n2 : ByteArray} {x2 y2 wh2 st2 : Int} {w' w2 : World} (hb : Below w'.heap.size w' w2) (h : ClH W0 bx g k l u n1 x1 y1 wh1 st1 n2 x2 y2 wh2 st2 w') : ClH W0 bx g k l u n1 x1 y1 wh1 st1 n2 x2 y2 wh2 st2 w2 := by
  obtain ⟨b0, c0, c1, c2, c3, c4, d0, d1, d2, d3, d4, e1, e2, e3⟩ := h
  exact ⟨(hb.cell (p := ⟨bx, 4, none⟩) e1).trans b0, (hb.cell (p := ⟨g, k * 5, none⟩) e2).trans c0, (hb.cell (p := ⟨g, k * 5 + 1, none⟩) e2).trans c1, (hb.cell (p := ⟨g, k * 5 + 2, none⟩) e2).trans c2, (hb.cell (p := ⟨g, k * 5 + 3, none⟩) e2).trans c3, (hb.cell (p := ⟨g, k * 5 + 4, none⟩) e2).trans c4, (hb.cell (p := ⟨g, l * 5, none⟩) e2).trans d0, (hb.cell (p := ⟨g, l * 5 + 1, none⟩) e2).trans d1, (hb.cell (p := ⟨g, l * 5 + 2, none⟩) e2).trans d2, (hb.cell (p := ⟨g, l * 5 + 3, none⟩) e2).trans d3, (hb.cell (p := ⟨g, l * 5 + 4, none⟩) e2).trans d4, Nat.lt_of_lt_of_le e1 hb.size, Nat.lt_of_lt_of_le e2 hb.size, bT e3 hb⟩
theorem ClH.drew {W0 : World} {bx g k l : Nat} {u : Value} {n1 : ByteArray} {x1 y1 wh1 st1 : Int} {n2 : ByteArray} {x2 y2 wh2 st2 : Int} {w' : World} (h : ClH W0 bx g k l u n1 x1 y1 wh1 st1 n2 x2 y2 wh2 st2 w') : ClH W0 bx g k l u n1 x1 y1 wh1 st1 n2 x2 y2 wh2 st2 w'.drew := h.keep (bR _).drew
/-- The numbers of two sites of a valid plate. -/
theorem cl_bd {W H M G : Int} {ss : List Sit} (h : okPl W H M G ss = true) {k : Nat} (hk : k < ss.length) : (0 ≤ (siAt ss k).x ∧ (siAt ss k).x ≤ 10000) ∧ (0 ≤ (siAt ss k).y ∧ (siAt ss k).y ≤ 10000) ∧ (1 ≤ (siAt ss k).wh ∧ (siAt ss k).wh ≤ 10000) ∧ (1 ≤ (siAt ss k).st ∧ (siAt ss k).st ≤ 1000) := by
  obtain ⟨h1, h2, _⟩ := okPl_parts h
  obtain ⟨_, s1, s2, s3, s4⟩ := siB_bd (okPl_site h hk)
  omega
def IntBelC (n : Int) (w : World) (e : Ending) (w' : World) : Prop := e = .returned (.int .i64 n) ∧ Below w.heap.size w w'
def clN (x1 y1 wh1 x2 y2 st2 : Int) : Int := rt (d2 x1 y1 x2 y2) - wh1 - st2
theorem clS_eq (s t : Sit) : clS s t = clN s.x s.y s.wh t.x t.y t.st := rfl
theorem clN_bd {x1 y1 wh1 x2 y2 st2 : Int} (h1 : 0 ≤ x1 ∧ x1 ≤ 10000) (h2 : 0 ≤ y1 ∧ y1 ≤ 10000) (h3 : 1 ≤ wh1 ∧ wh1 ≤ 10000) (h4 : 0 ≤ x2 ∧ x2 ≤ 10000) (h5 : 0 ≤ y2 ∧ y2 ≤ 10000) (h6 : 1 ≤ st2 ∧ st2 ≤ 1000) :
    (0 ≤ d2 x1 y1 x2 y2 ∧ d2 x1 y1 x2 y2 ≤ 200000000) ∧ (0 ≤ rt (d2 x1 y1 x2 y2) ∧ rt (d2 x1 y1 x2 y2) ≤ 100000) ∧ -20000 ≤ clN x1 y1 wh1 x2 y2 st2 ∧ clN x1 y1 wh1 x2 y2 st2 ≤ 100000 := by
  have hd := d2_bd h1 h2 h4 h5
  have r0 := (rt_is hd.1).1
  have r1 := rt_le (n := d2 x1 y1 x2 y2) (m := 100000) hd.1 (by omega) (by omega)
  unfold clN
  omega
/-- Two sites in the boxes of a call. -/
def ClV (W0 : World) (b1 b2 : Nat) (n1 : ByteArray) (x1 y1 wh1 st1 : Int) (n2 : ByteArray) (x2 y2 wh2 st2 : Int) (w' : World) : Prop :=
  w'.cell? ⟨b1, 0, none⟩ = some (.string n1) ∧ w'.cell? ⟨b1, 1, none⟩ = some (.int .i64 x1) ∧ w'.cell? ⟨b1, 2, none⟩ = some (.int .i64 y1) ∧ w'.cell? ⟨b1, 3, none⟩ = some (.int .i64 wh1) ∧ w'.cell? ⟨b1, 4, none⟩ = some (.int .i64 st1) ∧ w'.cell? ⟨b2, 0, none⟩ = some (.string n2) ∧ w'.cell? ⟨b2, 1, none⟩ = some (.int .i64 x2) ∧ w'.cell? ⟨b2, 2, none⟩ = some (.int .i64 y2) ∧ w'.cell? ⟨b2, 3, none⟩ = some (.int .i64 wh2) ∧ w'.cell? ⟨b2, 4, none⟩ = some (.int .i64 st2) ∧ b1 < w'.heap.size ∧ b2 < w'.heap.size ∧ Below W0.heap.size W0 w'
theorem ClV.keep {W0 : World} {b1 b2 : Nat} {n1 : ByteArray} {x1 y1 wh1 st1 : Int} {n2 : ByteArray} {x2 y2 wh2 st2 : Int} {w' w2 : World} (hb : Below w'.heap.size w' w2) (h : ClV W0 b1 b2 n1 x1 y1 wh1 st1 n2 x2 y2 wh2 st2 w') : ClV W0 b1 b2 n1 x1 y1 wh1 st1 n2 x2 y2 wh2 st2 w2 := by
  obtain ⟨c0, c1, c2, c3, c4, d0, d1, d2, d3, d4, e1, e2, e3⟩ := h
  exact ⟨(hb.cell (p := ⟨b1, 0, none⟩) e1).trans c0, (hb.cell (p := ⟨b1, 1, none⟩) e1).trans c1, (hb.cell (p := ⟨b1, 2, none⟩) e1).trans c2, (hb.cell (p := ⟨b1, 3, none⟩) e1).trans c3, (hb.cell (p := ⟨b1, 4, none⟩) e1).trans c4, (hb.cell (p := ⟨b2, 0, none⟩) e2).trans d0, (hb.cell (p := ⟨b2, 1, none⟩) e2).trans d1, (hb.cell (p := ⟨b2, 2, none⟩) e2).trans d2, (hb.cell (p := ⟨b2, 3, none⟩) e2).trans d3, (hb.cell (p := ⟨b2, 4, none⟩) e2).trans d4, Nat.lt_of_lt_of_le e1 hb.size, Nat.lt_of_lt_of_le e2 hb.size, bT e3 hb⟩
theorem ClV.drew {W0 : World} {b1 b2 : Nat} {n1 : ByteArray} {x1 y1 wh1 st1 : Int} {n2 : ByteArray} {x2 y2 wh2 st2 : Int} {w' : World} (h : ClV W0 b1 b2 n1 x1 y1 wh1 st1 n2 x2 y2 wh2 st2 w') : ClV W0 b1 b2 n1 x1 y1 wh1 st1 n2 x2 y2 wh2 st2 w'.drew := h.keep (bR _).drew
theorem ClV.of {W0 w' : World} {b1 b2 : Nat} {n1 : ByteArray} {x1 y1 wh1 st1 : Int} {n2 : ByteArray} {x2 y2 wh2 st2 : Int} (h1 : BoxL w' b1 [.string n1, .int .i64 x1, .int .i64 y1, .int .i64 wh1, .int .i64 st1]) (h2 : BoxL w' b2 [.string n2, .int .i64 x2, .int .i64 y2, .int .i64 wh2, .int .i64 st2]) (h3 : Below W0.heap.size W0 w') : ClV W0 b1 b2 n1 x1 y1 wh1 st1 n2 x2 y2 wh2 st2 w' := by
  obtain ⟨c0, c1, c2, c3, c4, c5⟩ := h1.c5
  obtain ⟨d0, d1, d2, d3, d4, d5⟩ := h2.c5
  exact ⟨c0, c1, c2, c3, c4, d0, d1, d2, d3, d4, c5, d5, h3⟩
end Go.Proofs.Ytmhheecjpalajaa

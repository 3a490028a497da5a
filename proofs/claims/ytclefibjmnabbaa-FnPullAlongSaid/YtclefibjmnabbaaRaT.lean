/-
  Drifts, the document's side: l12Sums, l12Last, l12Hours, DriftSum.
-/
import Derived.Test.YtclefibjmnabbaaRaS
import Derived.Test.YtclefibjmnabbaaEsA
namespace Go.Proofs.Ytclefibjmnabbaa
open Go.RowKit

def NumsB (ts : List Int) (w : World) (e : Ending) (w' : World) : Prop := ∃ v, e = .returned v ∧ w'.ownsRow w.heap.size 2 1 v ts.length (intC ts) ∧ Below w.heap.size w w'
/-- What stands in a round over segments: the rate's box, the segment. -/
def RrC (w0 wr : World) (g o : Nat) (x y b l c m : Int) (w' : World) : Prop :=
  w'.cell? ⟨g, o, none⟩ = some (.int .i64 x) ∧ w'.cell? ⟨g, o + 1, none⟩ = some (.int .i64 y) ∧ w'.cell? ⟨w0.heap.size, 0, none⟩ = some (.int .i64 b) ∧ w'.cell? ⟨w0.heap.size, 1, none⟩ = some (.int .i64 l) ∧ w'.cell? ⟨w0.heap.size, 2, none⟩ = some (.int .i64 c) ∧ w'.cell? ⟨w0.heap.size, 3, none⟩ = some (.int .i64 m) ∧ Below wr.heap.size wr w'
theorem RrC.of {w0 wr : World} {g o : Nat} {x y b l c m : Int} (h1 : wr.cell? ⟨g, o, none⟩ = some (.int .i64 x)) (h2 : wr.cell? ⟨g, o + 1, none⟩ = some (.int .i64 y)) (hg : g < wr.heap.size) (h : BoxL wr w0.heap.size [.int .i64 b, .int .i64 l, .int .i64 c, .int .i64 m]) {w' : World} (hb : Below wr.heap.size wr w') : RrC w0 wr g o x y b l c m w' := by
  obtain ⟨c0, c1, c2, c3, c4⟩ := (h.keep hb).c4
  exact ⟨(hb.cell (p := ⟨g, o, none⟩) hg).trans h1, (hb.cell (p := ⟨g, o + 1, none⟩) hg).trans h2, c0, c1, c2, c3, hb⟩
theorem RrC.bel {w0 wr : World} {g o : Nat} {x y b l c m : Int} {w' : World} (h : RrC w0 wr g o x y b l c m w') : Below wr.heap.size wr w' := h.2.2.2.2.2.2
/-- What stands between two segments. -/
def SmR (b l c m : Int) (ps : List (Int × Int)) (w : World) (B : Nat) (vo vs vi : Value) (wr : World) : Prop :=
  ∃ k : Nat, vi = .int .i64 k ∧ k ≤ ps.length ∧ vs = .int .i64 (smF (drS b l c m) (ps.take k)) ∧ wr.ownsRow B 2 1 vo (rnK (drS b l c m) ps k).length (intC (rnK (drS b l c m) ps k)) ∧ BoxL wr w.heap.size [.int .i64 b, .int .i64 l, .int .i64 c, .int .i64 m] ∧ Below w.heap.size w wr ∧ B ≤ wr.heap.size
end Go.Proofs.Ytclefibjmnabbaa

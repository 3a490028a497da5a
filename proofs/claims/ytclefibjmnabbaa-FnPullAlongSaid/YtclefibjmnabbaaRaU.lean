/-
  Drifts, worst segments, best bases: the document's side.
-/
import Derived.Test.YtclefibjmnabbaaRaT
import Derived.Test.YtclefibjmnabbaaRaN
import Derived.Test.YtclefibjmnabbaaApd
namespace Go.Proofs.Ytclefibjmnabbaa
open Go.RowKit

/-- A rate's box, cell by cell. -/
def RtC5 (b0 : Nat) (w : World) (b l c m : Int) (w' : World) : Prop :=
  w'.cell? ⟨b0, 0, none⟩ = some (.int .i64 b) ∧ w'.cell? ⟨b0, 1, none⟩ = some (.int .i64 l) ∧ w'.cell? ⟨b0, 2, none⟩ = some (.int .i64 c) ∧ w'.cell? ⟨b0, 3, none⟩ = some (.int .i64 m) ∧ Below w.heap.size w w'
theorem RtC5.of {b0 : Nat} {w : World} {b l c m : Int} {w' : World} (h : BoxL w b0 [.int .i64 b, .int .i64 l, .int .i64 c, .int .i64 m]) (hb : Below w.heap.size w w') : RtC5 b0 w b l c m w' := by
  obtain ⟨c0, c1, c2, c3, _⟩ := (h.keep hb).c4
  exact ⟨c0, c1, c2, c3, hb⟩
theorem RtC5.bel {b0 : Nat} {w : World} {b l c m : Int} {w' : World} (h : RtC5 b0 w b l c m w') : Below w.heap.size w w' := h.2.2.2.2
def SlC (ts : List Int) (c : Int) (w : World) (e : Ending) (w' : World) : Prop := ∃ v, e = .returned (.tuple #[v, .int .i64 c]) ∧ w'.ownsRow w.heap.size 2 1 v ts.length (intC ts) ∧ Below w.heap.size w w'
end Go.Proofs.Ytclefibjmnabbaa

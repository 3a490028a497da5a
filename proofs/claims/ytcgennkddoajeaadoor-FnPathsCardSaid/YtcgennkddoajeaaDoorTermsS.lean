/-
  The contracts of spec.l03Terms, spec.TermsOf and impl.TermsOf.
-/
import Derived.Test.YtcgennkddoajeaaDoorColl
namespace Go.Proofs.YtcgennkddoajeaaDoor
open Go.RowKit

def TrRel (w : World) (n d : Int) (v a b : Value) (wr : World) : Prop :=
  ∃ (pre : List Int) (x y : Int) (g cap : Nat), v = .slice (some ⟨g, 0, none⟩) pre.length cap ∧ a = .int .i64 x ∧ b = .int .i64 y ∧ Row wr (w.heap.size + 1) g cap pre ∧ (okR x y = true ∨ y = 0) ∧ pre.length + y ≤ d ∧ terms n d = pre ++ terms x y ∧ Below w.heap.size w wr
/-- What TermsOf returns. -/
def trm (n d : Int) : List Int := if okR n d then terms n d else []
def trC (n d : Int) : Int := if okR n d then 0 else 1
theorem tr_yes {n d : Int} (h : okR n d = true) : trm n d = terms n d ∧ trC n d = 0 := by simp [trm, trC, h]
theorem tr_no {n d : Int} (h : okR n d = false) : trm n d = [] ∧ trC n d = 1 := by simp [trm, trC, h]
def TrPost (w : World) (ts : List Int) (c : Int) (e : Ending) (w' : World) : Prop := ∃ v, e = .returned (.tuple #[v, .int .i64 c]) ∧ w'.ownsRow w.heap.size 2 1 v ts.length (intC ts) ∧ Below w.heap.size w w'
theorem own_from {w w1 W : World} {v : Value} {ts : List Int} (h : W.ownsRow w1.heap.size 2 1 v ts.length (intC ts)) (hs : w.heap.size ≤ w1.heap.size) : W.ownsRow w.heap.size 2 1 v ts.length (intC ts) := own_low h hs
end Go.Proofs.YtcgennkddoajeaaDoor

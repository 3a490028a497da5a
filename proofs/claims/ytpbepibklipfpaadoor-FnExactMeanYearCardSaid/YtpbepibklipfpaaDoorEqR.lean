/-
  The contracts of laws.eqRatioS, laws.markRatioS, laws.heldRatioS.
-/
import Derived.Test.YtpbepibklipfpaaDoorPr
import Derived.Test.YtpbepibklipfpaaDoorCarry
import Derived.Deep.QuietTactic
import Derived.Deep.RegionHeld3
import Derived.BigQuiet
namespace Go.Proofs.YtpbepibklipfpaaDoor
open Go.RowKit

/-- What stands in the round of a comparison. -/
def EqH (w : World) (g g2 o : Nat) (x y : Int) (w' : World) : Prop :=
  w'.cell? ⟨g, o, none⟩ = some (.int .i64 x) ∧ w'.cell? ⟨g, o + 1, none⟩ = some (.int .i64 y) ∧ w'.cell? ⟨g2, o, none⟩ = some (.int .i64 x) ∧ w'.cell? ⟨g2, o + 1, none⟩ = some (.int .i64 y) ∧ g < w'.heap.size ∧ g2 < w'.heap.size ∧ Below w.heap.size w w'
theorem EqH.drew {w : World} {g g2 o : Nat} {x y : Int} {w' : World} (h : EqH w g g2 o x y w') : EqH w g g2 o x y w'.drew := ⟨h.1, h.2.1, h.2.2.1, h.2.2.2.1, h.2.2.2.2.1, h.2.2.2.2.2.1, h.2.2.2.2.2.2.drew⟩
theorem EqH.keep {w : World} {g g2 o : Nat} {x y : Int} {w' w2 : World} (hb : Below w'.heap.size w' w2) (h : EqH w g g2 o x y w') : EqH w g g2 o x y w2 := by
  obtain ⟨h1, h2, h3, h4, h5, h6, h7⟩ := h
  exact ⟨(hb.cell (p := ⟨g, o, none⟩) h5).trans h1, (hb.cell (p := ⟨g, o + 1, none⟩) h5).trans h2, (hb.cell (p := ⟨g2, o, none⟩) h6).trans h3, (hb.cell (p := ⟨g2, o + 1, none⟩) h6).trans h4, Nat.lt_of_lt_of_le h5 hb.size, Nat.lt_of_lt_of_le h6 hb.size, bT h7 hb⟩
def BoolBel (b : Bool) (w : World) (e : Ending) (w' : World) : Prop := e = .returned (.bool b) ∧ Below w.heap.size w w'
def HeldRet (k : Int) (len : Nat) (w : World) (e : Ending) (w' : World) : Prop := e = .returned (.int .i64 (k + 2 * (len : Int))) ∧ w = w'
def MarkPRet (w : World) (B : Nat) (t : TypeId) (v : Value) (k : Int) (len : Nat) (e : Ending) (w' : World) : Prop :=
  e = .returned (.int .i64 (k + 2 * (len : Int))) ∧ w'.ownsRow B t 2 v (mkP k len).length (pairC (mkP k len)) ∧ w.grownBy w' v.ownBlock
def MarkPRel (w : World) (B : Nat) (t : TypeId) (g cap : Nat) (k : Int) (ps : List (Int × Int)) (q i : Value) (wr : World) : Prop :=
  ∃ (j : Nat), j ≤ ps.length ∧ i = .int .i64 j ∧ q = .int .i64 (k + 2 * (j : Int)) ∧ wr.ownsRow B t 2 (.slice (some ⟨g, 0, none⟩) ps.length cap) ps.length (pairC (mkW k j ps)) ∧ w.grownBy wr (some g)
end Go.Proofs.YtpbepibklipfpaaDoor

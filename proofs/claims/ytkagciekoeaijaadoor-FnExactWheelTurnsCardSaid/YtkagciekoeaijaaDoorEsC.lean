/-
  The boxes of an escapement and a state, cell by cell.
-/
import Derived.Test.YtkagciekoeaijaaDoorEsS
namespace Go.Proofs.YtkagciekoeaijaaDoor
open Go.RowKit

def EbC (w : World) (b c : Nat) (t u i l m e k : Int) (w' : World) : Prop :=
  w'.cell? ⟨b, 0, none⟩ = some (.int .i64 t) ∧ w'.cell? ⟨b, 1, none⟩ = some (.int .i64 u) ∧ w'.cell? ⟨b, 2, none⟩ = some (.int .i64 i) ∧ w'.cell? ⟨b, 3, none⟩ = some (.int .i64 l) ∧ w'.cell? ⟨b, 4, none⟩ = some (.int .i64 m) ∧ w'.cell? ⟨c, 0, none⟩ = some (.int .i64 e) ∧ w'.cell? ⟨c, 1, none⟩ = some (.int .i64 k) ∧ b < w'.heap.size ∧ c < w'.heap.size ∧ Below w.heap.size w w'
theorem EbC.keep {w : World} {b c : Nat} {t u i l m e k : Int} {w' w2 : World} (hb : Below w'.heap.size w' w2) (H : EbC w b c t u i l m e k w') : EbC w b c t u i l m e k w2 := by
  obtain ⟨c0, c1, c2, c3, c4, d0, d1, e0, e1, e2⟩ := H
  exact ⟨(hb.cell (p := ⟨b, 0, none⟩) e0).trans c0, (hb.cell (p := ⟨b, 1, none⟩) e0).trans c1, (hb.cell (p := ⟨b, 2, none⟩) e0).trans c2, (hb.cell (p := ⟨b, 3, none⟩) e0).trans c3, (hb.cell (p := ⟨b, 4, none⟩) e0).trans c4, (hb.cell (p := ⟨c, 0, none⟩) e1).trans d0, (hb.cell (p := ⟨c, 1, none⟩) e1).trans d1, Nat.lt_of_lt_of_le e0 hb.size, Nat.lt_of_lt_of_le e1 hb.size, bT e2 hb⟩
theorem EbC.drew {w : World} {b c : Nat} {t u i l m e k : Int} {w' : World} (H : EbC w b c t u i l m e k w') : EbC w b c t u i l m e k w'.drew := H.keep (bR _).drew
theorem EbC.bel {w : World} {b c : Nat} {t u i l m e k : Int} {w' : World} (H : EbC w b c t u i l m e k w') : Below w.heap.size w w' := H.2.2.2.2.2.2.2.2.2
theorem EbC.of {w : World} {b c : Nat} {t u i l m e k : Int} {w' : World} (H : EbH w b c t u i l m e k w') : EbC w b c t u i l m e k w' := by
  obtain ⟨c0, c1, c2, c3, c4, d0, d1⟩ := H.cells
  exact ⟨c0, c1, c2, c3, c4, d0, d1, H.1.lt, H.2.1.lt, H.bel⟩
theorem EbC.new (w : World) (t u i l m e k : Int) (T T2 : TypeId) : EbC w w.heap.size (w.heap.size + 1) t u i l m e k ((w.alloc (.cells #[.int .i64 t, .int .i64 u, .int .i64 i, .int .i64 l, .int .i64 m] T)).alloc (.cells #[.int .i64 e, .int .i64 k] T2)) := EbC.of (EbH.new w t u i l m e k T T2)
end Go.Proofs.YtkagciekoeaijaaDoor

/-
  The walk of laws.FnExactValidCalendar; what stands at the end of a law over a calendar.
-/
import Derived.Test.YtpbepibklipfpaaDoorCaJ
namespace Go.Proofs.YtpbepibklipfpaaDoor
open Go.RowKit

/-- What stands when a law over a calendar compares its argument at the end. -/
def FinC (W0 : World) (bl bx : Nat) (nm : ByteArray) (wk : Int) (pu pv u v : Value) (ms : List Mo) (rs : List Ru) (w' : World) : Prop :=
  w'.cell? ⟨bl, 0, none⟩ = some (.string nm) ∧ w'.cell? ⟨bl, 1, none⟩ = some pu ∧ w'.cell? ⟨bl, 2, none⟩ = some pv ∧ w'.cell? ⟨bl, 3, none⟩ = some (.int .i64 wk) ∧ w'.cell? ⟨bx, 0, none⟩ = some (.string nm) ∧ w'.cell? ⟨bx, 1, none⟩ = some u ∧ w'.cell? ⟨bx, 2, none⟩ = some v ∧ w'.cell? ⟨bx, 3, none⟩ = some (.int .i64 wk) ∧ bl < w'.heap.size ∧ bx < w'.heap.size ∧ SlMo w' pu ms ∧ SlRu w' pv rs ∧ SlMo w' u ms ∧ SlRu w' v rs ∧ Below W0.heap.size W0 w'
theorem FinC.keep {W0 : World} {bl bx : Nat} {nm : ByteArray} {wk : Int} {pu pv u v : Value} {ms : List Mo} {rs : List Ru} {w' w2 : World} (hb : Below w'.heap.size w' w2) (h : FinC W0 bl bx nm wk pu pv u v ms rs w') : FinC W0 bl bx nm wk pu pv u v ms rs w2 := by
  obtain ⟨a0, a1, a2, a3, c0, c1, c2, c3, e1, e2, e3, e4, e5, e6, e7⟩ := h
  exact ⟨(hb.cell (p := ⟨bl, 0, none⟩) e1).trans a0, (hb.cell (p := ⟨bl, 1, none⟩) e1).trans a1, (hb.cell (p := ⟨bl, 2, none⟩) e1).trans a2, (hb.cell (p := ⟨bl, 3, none⟩) e1).trans a3,
    (hb.cell (p := ⟨bx, 0, none⟩) e2).trans c0, (hb.cell (p := ⟨bx, 1, none⟩) e2).trans c1, (hb.cell (p := ⟨bx, 2, none⟩) e2).trans c2, (hb.cell (p := ⟨bx, 3, none⟩) e2).trans c3, Nat.lt_of_lt_of_le e1 hb.size, Nat.lt_of_lt_of_le e2 hb.size, e3.keep hb, e4.keep hb, e5.keep hb, e6.keep hb, bT e7 hb⟩
theorem FinC.drew {W0 : World} {bl bx : Nat} {nm : ByteArray} {wk : Int} {pu pv u v : Value} {ms : List Mo} {rs : List Ru} {w' : World} (h : FinC W0 bl bx nm wk pu pv u v ms rs w') : FinC W0 bl bx nm wk pu pv u v ms rs w'.drew := h.keep (bR _).drew
end Go.Proofs.YtpbepibklipfpaaDoor

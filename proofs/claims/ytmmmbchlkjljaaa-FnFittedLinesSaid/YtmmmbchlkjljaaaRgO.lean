/-
  Lists of pairs that begin anywhere in a block, and parts of them.
-/
import Derived.Test.YtmmmbchlkjljaaaPr
namespace Go.Proofs.Ytmmmbchlkjljaaa
open Go.RowKit

def PairsO (W : World) (g o : Nat) (ps : List (Int × Int)) : Prop := ∀ i, i < ps.length → W.cell? ⟨g, o + i * 2, none⟩ = some (.int .i64 (pat ps i).1) ∧ W.cell? ⟨g, o + i * 2 + 1, none⟩ = some (.int .i64 (pat ps i).2)
theorem PairsO.keep {W W' : World} {g o : Nat} {ps : List (Int × Int)} (h : PairsO W g o ps) (hg : g < W.heap.size) (hb : Below W.heap.size W W') : PairsO W' g o ps :=
  fun i hi => ⟨(hb.cell (p := ⟨g, o + i * 2, none⟩) hg).trans (h i hi).1, (hb.cell (p := ⟨g, o + i * 2 + 1, none⟩) hg).trans (h i hi).2⟩
/-- A slice reads as a list of pairs, from anywhere in its block on. -/
def SlQ (W : World) (v : Value) (ps : List (Int × Int)) : Prop := ∃ ao cap, v = .slice ao ps.length cap ∧ ps.length ≤ cap ∧ (1 ≤ ps.length → ∃ g o, ao = some ⟨g, o, none⟩ ∧ g < W.heap.size ∧ PairsO W g o ps)
theorem SlQ.keep {W W' : World} {v : Value} {ps : List (Int × Int)} (h : SlQ W v ps) (hb : Below W.heap.size W W') : SlQ W' v ps := by
  obtain ⟨ao, cap, e, hc, h1⟩ := h
  refine ⟨ao, cap, e, hc, fun hl => ?_⟩
  obtain ⟨g, o, eg, hg, hp⟩ := h1 hl
  exact ⟨g, o, eg, Nat.lt_of_lt_of_le hg hb.size, hp.keep hg hb⟩
theorem slQ_of {W : World} {B : Nat} {t : TypeId} {v : Value} {ps : List (Int × Int)} (h : W.ownsRow B t 2 v ps.length (pairC ps)) : SlQ W v ps := by
  rcases h.2 with ⟨rfl, h0⟩ | ⟨g, cap, cur, rfl, hB, hh, h4, h5, r⟩
  · exact ⟨none, 0, by rw [h0], by omega, fun h1 => by omega⟩
  · refine ⟨_, cap, rfl, by omega, fun _ => ⟨g, 0, rfl, (Array.getElem?_eq_some_iff.1 hh).1, fun i hi => ?_⟩⟩
    rw [Nat.zero_add]
    exact own_pairs h i hi
/-- Both ways to read a list. -/
def SlB (W : World) (v : Value) (ps : List (Int × Int)) : Prop := SlP W v ps ∧ SlQ W v ps
theorem SlB.keep {W W' : World} {v : Value} {ps : List (Int × Int)} (h : SlB W v ps) (hb : Below W.heap.size W W') : SlB W' v ps := ⟨h.1.keep hb, h.2.keep hb⟩
theorem slB_of {W : World} {B : Nat} {t : TypeId} {v : Value} {ps : List (Int × Int)} (h : W.ownsRow B t 2 v ps.length (pairC ps)) : SlB W v ps := ⟨slP_of h, slQ_of h⟩
end Go.Proofs.Ytmmmbchlkjljaaa

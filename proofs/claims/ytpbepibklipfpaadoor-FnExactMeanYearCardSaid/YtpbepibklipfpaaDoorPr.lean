/-
  Slices of pairs of numbers (structs of two int64 fields): how they lie, and how they are read.
-/
import Derived.Test.YtpbepibklipfpaaDoorOwn
import Derived.Laws.OwnMore
namespace Go.Proofs.YtpbepibklipfpaaDoor
open Go.RowKit

/-- The cells of a list of pairs. -/
def pairC (ps : List (Int × Int)) : List Value := ps.flatMap fun p => [.int .i64 p.1, .int .i64 p.2]
def pat (ps : List (Int × Int)) (i : Nat) : Int × Int := ps[i]?.getD (0, 0)
theorem pairC_len (ps : List (Int × Int)) : (pairC ps).length = ps.length * 2 := by
  induction ps with
  | nil => rfl
  | cons p ps ih => simp only [pairC, List.flatMap_cons, List.length_append, List.length_cons, List.length_nil] at ih ⊢; omega
theorem pairC_snoc (ps : List (Int × Int)) (p : Int × Int) : pairC (ps ++ [p]) = pairC ps ++ [.int .i64 p.1, .int .i64 p.2] := by simp [pairC]
theorem pairC_cons (p : Int × Int) (ps : List (Int × Int)) : pairC (p :: ps) = .int .i64 p.1 :: .int .i64 p.2 :: pairC ps := by simp [pairC]
theorem pairC_at : ∀ (ps : List (Int × Int)) (i : Nat), i < ps.length → (pairC ps)[i * 2]? = some (.int .i64 (pat ps i).1) ∧ (pairC ps)[i * 2 + 1]? = some (.int .i64 (pat ps i).2)
  | p :: ps, 0, _ => by rw [pairC_cons]; exact ⟨rfl, rfl⟩
  | p :: ps, i + 1, h => by
    have ih := pairC_at ps i (by simpa using h)
    rw [pairC_cons]
    have e : (i + 1) * 2 = i * 2 + 1 + 1 := by omega
    rw [e]
    exact ih
theorem pat_mem {ps : List (Int × Int)} {i : Nat} (h : i < ps.length) : pat ps i ∈ ps := by unfold pat; rw [List.getElem?_eq_getElem h]; simp
theorem pat_get {ps : List (Int × Int)} {i : Nat} (h : i < ps.length) : ps[i] = pat ps i := by unfold pat; rw [List.getElem?_eq_getElem h]; rfl
theorem pat_take {ps : List (Int × Int)} {k : Nat} (h : k < ps.length) : ps.take (k + 1) = ps.take k ++ [pat ps k] := by
  rw [List.take_succ_eq_append_getElem h, pat_get h]
theorem pairC_set1 : ∀ (ps : List (Int × Int)) (i : Nat) (x : Int), i < ps.length → pairC (ps.set i (x, (pat ps i).2)) = (pairC ps).set (i * 2) (.int .i64 x)
  | p :: ps, 0, x, _ => by simp [pairC_cons, pat]
  | p :: ps, i + 1, x, h => by
    have ih := pairC_set1 ps i x (by simpa using h)
    have e : (i + 1) * 2 = i * 2 + 1 + 1 := by omega
    rw [List.set_cons_succ, pairC_cons, pairC_cons, e, List.set_cons_succ, List.set_cons_succ]
    have e2 : pat (p :: ps) (i + 1) = pat ps i := rfl
    rw [e2, ih]
theorem pairC_set2 : ∀ (ps : List (Int × Int)) (i : Nat) (y : Int), i < ps.length → pairC (ps.set i ((pat ps i).1, y)) = (pairC ps).set (i * 2 + 1) (.int .i64 y)
  | p :: ps, 0, y, _ => by simp [pairC_cons, pat]
  | p :: ps, i + 1, y, h => by
    have ih := pairC_set2 ps i y (by simpa using h)
    have e : (i + 1) * 2 + 1 = i * 2 + 1 + 1 + 1 := by omega
    rw [List.set_cons_succ, pairC_cons, pairC_cons, e, List.set_cons_succ, List.set_cons_succ]
    have e2 : pat (p :: ps) (i + 1) = pat ps i := rfl
    rw [e2, ih]
/-- The pairs lie in block g from its beginning. -/
def PairsAt (W : World) (g : Nat) (ps : List (Int × Int)) : Prop := ∀ i, i < ps.length → W.cell? ⟨g, i * 2, none⟩ = some (.int .i64 (pat ps i).1) ∧ W.cell? ⟨g, i * 2 + 1, none⟩ = some (.int .i64 (pat ps i).2)
theorem PairsAt.keep {W W' : World} {g : Nat} {ps : List (Int × Int)} (h : PairsAt W g ps) (hg : g < W.heap.size) (hb : Below W.heap.size W W') : PairsAt W' g ps :=
  fun i hi => ⟨(hb.cell (p := ⟨g, i * 2, none⟩) hg).trans (h i hi).1, (hb.cell (p := ⟨g, i * 2 + 1, none⟩) hg).trans (h i hi).2⟩
/-- A slice reads as a list of pairs. -/
def SlP (W : World) (v : Value) (ps : List (Int × Int)) : Prop := ∃ ao cap, v = .slice ao ps.length cap ∧ (1 ≤ ps.length → ∃ g, ao = some ⟨g, 0, none⟩ ∧ g < W.heap.size ∧ PairsAt W g ps)
theorem own_pairs {W : World} {B : Nat} {t : TypeId} {g cap : Nat} {ps : List (Int × Int)} (h : W.ownsRow B t 2 (.slice (some ⟨g, 0, none⟩) ps.length cap) ps.length (pairC ps)) : PairsAt W g ps := by
  intro i hi
  obtain ⟨a, b⟩ := pairC_at ps i hi
  exact ⟨(h.cellAt (i * 2) (by omega)).trans a, (h.cellAt (i * 2 + 1) (by omega)).trans b⟩
theorem slP_of {W : World} {B : Nat} {t : TypeId} {v : Value} {ps : List (Int × Int)} (h : W.ownsRow B t 2 v ps.length (pairC ps)) : SlP W v ps := by
  rcases h.2 with ⟨rfl, h0⟩ | ⟨g, cap, cur, rfl, hB, hh, _⟩
  · exact ⟨none, 0, by rw [h0], fun h1 => by omega⟩
  · exact ⟨_, cap, rfl, fun _ => ⟨g, rfl, (Array.getElem?_eq_some_iff.1 hh).1, own_pairs h⟩⟩
theorem SlP.keep {W W' : World} {v : Value} {ps : List (Int × Int)} (h : SlP W v ps) (hb : Below W.heap.size W W') : SlP W' v ps := by
  obtain ⟨ao, cap, e, h1⟩ := h
  refine ⟨ao, cap, e, fun hl => ?_⟩
  obtain ⟨g, eg, hg, hc⟩ := h1 hl
  exact ⟨g, eg, Nat.lt_of_lt_of_le hg hb.size, hc.keep hg hb⟩
theorem own_blk {W : World} {B : Nat} {t : TypeId} {sz n : Nat} {v : Value} {xs : List Value} (h : W.ownsRow B t sz v n xs) : ∀ r, v.ownBlock = some r → B ≤ r ∧ r < W.heap.size := by
  intro r e
  rcases h.2 with ⟨rfl, _⟩ | ⟨g, cap, cur, rfl, hB, hh, _⟩
  · cases e
  · cases e; exact ⟨hB, (Array.getElem?_eq_some_iff.1 hh).1⟩
theorem own_lower {W : World} {B B' : Nat} {t : TypeId} {sz n : Nat} {v : Value} {xs : List Value} (h : W.ownsRow B t sz v n xs) (hB : B' ≤ B) : W.ownsRow B' t sz v n xs := by
  refine ⟨h.1, ?_⟩
  rcases h.2 with h0 | ⟨g', cap', cur, h0, hg, r⟩
  · exact .inl h0
  · exact .inr ⟨g', cap', cur, h0, Nat.le_trans hB hg, r⟩
theorem own_keep {W W' : World} {B : Nat} {t : TypeId} {sz n : Nat} {v : Value} {xs : List Value} (h : W.ownsRow B t sz v n xs) (hb : Below W.heap.size W W') : W'.ownsRow B t sz v n xs := by
  refine ⟨h.1, ?_⟩
  rcases h.2 with h0 | ⟨g, cap, cur, h0, hB, hh, r⟩
  · exact .inl h0
  · exact .inr ⟨g, cap, cur, h0, hB, (hb.block g (Array.getElem?_eq_some_iff.1 hh).1).trans hh, r⟩
theorem grown_bel {w w' : World} {row : Option Nat} {B : Nat} (h : w.grownBy w' row) (hr : ∀ r, row = some r → B ≤ r) (hB : B ≤ w.heap.size) : Below B w w' :=
  ⟨h.os, h.tape, h.output, by have := h.size; omega, fun k hk => h.block k (by omega) (fun e => by have := hr k e.symm; omega)⟩
theorem bT2 {B : Nat} {w x y : World} (h : Below B w x) (k : Below B x y) : Below B w y := h.trans k
/-- The marks from k on. -/
def mkP (k : Int) (i : Nat) : List (Int × Int) := (List.range i).map fun j : Nat => (k + 2 * (j : Int), k + 2 * (j : Int) + 1)
theorem mkP_len (k : Int) (i : Nat) : (mkP k i).length = i := by simp [mkP]
theorem mkP_at {k : Int} {i j : Nat} (h : j < i) : pat (mkP k i) j = (k + 2 * (j : Int), k + 2 * (j : Int) + 1) := by
  unfold pat mkP; rw [List.getElem?_map, List.getElem?_range h]; rfl
/-- What stands while the marks are set: those before i are marks, and the rest is as it was. -/
def mkW (k : Int) (i : Nat) (ps : List (Int × Int)) : List (Int × Int) := mkP k i ++ ps.drop i
theorem mkW_len {k : Int} {i : Nat} {ps : List (Int × Int)} (h : i ≤ ps.length) : (mkW k i ps).length = ps.length := by
  unfold mkW; rw [List.length_append, mkP_len, List.length_drop]; omega
theorem mkW_set {k : Int} {i : Nat} {ps : List (Int × Int)} (h : i < ps.length) : (mkW k i ps).set i (k + 2 * (i : Int), k + 2 * (i : Int) + 1) = mkW k (i + 1) ps := by
  unfold mkW
  rw [List.set_append_right _ _ (by rw [mkP_len]; exact Nat.le_refl _), mkP_len, Nat.sub_self, List.drop_eq_getElem_cons h, List.set_cons_zero]
  simp [mkP, List.range_succ]
theorem mkW_cells {k : Int} {i : Nat} {ps : List (Int × Int)} (h : i < ps.length) : ((pairC (mkW k i ps)).set (i * 2) (.int .i64 (k + 2 * (i : Int)))).set (i * 2 + 1) (.int .i64 (k + 2 * (i : Int) + 1)) = pairC (mkW k (i + 1) ps) := by
  have hl := mkW_len (k := k) (Nat.le_of_lt h)
  rw [← pairC_set1 _ _ _ (by omega)]
  have e : pat ((mkW k i ps).set i (k + 2 * (i : Int), (pat (mkW k i ps) i).2)) i = (k + 2 * (i : Int), (pat (mkW k i ps) i).2) := by
    unfold pat; rw [List.getElem?_set_self (by omega)]; rfl
  have := pairC_set2 ((mkW k i ps).set i (k + 2 * (i : Int), (pat (mkW k i ps) i).2)) i (k + 2 * (i : Int) + 1) (by rw [List.length_set]; omega)
  rw [e] at this
  rw [← this, List.set_set, mkW_set h]
end Go.Proofs.YtpbepibklipfpaaDoor

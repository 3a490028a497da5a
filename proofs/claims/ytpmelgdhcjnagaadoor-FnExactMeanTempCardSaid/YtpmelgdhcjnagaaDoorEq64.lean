/-
  The contracts of laws.eqInt64S, laws.markInt64S, laws.heldInt64S.
-/
import Derived.Test.YtpmelgdhcjnagaaDoorOwn
import Derived.Laws.OwnMore
import Derived.Deep.QuietTactic
import Derived.BigQuiet
namespace Go.Proofs.YtpmelgdhcjnagaaDoor
open Go.RowKit

/-- A slice reads as a list of numbers. -/
def Sl64 (W : World) (v : Value) (ts : List Int) : Prop := ∃ ao cap, v = .slice ao ts.length cap ∧ (1 ≤ ts.length → ∃ g, ao = some ⟨g, 0, none⟩ ∧ g < W.heap.size ∧ IntsAt W g ts)
theorem sl64_of {W : World} {B : Nat} {v : Value} {ts : List Int} (h : W.ownsRow B 2 1 v ts.length (intC ts)) : Sl64 W v ts := by
  rcases h.2 with ⟨rfl, h0⟩ | ⟨g, cap, cur, rfl, hB, hh, _⟩
  · exact ⟨none, 0, by rw [h0], fun h1 => by omega⟩
  · refine ⟨_, cap, rfl, fun _ => ⟨g, rfl, (Array.getElem?_eq_some_iff.1 hh).1, fun i hi => ?_⟩⟩
    rw [h.cellAt i (by omega)]
    unfold intC at0
    rw [List.getElem?_map, List.getElem?_eq_getElem hi]; rfl
theorem Sl64.keep {W W' : World} {v : Value} {ts : List Int} (h : Sl64 W v ts) (hb : Below W.heap.size W W') : Sl64 W' v ts := by
  obtain ⟨ao, cap, e, h1⟩ := h
  refine ⟨ao, cap, e, fun hl => ?_⟩
  obtain ⟨g, eg, hg, hc⟩ := h1 hl
  exact ⟨g, eg, Nat.lt_of_lt_of_le hg hb.size, hc.keep hg hb⟩
def DrewRet (v : Value) (w : World) (e : Ending) (w' : World) : Prop := e = .returned v ∧ ∃ n, w' = w.drewN n
/-- The numbers from k on. -/
def mk64 (k : Int) (i : Nat) : List Int := (List.range i).map (fun j : Nat => k + (j : Int))
theorem mk64_len (k : Int) (i : Nat) : (mk64 k i).length = i := by simp [mk64]
theorem mk64_at {k : Int} {i j : Nat} (h : j < i) : at0 (mk64 k i) j = k + (j : Int) := by
  unfold at0 mk64; rw [List.getElem?_map, List.getElem?_range h]; rfl
theorem mk64_set (k : Int) (i : Nat) (ts : List Int) (h : i < ts.length) : (mk64 k i ++ ts.drop i).set i (k + (i : Int)) = mk64 k (i + 1) ++ ts.drop (i + 1) := by
  rw [List.set_append_right _ _ (by rw [mk64_len]; exact Nat.le_refl _), mk64_len, Nat.sub_self, List.drop_eq_getElem_cons h, List.set_cons_zero]
  simp [mk64, List.range_succ]
theorem intC_set (ts : List Int) (i : Nat) (x : Int) : intC (ts.set i x) = (intC ts).set i (.int .i64 x) := by simp [intC, List.map_set]
def MarkRet (w : World) (B : Nat) (v : Value) (k : Int) (len : Nat) (e : Ending) (w' : World) : Prop :=
  e = .returned (.int .i64 (k + (len : Int))) ∧ w'.ownsRow B 2 1 v (mk64 k len).length (intC (mk64 k len)) ∧ w.grownBy w' v.ownBlock
def MarkRel (w : World) (B g cap : Nat) (k : Int) (ts : List Int) (q i : Value) (wr : World) : Prop :=
  ∃ (j : Nat), j ≤ ts.length ∧ i = .int .i64 j ∧ q = .int .i64 (k + (j : Int)) ∧ wr.ownsRow B 2 1 (.slice (some ⟨g, 0, none⟩) ts.length cap) ts.length (intC (mk64 k j ++ ts.drop j)) ∧ w.grownBy wr (some g)
end Go.Proofs.YtpmelgdhcjnagaaDoor

/-
  Swings along a list of torques: the plain words; rows of numbers of one's own.
-/
import Derived.Test.YtmmmbchlkjljaaaEs
import Derived.Test.YtmmmbchlkjljaaaBl
import Derived.Test.YtmmmbchlkjljaaaPr
import Derived.Test.YtmmmbchlkjljaaaEq64
import Derived.Laws.OwnMore
namespace Go.Proofs.Ytmmmbchlkjljaaa
open Go.RowKit

/-- The state behind swings along a list, and the places of those that did not tick; none if there are too many ticks. -/
def alF (u i l m : Int) : List Int → Int → Int → Int → List Int → Option (Int × Int × List Int)
  | [], e, k, _, ms => some (e, k, ms)
  | q :: qs, e, k, j, ms => if tkS u l q e = true then (if k = 1000000000 then none else alF u i l m qs (nxS u i l m q e) (k + 1) (j + 1) ms) else alF u i l m qs (nxS u i l m q e) k (j + 1) (ms ++ [j])
theorem alF_full {u i l m q e k j : Int} {qs ms : List Int} (ht : tkS u l q e = true) (hk : k = 1000000000) : alF u i l m (q :: qs) e k j ms = none := by simp [alF, ht, hk]
theorem alF_tick {u i l m q e k j : Int} {qs ms : List Int} (ht : tkS u l q e = true) (hk : ¬ k = 1000000000) : alF u i l m (q :: qs) e k j ms = alF u i l m qs (nxS u i l m q e) (k + 1) (j + 1) ms := by simp [alF, ht, hk]
theorem alF_miss {u i l m q e k j : Int} {qs ms : List Int} (ht : tkS u l q e = false) : alF u i l m (q :: qs) e k j ms = alF u i l m qs (nxS u i l m q e) k (j + 1) (ms ++ [j]) := by simp [alF, ht]
theorem drop_at {ts : List Int} {j : Nat} (h : j < ts.length) : ts.drop j = at0 ts j :: ts.drop (j + 1) := by
  rw [List.drop_eq_getElem_cons h]
  unfold at0
  rw [List.getElem?_eq_getElem h]; rfl
/-- Whether a list of torques is one. -/
def okQs (qs : List Int) : Bool := decide (qs.length ≤ 2000) && qs.all (fun q => inB q 0 1000)
/-- What SwingAlong returns: energy, ticks, places, code. -/
def saE (t u i l m : Int) (qs : List Int) (e k : Int) : Int × Int × List Int × Int := if okBt t u i l m e k = true then (if okQs qs = true then (match alF u i l m qs e k 0 [] with | none => (0, 0, [], 5) | some r => (r.1, r.2.1, r.2.2, 0)) else (0, 0, [], 2)) else (0, 0, [], 1)
theorem saE_1 {t u i l m : Int} {qs : List Int} {e k : Int} (h : okBt t u i l m e k = false) : saE t u i l m qs e k = (0, 0, [], 1) := by simp [saE, h]
theorem saE_2 {t u i l m : Int} {qs : List Int} {e k : Int} (h : okBt t u i l m e k = true) (h2 : okQs qs = false) : saE t u i l m qs e k = (0, 0, [], 2) := by simp [saE, h, h2]
theorem saE_5 {t u i l m : Int} {qs : List Int} {e k : Int} (h : okBt t u i l m e k = true) (h2 : okQs qs = true) (h3 : alF u i l m qs e k 0 [] = none) : saE t u i l m qs e k = (0, 0, [], 5) := by simp [saE, h, h2, h3]
theorem saE_0 {t u i l m : Int} {qs : List Int} {e k a b : Int} {ms : List Int} (h : okBt t u i l m e k = true) (h2 : okQs qs = true) (h3 : alF u i l m qs e k 0 [] = some (a, b, ms)) : saE t u i l m qs e k = (a, b, ms, 0) := by simp [saE, h, h2, h3]
theorem okQs_parts {qs : List Int} (h : okQs qs = true) : qs.length ≤ 2000 ∧ ∀ j, j < qs.length → 0 ≤ at0 qs j ∧ at0 qs j ≤ 1000 := by
  simp only [okQs, Bool.and_eq_true, decide_eq_true_eq, List.all_eq_true] at h
  refine ⟨h.1, fun j hj => ?_⟩
  have := h.2 qs[j] (by simp)
  rw [inB_true] at this
  unfold at0
  rw [List.getElem?_eq_getElem hj]; exact this
theorem BoxL.grownE {w w' : World} {b : Nat} {vs : List Value} {row : Option Nat} (h : BoxL w b vs) (g : w.grownBy w' row) (hn : row ≠ some b) : BoxL w' b vs := by
  have e := g.block b h.lt (Ne.symm hn)
  refine ⟨fun i x hi => ?_, fun i x hi => ?_, Nat.lt_of_lt_of_le h.lt g.size⟩
  · have := h.c i x hi
    unfold World.cell? at this ⊢
    simpa [e] using this
  · have := h.f i x hi
    unfold World.frozen? at this ⊢
    simpa [e] using this
/-- An append to a row of numbers that lies from block B on: nothing below B is touched. -/
theorem app64 {ops : Array Oper} {rest : List Oper} {o : Oper} {a : Act} {Q : Exit → Act → World → Prop} {B : Nat} {w : World} (hgd : o.guard = none) (s x : Operand)
    (ho : o.op = .call { callee := .builtin .append, args := #[s, x], argTypes := #[24, 24] }) (v : Value) (xs : List Int) (g : Int) (hs : a.eval s = v) (hr : w.ownsRow B 2 1 v xs.length (intC xs)) (hB : B ≤ w.heap.size)
    (hx : a.eval x = .slice (some ⟨w.heap.size, 0, none⟩) 1 1) (hl : xs.length ≤ 2000)
    (h : ∀ v' w', w'.ownsRow B 2 1 v' (xs ++ [g]).length (intC (xs ++ [g])) → Below B w w' → (∀ b vs, BoxL w b vs → v.ownBlock ≠ some b → BoxL w' b vs) → wpList Try.prog ops Q rest (a.put o.dst v') w') : wpList Try.prog ops Q (o :: rest) a (w.alloc (.cells #[.int .i64 g] 2)) := by
  obtain ⟨i0, hi, hz0, hz1, hz2⟩ := info_parts infoI64
  refine wpList_append_own _ hgd s x 24 ho B 2 i0 (.int .i64 0) 1 8 Try.underlying24 hi hz0 hz1 hz2 rfl (by decide) v xs.length (intC xs) hs (own_keep hr (bA (bR w) _)) ⟨w.heap.size, 0, none⟩ 1 1 [.int .i64 g] hx rfl (row_src _ _ _) (by intro y hy; simp at hy; rw [hy]; rfl) (by unfold maxLen; omega) (by omega) (by simp; omega) ?_
  intro v' w' hown hg _
  refine h v' w' ?_ ?_ (fun b vs hb hn => (hb.alloc _).grownE hg hn)
  · have e : intC (xs ++ [g]) = intC xs ++ [.int .i64 g] := by simp [intC]
    rw [e, List.length_append]; exact hown
  · exact (Below.alloc (Below.refl B w) hB _).grown hg (by simp; omega) (fun k e => (own_blk hr k e).1)
theorem BoxL.low {w w' : World} {b B : Nat} {vs : List Value} (h : BoxL w b vs) (hb : Below B w w') (hlt : b < B) : BoxL w' b vs :=
  ⟨fun i u e => (hb.cell (p := ⟨b, i, none⟩) hlt).trans (h.c i u e), fun i u e => (hb.frozen (p := ⟨b, i, none⟩) hlt).trans (h.f i u e), Nat.lt_of_lt_of_le h.lt hb.size⟩
theorem row0 (w : World) (t : TypeId) : (w.alloc (.cells #[] t)).ownsRow w.heap.size t 1 (.slice (some ⟨w.heap.size, 0, none⟩) 0 0) 0 [] :=
  ⟨rfl, .inr ⟨w.heap.size, 0, #[], rfl, Nat.le_refl _, (MapKept.heap_alloc w _).1, Nat.le_refl _, Nat.zero_le _, rfl, rfl⟩⟩
/-- What SwingAlong returns. -/
def SaP (r : Int × Int × List Int × Int) (w : World) (en : Ending) (w' : World) : Prop := ∃ v, en = .returned (.tuple #[.agg #[.int .i64 r.1, .int .i64 r.2.1], v, .int .i64 r.2.2.2]) ∧ w'.ownsRow w.heap.size 2 1 v r.2.2.1.length (intC r.2.2.1) ∧ Below w.heap.size w w'
end Go.Proofs.Ytmmmbchlkjljaaa

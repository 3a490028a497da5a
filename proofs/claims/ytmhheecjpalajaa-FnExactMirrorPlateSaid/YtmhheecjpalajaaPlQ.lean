/-
  SitesOutside: both sides.
-/
import Derived.Test.YtmhheecjpalajaaPlJ
import Derived.Test.YtmhheecjpalajaaTo64
import Derived.Laws.OwnMore
import Derived.Deep.QuietTactic
import Derived.BigQuiet
namespace Go.Proofs.Ytmhheecjpalajaa
open Go.RowKit

/-- A list of numbers that a call makes for itself. -/
def SoR (w0 w : World) (v : Value) (ts : List Int) : Prop := w.ownsRow w0.heap.size 2 1 v ts.length (intC ts) ∧ Below w0.heap.size w0 w
theorem SoR.keep {w0 w w' : World} {v : Value} {ts : List Int} (h : SoR w0 w v ts) (hb : Below w.heap.size w w') : SoR w0 w' v ts := ⟨own_keep h.1 hb, bT h.2 hb⟩
theorem SoR.nil {w w' : World} (hb : Below w.heap.size w w') : SoR w w' (.slice none 0 0) [] := ⟨World.ownsRow_nil _ _ _ _, hb⟩
theorem bel_grownS {a b c : World} {row : Option Nat} (h : Below a.heap.size a b) (g : b.grownBy c row) (hr : ∀ r, row = some r → a.heap.size ≤ r) : Below a.heap.size a c :=
  ⟨g.os.trans h.os, g.tape.trans h.tape, g.output.trans h.output, Nat.le_trans h.size g.size, fun k hk => (g.block k (Nat.lt_of_lt_of_le hk h.size) (fun e => by have := hr k e.symm; omega)).trans (h.block k hk)⟩
theorem app_i64 {ops : Array Oper} {rest : List Oper} {o : Oper} {a : Act} {Q : Exit → Act → World → Prop} {w0 w : World} (hgd : o.guard = none) (s x : Operand)
    (ho : o.op = .call { callee := .builtin .append, args := #[s, x], argTypes := #[63, 63] }) (v : Value) (xs : List Int) (g : Int) (hs : a.eval s = v) (hr : SoR w0 w v xs)
    (hx : a.eval x = .slice (some ⟨w.heap.size, 0, none⟩) 1 1) (hl : xs.length ≤ 100)
    (h : ∀ v' w', SoR w0 w' v' (xs ++ [g]) → wpList Try.prog ops Q rest (a.put o.dst v') w') : wpList Try.prog ops Q (o :: rest) a (w.alloc (.cells #[.int .i64 g] 2)) := by
  obtain ⟨i0, hi, hz0, hz1, hz2⟩ := info_parts infoI64
  refine wpList_append_own _ hgd s x 63 ho w0.heap.size 2 i0 (.int .i64 0) 1 8 Try.underlying63 hi hz0 hz1 hz2 rfl (by decide) v xs.length (intC xs) hs ((hr.keep (bA (bR w) _)).1) ⟨w.heap.size, 0, none⟩ 1 1 [.int .i64 g] hx rfl (row_src _ _ _) (by intro y hy; simp at hy; rw [hy]; rfl) (by unfold maxLen; omega) (by omega) (by have := hr.2.size; simp; omega) ?_
  intro v' w' hown hg _
  refine h v' w' ⟨?_, bel_grownS (bA hr.2 _) hg (fun r e => (own_blk hr.1 r e).1)⟩
  have e : intC (xs ++ [g]) = intC xs ++ [.int .i64 g] := by simp [intC]
  rw [e, List.length_append]; exact hown
theorem rowQ0 (w : World) (t : TypeId) : (w.alloc (.cells #[] t)).ownsRow w.heap.size t 1 (.slice (some ⟨w.heap.size, 0, none⟩) 0 0) 0 [] :=
  ⟨rfl, .inr ⟨w.heap.size, 0, #[], rfl, Nat.le_refl _, (MapKept.heap_alloc w _).1, Nat.le_refl _, Nat.zero_le _, rfl, rfl⟩⟩
theorem SoR.low {w w1 w' : World} {v : Value} {ts : List Int} (hb : Below w.heap.size w w1) (h : SoR w1 w' v ts) : SoR w w' v ts := ⟨own_lower h.1 hb.size, bT hb h.2⟩
/-- The distance of a site from the nearest border, and whether it lies outside. -/
def soV (W H : Int) (s : Sit) : Int := min s.x (min (W - s.x) (min s.y (H - s.y)))
def soB (W H M : Int) (s : Sit) : Bool := decide (soV W H s < s.st + M)
def soL (W H M : Int) (ss : List Sit) : Nat → List Int
  | 0 => []
  | n + 1 => soL W H M ss n ++ (if soB W H M (siAt ss n) then [(n : Int)] else [])
theorem soL_len (W H M : Int) (ss : List Sit) : ∀ n, (soL W H M ss n).length ≤ n
  | 0 => Nat.le_refl _
  | n + 1 => by
    have := soL_len W H M ss n
    rw [soL, List.length_append]
    split <;> simp <;> omega
/-- What SitesOutside returns. -/
def soF (W H M G : Int) (ss : List Sit) : List Int × Int := if okPl W H M G ss then (soL W H M ss ss.length, 0) else ([], 1)
def SoPost (w : World) (x : List Int × Int) (e : Ending) (w' : World) : Prop := ∃ v, e = .returned (.tuple #[v, .int .i64 x.2]) ∧ SoR w w' v x.1
def SoRel (w : World) (W H M : Int) (ss : List Sit) (v i : Value) (wr : World) : Prop := ∃ k : Nat, k ≤ ss.length ∧ i = .int .i64 k ∧ SoR w wr v (soL W H M ss k)
theorem soB_yes {W H M : Int} {ss : List Sit} {k : Nat} (h : min (siAt ss k).x (min (W - (siAt ss k).x) (min (siAt ss k).y (H - (siAt ss k).y))) < (siAt ss k).st + M) : soL W H M ss (k + 1) = soL W H M ss k ++ [(k : Int)] := by
  rw [soL, show soB W H M (siAt ss k) = true from decide_eq_true h]; rfl
theorem soB_no {W H M : Int} {ss : List Sit} {k : Nat} (h : ¬ min (siAt ss k).x (min (W - (siAt ss k).x) (min (siAt ss k).y (H - (siAt ss k).y))) < (siAt ss k).st + M) : soL W H M ss (k + 1) = soL W H M ss k := by
  rw [soL, show soB W H M (siAt ss k) = false from decide_eq_false h]; simp
end Go.Proofs.Ytmhheecjpalajaa

/-
  Clashes: the document's side.
-/
import Derived.Test.YtmhheecjpalajaaPlK
import Derived.Test.YtmhheecjpalajaaPr
import Derived.Test.YtmhheecjpalajaaPlQ
import Derived.Deep.RegionHeld3
namespace Go.Proofs.Ytmhheecjpalajaa
open Go.RowKit

theorem rowC0 (w : World) (t : TypeId) : (w.alloc (.cells #[] t)).ownsRow w.heap.size t 2 (.slice (some ⟨w.heap.size, 0, none⟩) 0 0) 0 [] :=
  ⟨rfl, .inr ⟨w.heap.size, 0, #[], rfl, Nat.le_refl _, (MapKept.heap_alloc w _).1, Nat.le_refl _, Nat.zero_le _, rfl, rfl⟩⟩
theorem srcQ2 (W : World) (a b : Value) (t : TypeId) : ∀ (j : Nat) (u : Value), [a, b][j]? = some u → (W.alloc (.cells #[a, b] t)).cell? ((⟨W.heap.size, 0, none⟩ : Addr).add j) = some u := by
  intro j u hj
  match j, hj with
  | 0, hj => simp at hj; subst hj; simp [go_sem, Addr.add]
  | 1, hj => simp at hj; subst hj; simp [go_sem, Addr.add]
  | (j + 2), hj => simp at hj
/-- The clashes of a plate. -/
def cjB (G : Int) (ss : List Sit) (k l : Nat) : Bool := decide (k ≠ l ∧ clS (siAt ss k) (siAt ss l) < G)
def clI (G : Int) (ss : List Sit) (k : Nat) : Nat → List (Int × Int)
  | 0 => []
  | n + 1 => clI G ss k n ++ (if cjB G ss k n then [((k : Int), (n : Int))] else [])
def clO (G : Int) (ss : List Sit) : Nat → List (Int × Int)
  | 0 => []
  | n + 1 => clO G ss n ++ clI G ss n ss.length
theorem clI_len (G : Int) (ss : List Sit) (k : Nat) : ∀ n, (clI G ss k n).length ≤ n
  | 0 => Nat.le_refl _
  | n + 1 => by
    have := clI_len G ss k n
    rw [clI, List.length_append]
    split <;> simp <;> omega
theorem clO_len (G : Int) (ss : List Sit) (h : ss.length ≤ 20) : ∀ n, (clO G ss n).length ≤ 20 * n
  | 0 => Nat.le_refl _
  | n + 1 => by
    have := clO_len G ss h n
    have h2 := clI_len G ss n ss.length
    rw [clO, List.length_append]
    omega
theorem clI_yes {G : Int} {ss : List Sit} {k l : Nat} (h : k ≠ l) (h2 : clS (siAt ss k) (siAt ss l) < G) : clI G ss k (l + 1) = clI G ss k l ++ [((k : Int), (l : Int))] := by
  rw [clI, show cjB G ss k l = true from decide_eq_true ⟨h, h2⟩]; rfl
theorem clI_no {G : Int} {ss : List Sit} {k l : Nat} (h : ¬ (k ≠ l ∧ clS (siAt ss k) (siAt ss l) < G)) : clI G ss k (l + 1) = clI G ss k l := by
  rw [clI, show cjB G ss k l = false from decide_eq_false h]; simp
def clF (W H M G : Int) (ss : List Sit) : List (Int × Int) × Int := if okPl W H M G ss then (clO G ss ss.length, 0) else ([], 1)
theorem clF_len (W H M G : Int) (ss : List Sit) : (clF W H M G ss).1.length ≤ 400 := by
  unfold clF; split
  · rename_i h
    have h20 := (okPl_parts h).2.2.2.2.1
    have := clO_len G ss h20 ss.length
    simp only; omega
  · simp
/-- What stands in a round over two sites. -/
def ClQ (W0 : World) (bx : Nat) (W H M G : Int) (v : Value) (ss : List Sit) (w' : World) : Prop :=
  w'.cell? ⟨bx, 0, none⟩ = some (.int .i64 W) ∧ w'.cell? ⟨bx, 1, none⟩ = some (.int .i64 H) ∧ w'.cell? ⟨bx, 2, none⟩ = some (.int .i64 M) ∧ w'.cell? ⟨bx, 3, none⟩ = some (.int .i64 G) ∧ w'.cell? ⟨bx, 4, none⟩ = some v ∧ bx < w'.heap.size ∧ SlSi w' v ss ∧ Below W0.heap.size W0 w'
theorem ClQ.keep {W0 : World} {bx : Nat} {W H M G : Int} {v : Value} {ss : List Sit} {w' w2 : World} (hb : Below w'.heap.size w' w2) (h : ClQ W0 bx W H M G v ss w') : ClQ W0 bx W H M G v ss w2 := by
  obtain ⟨a0, a1, a2, a3, a4, e1, e2, e3⟩ := h
  exact ⟨(hb.cell (p := ⟨bx, 0, none⟩) e1).trans a0, (hb.cell (p := ⟨bx, 1, none⟩) e1).trans a1, (hb.cell (p := ⟨bx, 2, none⟩) e1).trans a2, (hb.cell (p := ⟨bx, 3, none⟩) e1).trans a3, (hb.cell (p := ⟨bx, 4, none⟩) e1).trans a4, Nat.lt_of_lt_of_le e1 hb.size, e2.keep hb, bT e3 hb⟩
theorem ClQ.drew {W0 : World} {bx : Nat} {W H M G : Int} {v : Value} {ss : List Sit} {w' : World} (h : ClQ W0 bx W H M G v ss w') : ClQ W0 bx W H M G v ss w'.drew := h.keep (bR _).drew
end Go.Proofs.Ytmhheecjpalajaa

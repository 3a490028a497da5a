/-
  The contracts of spec.l03Near, spec.l03Neighbours and spec.NeighboursOf.
-/
import Derived.Test.YtldjplopglpgfaaNearM
import Derived.Test.YtldjplopglpgfaaWhole
import Derived.Test.YtldjplopglpgfaaBox
import Derived.Deep.QuietTactic
import Derived.BigQuiet
import Derived.StillTailTactics
namespace Go.Proofs.Ytldjplopglpgfaa
open Go.RowKit

/-- What l03Near returns. -/
def NrRet (p q most : Int) (w : World) (e : Ending) (w' : World) : Prop := ∃ a b c d : Int, NbR p q most a b c d ∧ e = .returned (.tuple #[.int .i64 a, .int .i64 b, .int .i64 c, .int .i64 d]) ∧ ∃ n, w' = w.drewN n
def NrRel (p q most : Int) (w : World) (x y u v : Value) (wr : World) : Prop := ∃ a b c d : Int, x = .int .i64 a ∧ y = .int .i64 b ∧ u = .int .i64 c ∧ v = .int .i64 d ∧ NrI p q most a b c d ∧ ∃ n, wr = w.drewN n
theorem pos_div {x y : Int} (hx : 0 ≤ x) : x.tdiv y = x / y := Int.tdiv_eq_ediv_of_nonneg hx
theorem div_le {x y : Int} (hx : 0 ≤ x) (hy : 1 ≤ y) : 0 ≤ x / y ∧ x / y ≤ x := ⟨Int.ediv_nonneg hx (by omega), Int.ediv_le_self y hx⟩
theorem quo_in {x y : Int} (hx : 0 ≤ x) (hy : 1 ≤ y) (h : x ≤ 9223372036854775807) : IntKind.i64.wrap (x.tdiv y) = x / y := by
  obtain ⟨h1, h2⟩ := div_le hx hy
  rw [pos_div hx, IntWalk.i64_in _ (by omega)]
/-- The neighbours as the references hand them out. -/
def Nb3 (n d most : Int) (w : World) (e : Ending) (w' : World) : Prop := ∃ a b c f : Int, NbR n d most a b c f ∧ e = .returned (.tuple #[.agg #[.int .i64 a, .int .i64 b], .agg #[.int .i64 c, .int .i64 f], .bool true]) ∧ Below w.heap.size w w'
theorem mk_ok {n d : Int} (h : okR n d = true) : lowOk n d = true ∧ mkA n d = n ∧ mkB n d = d := by
  obtain ⟨o1, o2, o3, o4, o5⟩ := okR_true.1 h
  obtain ⟨e1, e2, e3⟩ := mk_cop o1 o5
  have i1 : inT n = true := inT_of o3 o4
  have i2 : inT d = true := inT_of (by omega) o2
  rw [e1, e2, e3, i1, i2]
  exact ⟨rfl, rfl, rfl⟩
theorem bel4 {w x : World} (h : Below w.heap.size w x) (a b c d : Value) : Below w.heap.size w ((((x.setCell ⟨w.heap.size + 1, 0, none⟩ a).setCell ⟨w.heap.size + 1, 1, none⟩ b).setCell ⟨w.heap.size + 1 + 1, 0, none⟩ c).setCell ⟨w.heap.size + 1 + 1, 1, none⟩ d) :=
  (((h.setCell (show w.heap.size ≤ w.heap.size + 1 by omega) _).setCell (show w.heap.size ≤ w.heap.size + 1 by omega) _).setCell (show w.heap.size ≤ w.heap.size + 1 + 1 by omega) _).setCell (show w.heap.size ≤ w.heap.size + 1 + 1 by omega) _
theorem two_box (w : World) (n d p q : Int) (T : TypeId) : Box2 ((w.alloc (.cells #[.int .i64 n, .int .i64 d] T)).alloc (.cells #[.int .i64 p, .int .i64 q] T)) w.heap.size n d ∧ Box2 ((w.alloc (.cells #[.int .i64 n, .int .i64 d] T)).alloc (.cells #[.int .i64 p, .int .i64 q] T)) (w.heap.size + 1) p q ∧ Below w.heap.size w ((w.alloc (.cells #[.int .i64 n, .int .i64 d] T)).alloc (.cells #[.int .i64 p, .int .i64 q] T)) := by
  refine ⟨(Box2.new w n d T).alloc _, ?_, bA (bA (bR _) _) _⟩
  have := Box2.new (w.alloc (.cells #[.int .i64 n, .int .i64 d] T)) p q T
  rwa [World.size_alloc] at this
/-- What NeighboursOf returns. -/
def NoR (n d most a b c f k : Int) : Prop := (okR n d = false ∧ a = 0 ∧ b = 0 ∧ c = 0 ∧ f = 0 ∧ k = 1) ∨ (okR n d = true ∧ ¬ (1 ≤ most ∧ most ≤ 1000000000) ∧ a = 0 ∧ b = 0 ∧ c = 0 ∧ f = 0 ∧ k = 2) ∨ (okR n d = true ∧ 1 ≤ most ∧ most ≤ 1000000000 ∧ NbR n d most a b c f ∧ k = 0)
theorem NoR.unique {n d most a b c f k a' b' c' f' k' : Int} (h : NoR n d most a b c f k) (h' : NoR n d most a' b' c' f' k') : a = a' ∧ b = b' ∧ c = c' ∧ f = f' ∧ k = k' := by
  rcases h with ⟨h0, h1, h2, h3, h4, h5⟩ | ⟨h0, h0', h1, h2, h3, h4, h5⟩ | ⟨h0, h1, h2, h3, h4⟩ <;> rcases h' with ⟨g0, g1, g2, g3, g4, g5⟩ | ⟨g0, g0', g1, g2, g3, g4, g5⟩ | ⟨g0, g1, g2, g3, g4⟩
  all_goals first | (rw [h0] at g0; cases g0; done) | omega | skip
  obtain ⟨u1, u2, u3, u4⟩ := h3.unique (okR_bd h0).1 g3
  exact ⟨u1, u2, u3, u4, by omega⟩
def NoPost (n d most : Int) (w : World) (e : Ending) (w' : World) : Prop := ∃ a b c f k : Int, NoR n d most a b c f k ∧ e = .returned (.tuple #[.agg #[.int .i64 a, .int .i64 b], .agg #[.int .i64 c, .int .i64 f], .int .i64 k]) ∧ Below w.heap.size w w'
end Go.Proofs.Ytldjplopglpgfaa

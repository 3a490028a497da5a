/-
  Points: impl.isBetween, Point.isWithin, ValidPoint, minus, squaredTo; spec.l09Point, ValidPoint, l09Square; laws.toPoint, eqPoint.
-/
import Derived.Test.YtmhheecjpalajaaPlB
import Derived.Test.YtmhheecjpalajaaEqR
import Derived.Test.YtmhheecjpalajaaBox
namespace Go.Proofs.Ytmhheecjpalajaa
open Go.RowKit

theorem isWithin_any (x y W H : Int) (w : World) :
    Calls Try.prog 92 #[.agg #[.int .i64 x, .int .i64 y], .int .i64 W, .int .i64 H] w (BoolBel (inB x 0 W && inB y 0 H) w) := by
  cases h1 : inB x 0 W
  · go_enter Try.func92, Try.ntmps92
    go_wp2_with (go_at_call 72; refine (isBetween_any _ _ _ _).mono ?_; rintro e w1 ⟨rfl, rfl⟩)
    go_ret
    exact ⟨rfl, bA (bR _) _⟩
  · rw [Bool.true_and]
    go_enter Try.func92, Try.ntmps92
    go_wp2_with (go_at_call 72; refine (isBetween_any _ _ _ _).mono ?_; rintro e w1 ⟨rfl, rfl⟩)
    go_ret
    exact ⟨rfl, bA (bR _) _⟩
def PtBel (x y : Int) (w : World) (e : Ending) (w' : World) : Prop := e = .returned (.agg #[.int .i64 x, .int .i64 y]) ∧ Below w.heap.size w w'
def IntBel (n : Int) (w : World) (e : Ending) (w' : World) : Prop := e = .returned (.int .i64 n) ∧ Below w.heap.size w w'
theorem toPoint_any (x y : Int) (w : World) :
    Calls Try.prog 71 #[.agg #[.int .i64 x, .int .i64 y]] w (PtBel x y w) := by
  go_enter Try.func71, Try.ntmps71
  go_wp2
  exact bodyPost_ret (v := .agg #[.int .i64 x, .int .i64 y]) (by simp [results, Try.results71, go_sem]) rfl ⟨rfl, bA (bA (bA (bR _) _) _) _⟩
theorem eqPoint_same (x y : Int) (w : World) :
    Calls Try.prog 78 #[.agg #[.int .i64 x, .int .i64 y], .agg #[.int .i64 x, .int .i64 y]] w (BoolBel true w) := by
  have h1 : (x != x) = false := by simp
  have h2 : (y != y) = false := by simp
  go_enter Try.func78, Try.ntmps78
  go_wp2_with fail
  go_ret
  exact ⟨rfl, bA (bA (bR _) _) _⟩
end Go.Proofs.Ytmhheecjpalajaa

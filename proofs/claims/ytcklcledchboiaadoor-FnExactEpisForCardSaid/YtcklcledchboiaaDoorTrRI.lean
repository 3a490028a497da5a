/-
  The contract of impl.TrainRatio, in a world in which the two sentinels of package impl are laid.
-/
import Derived.Test.YtcklcledchboiaaDoorTrM
import Derived.Test.YtcklcledchboiaaDoorMakeR
import Derived.Test.YtcklcledchboiaaDoorBox
namespace Go.Proofs.YtcklcledchboiaaDoor
open Go.RowKit

/-- A ratio and a code. -/
def RatC (w : World) (a b c : Int) (e : Ending) (w' : World) : Prop := e = .returned (.tuple #[.agg #[.int .i64 a, .int .i64 b], .int .i64 c]) ∧ Below w.heap.size w w'
theorem Sent.keepB {w w' : World} {a0 a1 : Addr} (h : Sent w a0 a1) (hb : Below w.heap.size w w') : Sent w' a0 a1 := h.keep hb
/-- What stands between two rounds: the result's box br, the turns in box bt. -/
def TrRel (w : World) (ps : List (Int × Int)) (br bt : Nat) (c i : Value) (wr : World) : Prop :=
  ∃ (k : Nat) (n d : Int), k ≤ ps.length ∧ i = .int .i64 k ∧ c = .int .i64 0 ∧ Box2 wr br 0 0 ∧ Box2 wr bt n d ∧ okR n d = true ∧ trF 1 1 ps = trF n d (ps.drop k) ∧ Below w.heap.size w wr
theorem bel_set {w x : World} {a : Addr} {v : Value} (h : Below w.heap.size w x) (ha : w.heap.size ≤ a.block) : Below w.heap.size w (x.setCell a v) := h.setCell ha v
end Go.Proofs.YtcklcledchboiaaDoor

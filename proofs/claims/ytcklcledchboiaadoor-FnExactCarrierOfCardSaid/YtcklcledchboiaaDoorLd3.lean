/-
  What stands in the walk of a law over planetary gears and two speeds.
-/
import Derived.Test.YtcklcledchboiaaDoorSpdO
import Derived.Test.YtcklcledchboiaaDoorCarry
namespace Go.Proofs.YtcklcledchboiaaDoor
open Go.RowKit

/-- The gears and two speeds in their boxes. -/
structure Sp3 (w : World) (k : Nat) (s r p c a b u v : Int) (W : World) : Prop where
  e : Box4 W k s r p c
  a : Box2 W (k + 1) a b
  u : Box2 W (k + 1 + 1) u v
  l : Below w.heap.size w W
theorem Sp3.keep {w W W' : World} {k : Nat} {s r p c a b u v : Int} (h : Sp3 w k s r p c a b u v W) (hb : Below W.heap.size W W') : Sp3 w k s r p c a b u v W' := ⟨h.e.keep hb, h.a.keep hb, h.u.keep hb, bT h.l hb⟩
theorem Sp3.start (w : World) (s r p c a b u v : Int) (T1 T2 : TypeId) : Sp3 w w.heap.size s r p c a b u v (((w.alloc (.cells #[.int .i64 s, .int .i64 r, .int .i64 p, .int .i64 c] T1)).alloc (.cells #[.int .i64 a, .int .i64 b] T2)).alloc (.cells #[.int .i64 u, .int .i64 v] T2)) :=
  ⟨((Box4.new w s r p c T1).keep (bA (bR _) _)).keep (bA (bR _) _), (Box2.at_ (by simp)).alloc _, Box2.at_ (by simp), bA (bA (bA (bR _) _) _) _⟩
def Ld3 (W : World) (k : Nat) (s r p c a b u v : Int) (w' : World) : Prop :=
  w'.cell? ⟨k, 0, none⟩ = some (.int .i64 s) ∧ w'.cell? ⟨k, 1, none⟩ = some (.int .i64 r) ∧ w'.cell? ⟨k, 2, none⟩ = some (.int .i64 p) ∧ w'.cell? ⟨k, 3, none⟩ = some (.int .i64 c) ∧ w'.cell? ⟨k + 1, 0, none⟩ = some (.int .i64 a) ∧ w'.cell? ⟨k + 1, 1, none⟩ = some (.int .i64 b) ∧ w'.cell? ⟨k + 1 + 1, 0, none⟩ = some (.int .i64 u) ∧ w'.cell? ⟨k + 1 + 1, 1, none⟩ = some (.int .i64 v) ∧ Below W.heap.size W w'
theorem Ld3.of {w W : World} {k : Nat} {s r p c a b u v : Int} (h : Sp3 w k s r p c a b u v W) {w' : World} (hb : Below W.heap.size W w') : Ld3 W k s r p c a b u v w' :=
  ⟨(h.e.keep hb).c0, (h.e.keep hb).c1, (h.e.keep hb).c2, (h.e.keep hb).c3, (h.a.keep hb).c0, (h.a.keep hb).c1, (h.u.keep hb).c0, (h.u.keep hb).c1, hb⟩
theorem Ld3.bel {W : World} {k : Nat} {s r p c a b u v : Int} {w' : World} (h : Ld3 W k s r p c a b u v w') : Below W.heap.size W w' := h.2.2.2.2.2.2.2.2
theorem drP_any (s r p c pd pn a b u v : Int) : DrP anyP s r p c pd pn a b u v := fun _ _ _ => ⟨trivial, fun _ => ⟨trivial, fun _ => trivial⟩⟩
end Go.Proofs.YtcklcledchboiaaDoor

/-
  A box with a list of values; impl.isBetween.
-/
import Derived.Test.YtpbepibklipfpaaDoorRat
namespace Go.Proofs.YtpbepibklipfpaaDoor
open Go.RowKit

/-- A box with a list of values. -/
structure BoxL (w : World) (b : Nat) (vs : List Value) : Prop where
  c : ∀ i u, vs[i]? = some u → w.cell? ⟨b, i, none⟩ = some u
  f : ∀ i u, vs[i]? = some u → w.frozen? ⟨b, i, none⟩ = false
  lt : b < w.heap.size
theorem BoxL.new (w : World) (vs : List Value) (T : TypeId) : BoxL (w.alloc (.cells vs.toArray T)) w.heap.size vs :=
  ⟨fun i u h => by simp [go_sem, h], fun i u h => by simp [go_sem], by simp⟩
theorem BoxL.at_ {w : World} {b : Nat} {vs : List Value} {T : TypeId} (h : b = w.heap.size) : BoxL (w.alloc (.cells vs.toArray T)) b vs := by subst h; exact BoxL.new _ _ _
theorem BoxL.keep {w w' : World} {b : Nat} {vs : List Value} (h : BoxL w b vs) (hb : Below w.heap.size w w') : BoxL w' b vs :=
  ⟨fun i u e => (hb.cell (p := ⟨b, i, none⟩) h.lt).trans (h.c i u e), fun i u e => (hb.frozen (p := ⟨b, i, none⟩) h.lt).trans (h.f i u e), Nat.lt_of_lt_of_le h.lt hb.size⟩
theorem BoxL.alloc {w : World} {b : Nat} {vs : List Value} (h : BoxL w b vs) (o : Obj) : BoxL (w.alloc o) b vs := h.keep (bA (bR _) _)
theorem BoxL.other {w : World} {b b' o : Nat} {vs : List Value} {x : Value} (h : BoxL w b vs) (hn : b ≠ b') : BoxL (w.setCell ⟨b', o, none⟩ x) b vs :=
  ⟨fun i u e => (World.cell?_of_block (Below.heap_setCell _ _ _ _ hn)).trans (h.c i u e), fun i u e => (World.frozen?_of_block (Below.heap_setCell _ _ _ _ hn)).trans (h.f i u e), by simpa [World.setCell] using h.lt⟩
theorem BoxL.c2 {w : World} {b : Nat} {u v : Value} (h : BoxL w b [u, v]) : w.cell? ⟨b, 0, none⟩ = some u ∧ w.cell? ⟨b, 1, none⟩ = some v ∧ b < w.heap.size := ⟨h.c 0 _ rfl, h.c 1 _ rfl, h.lt⟩
theorem BoxL.c5 {w : World} {b : Nat} {u v x y z : Value} (h : BoxL w b [u, v, x, y, z]) : w.cell? ⟨b, 0, none⟩ = some u ∧ w.cell? ⟨b, 1, none⟩ = some v ∧ w.cell? ⟨b, 2, none⟩ = some x ∧ w.cell? ⟨b, 3, none⟩ = some y ∧ w.cell? ⟨b, 4, none⟩ = some z ∧ b < w.heap.size := ⟨h.c 0 _ rfl, h.c 1 _ rfl, h.c 2 _ rfl, h.c 3 _ rfl, h.c 4 _ rfl, h.lt⟩
theorem BoxL.f5 {w : World} {b : Nat} {u v x y z : Value} (h : BoxL w b [u, v, x, y, z]) : w.frozen? ⟨b, 0, none⟩ = false ∧ w.frozen? ⟨b, 1, none⟩ = false ∧ w.frozen? ⟨b, 2, none⟩ = false ∧ w.frozen? ⟨b, 3, none⟩ = false ∧ w.frozen? ⟨b, 4, none⟩ = false := ⟨h.f 0 _ rfl, h.f 1 _ rfl, h.f 2 _ rfl, h.f 3 _ rfl, h.f 4 _ rfl⟩
theorem BoxL.c3 {w : World} {b : Nat} {u v x : Value} (h : BoxL w b [u, v, x]) : w.cell? ⟨b, 0, none⟩ = some u ∧ w.cell? ⟨b, 1, none⟩ = some v ∧ w.cell? ⟨b, 2, none⟩ = some x ∧ b < w.heap.size := ⟨h.c 0 _ rfl, h.c 1 _ rfl, h.c 2 _ rfl, h.lt⟩
theorem BoxL.c6 {w : World} {b : Nat} {u v x y z t : Value} (h : BoxL w b [u, v, x, y, z, t]) : w.cell? ⟨b, 0, none⟩ = some u ∧ w.cell? ⟨b, 1, none⟩ = some v ∧ w.cell? ⟨b, 2, none⟩ = some x ∧ w.cell? ⟨b, 3, none⟩ = some y ∧ w.cell? ⟨b, 4, none⟩ = some z ∧ w.cell? ⟨b, 5, none⟩ = some t ∧ b < w.heap.size := ⟨h.c 0 _ rfl, h.c 1 _ rfl, h.c 2 _ rfl, h.c 3 _ rfl, h.c 4 _ rfl, h.c 5 _ rfl, h.lt⟩
theorem BoxL.f6 {w : World} {b : Nat} {u v x y z t : Value} (h : BoxL w b [u, v, x, y, z, t]) : w.frozen? ⟨b, 0, none⟩ = false ∧ w.frozen? ⟨b, 1, none⟩ = false ∧ w.frozen? ⟨b, 2, none⟩ = false ∧ w.frozen? ⟨b, 3, none⟩ = false ∧ w.frozen? ⟨b, 4, none⟩ = false ∧ w.frozen? ⟨b, 5, none⟩ = false := ⟨h.f 0 _ rfl, h.f 1 _ rfl, h.f 2 _ rfl, h.f 3 _ rfl, h.f 4 _ rfl, h.f 5 _ rfl⟩
theorem BoxL.f2 {w : World} {b : Nat} {u v : Value} (h : BoxL w b [u, v]) : w.frozen? ⟨b, 0, none⟩ = false ∧ w.frozen? ⟨b, 1, none⟩ = false := ⟨h.f 0 _ rfl, h.f 1 _ rfl⟩
theorem BoxL.drewN {w : World} {b : Nat} {vs : List Value} (h : BoxL w b vs) (n : Nat) : BoxL (w.drewN n) b vs := ⟨h.c, h.f, h.lt⟩
theorem isBetween_any (n lo hi : Int) (w : World) :
    Calls Tryd.prog 56 #[.int .i64 n, .int .i64 lo, .int .i64 hi] w fun e w' => e = .returned (.bool (inB n lo hi)) ∧ w = w' := by
  by_cases h : lo ≤ n
  · go_enter Tryd.func56, Tryd.ntmps56
    go_wp2
    go_ret
    exact ⟨ret_bool (by simp [inB, h]), rfl⟩
  · go_enter Tryd.func56, Tryd.ntmps56
    go_wp2
    go_ret
    exact ⟨ret_bool (by simp [inB]; omega), rfl⟩
end Go.Proofs.YtpbepibklipfpaaDoor

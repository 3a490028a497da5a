/-
  A box of a slice and two numbers.
-/
import Derived.Test.YtnndjbngcaafhaaDoorBox
namespace Go.Proofs.YtnndjbngcaafhaaDoor
open Go.RowKit

structure BoxF (w : World) (b : Nat) (v : Value) (x y : Int) : Prop where
  c0 : w.cell? ⟨b, 0, none⟩ = some v
  c1 : w.cell? ⟨b, 1, none⟩ = some (.int .i64 x)
  c2 : w.cell? ⟨b, 2, none⟩ = some (.int .i64 y)
  f0 : w.frozen? ⟨b, 0, none⟩ = false
  f1 : w.frozen? ⟨b, 1, none⟩ = false
  f2 : w.frozen? ⟨b, 2, none⟩ = false
  lt : b < w.heap.size
theorem BoxF.new (w : World) (v : Value) (x y : Int) (T : TypeId) : BoxF (w.alloc (.cells #[v, .int .i64 x, .int .i64 y] T)) w.heap.size v x y :=
  ⟨by simp [go_sem], by simp [go_sem], by simp [go_sem], by simp [go_sem], by simp [go_sem], by simp [go_sem], by simp⟩
theorem BoxF.keep {w w' : World} {b : Nat} {v : Value} {x y : Int} (h : BoxF w b v x y) (hb : Below w.heap.size w w') : BoxF w' b v x y :=
  ⟨(hb.cell (p := ⟨b, 0, none⟩) h.lt).trans h.c0, (hb.cell (p := ⟨b, 1, none⟩) h.lt).trans h.c1, (hb.cell (p := ⟨b, 2, none⟩) h.lt).trans h.c2, (hb.frozen (p := ⟨b, 0, none⟩) h.lt).trans h.f0, (hb.frozen (p := ⟨b, 1, none⟩) h.lt).trans h.f1, (hb.frozen (p := ⟨b, 2, none⟩) h.lt).trans h.f2, Nat.lt_of_lt_of_le h.lt hb.size⟩
theorem BoxF.alloc {w : World} {b : Nat} {v : Value} {x y : Int} (h : BoxF w b v x y) (o : Obj) : BoxF (w.alloc o) b v x y := h.keep (bA (bR _) _)
theorem BoxF.drew {w : World} {b : Nat} {v : Value} {x y : Int} (h : BoxF w b v x y) : BoxF w.drew b v x y := ⟨h.c0, h.c1, h.c2, h.f0, h.f1, h.f2, h.lt⟩
theorem BoxF.set0 {w : World} {b : Nat} {v : Value} {x y : Int} (h : BoxF w b v x y) (u : Value) : BoxF (w.setCell ⟨b, 0, none⟩ u) b u x y := by
  have a0 := h.c0
  have a1 := h.c1
  have a2 := h.c2
  have e0 := h.f0
  have e1 := h.f1
  have e2 := h.f2
  exact ⟨by simp [go_sem, a0], by simp [go_sem, a1], by simp [go_sem, a2], by simp [go_sem, e0], by simp [go_sem, e1], by simp [go_sem, e2], by simpa [World.setCell] using h.lt⟩
theorem BoxF.other {w : World} {b b' o : Nat} {v u : Value} {x y : Int} (h : BoxF w b v x y) (hn : b ≠ b') : BoxF (w.setCell ⟨b', o, none⟩ u) b v x y :=
  ⟨(World.cell?_of_block (Below.heap_setCell _ _ _ _ hn)).trans h.c0, (World.cell?_of_block (Below.heap_setCell _ _ _ _ hn)).trans h.c1, (World.cell?_of_block (Below.heap_setCell _ _ _ _ hn)).trans h.c2, (World.frozen?_of_block (Below.heap_setCell _ _ _ _ hn)).trans h.f0, (World.frozen?_of_block (Below.heap_setCell _ _ _ _ hn)).trans h.f1, (World.frozen?_of_block (Below.heap_setCell _ _ _ _ hn)).trans h.f2, by simpa [World.setCell] using h.lt⟩
theorem BoxF.set1 {w : World} {b : Nat} {v : Value} {x y : Int} (h : BoxF w b v x y) (x' : Int) : BoxF (w.setCell ⟨b, 1, none⟩ (.int .i64 x')) b v x' y := by
  have a0 := h.c0
  have a1 := h.c1
  have a2 := h.c2
  have e0 := h.f0
  have e1 := h.f1
  have e2 := h.f2
  exact ⟨by simp [go_sem, a0], by simp [go_sem, a1], by simp [go_sem, a2], by simp [go_sem, e0], by simp [go_sem, e1], by simp [go_sem, e2], by simpa [World.setCell] using h.lt⟩
theorem BoxF.set2 {w : World} {b : Nat} {v : Value} {x y : Int} (h : BoxF w b v x y) (y' : Int) : BoxF (w.setCell ⟨b, 2, none⟩ (.int .i64 y')) b v x y' := by
  have a0 := h.c0
  have a1 := h.c1
  have a2 := h.c2
  have e0 := h.f0
  have e1 := h.f1
  have e2 := h.f2
  exact ⟨by simp [go_sem, a0], by simp [go_sem, a1], by simp [go_sem, a2], by simp [go_sem, e0], by simp [go_sem, e1], by simp [go_sem, e2], by simpa [World.setCell] using h.lt⟩
theorem BoxF.after {w : World} {v : Value} {x y : Int} {T : TypeId} {o : Obj} : BoxF ((w.alloc o).alloc (.cells #[v, .int .i64 x, .int .i64 y] T)) (w.heap.size + 1) v x y := by
  simpa using BoxF.new (w.alloc o) v x y T
theorem BoxF.after2 {w : World} {v : Value} {x y : Int} {T : TypeId} {o o' : Obj} : BoxF (((w.alloc o).alloc o').alloc (.cells #[v, .int .i64 x, .int .i64 y] T)) (w.heap.size + 1 + 1) v x y := by
  simpa using BoxF.new ((w.alloc o).alloc o') v x y T
end Go.Proofs.YtnndjbngcaafhaaDoor

/-
  What the walks of laws over two ratios carry from statement to statement; the contract of laws.eqRatio at equal ratios.
-/
import Derived.Test.YtpbepibklipfpaaDoorRat
import Derived.Deep.DeepCutAuto
namespace Go.Proofs.YtpbepibklipfpaaDoor
open Go.RowKit

theorem eqRatio_same (n d : Int) (w : World) :
    Calls Tryd.prog 13 #[.agg #[.int .i64 n, .int .i64 d], .agg #[.int .i64 n, .int .i64 d]] w fun e w' => e = .returned (.bool true) ∧ Below w.heap.size w w' := by
  have h1 : (n != n) = false := by simp
  have h2 : (d != d) = false := by simp
  go_enter Tryd.func13, Tryd.ntmps13
  go_wp2_with fail
  go_ret
  exact ⟨rfl, bA (bA (bR _) _) _⟩

theorem bless {W w1 : World} (hb : Below W.heap.size W w1) : ∀ k, k < W.heap.size → k < w1.heap.size := fun _ h => Nat.lt_of_lt_of_le h hb.size
theorem cell_off {y : World} {b o : Nat} {a : Addr} {u : Value} (h : a.block ≠ b) : (y.setCell a u).cell? ⟨b, o, none⟩ = y.cell? ⟨b, o, none⟩ := World.cell?_of_block (w := y) (Below.heap_setCell y a u b (Ne.symm h))
theorem size_set {y : World} {a : Addr} {u : Value} : (y.setCell a u).heap.size = y.heap.size := by simp [World.setCell]
theorem TwoR.alloc {w : World} {n d p q : Int} {x : World} (h : TwoR w n d p q x) (o : Obj) : TwoR w n d p q (x.alloc o) := TwoR.keep (bA (bR _) _) h
theorem TwoR.store {w : World} {n d p q : Int} {x : World} {k o : Nat} {u : Value} (hk : w.heap.size + 1 < k) (h : TwoR w n d p q x) : TwoR w n d p q (x.setCell ⟨k, o, none⟩ u) := by
  obtain ⟨h1, h2, h3, h4, h5, h6⟩ := h
  exact ⟨(cell_off (by simp; omega)).trans h1, (cell_off (by simp; omega)).trans h2, (cell_off (by simp; omega)).trans h3, (cell_off (by simp; omega)).trans h4, by rw [size_set]; exact h5, h6.setCell (by simp; omega) _⟩
/-- Two ratios in the boxes of a call and a third one in a later box. -/
def ThreeR (w : World) (n d p q : Int) (k : Nat) (a b : Int) (w' : World) : Prop :=
  (w'.cell? ⟨w.heap.size, 0, none⟩ = some (.int .i64 n) ∧ w'.cell? ⟨w.heap.size, 1, none⟩ = some (.int .i64 d) ∧ w'.cell? ⟨w.heap.size + 1, 0, none⟩ = some (.int .i64 p) ∧ w'.cell? ⟨w.heap.size + 1, 1, none⟩ = some (.int .i64 q) ∧ w.heap.size + 1 < w'.heap.size ∧ Below w.heap.size w w') ∧ w'.cell? ⟨k, 0, none⟩ = some (.int .i64 a) ∧ w'.cell? ⟨k, 1, none⟩ = some (.int .i64 b) ∧ k < w'.heap.size
theorem ThreeR.start {w : World} {n d p q : Int} {x : World} (h : TwoR w n d p q x) (a b : Int) (T : TypeId) : ThreeR w n d p q x.heap.size a b (x.alloc (.cells #[.int .i64 a, .int .i64 b] T)) :=
  ⟨h.alloc _, by simp [go_sem], by simp [go_sem], by simp⟩
theorem ThreeR.keep {w : World} {n d p q : Int} {k : Nat} {a b : Int} {x y : World} (hb : Below x.heap.size x y) (h : ThreeR w n d p q k a b x) : ThreeR w n d p q k a b y := by
  obtain ⟨h1, h2, h3, h4⟩ := h
  exact ⟨TwoR.keep hb h1, (hb.cell (p := ⟨k, 0, none⟩) h4).trans h2, (hb.cell (p := ⟨k, 1, none⟩) h4).trans h3, Nat.lt_of_lt_of_le h4 hb.size⟩
theorem ThreeR.alloc {w : World} {n d p q : Int} {k : Nat} {a b : Int} {x : World} (h : ThreeR w n d p q k a b x) (o : Obj) : ThreeR w n d p q k a b (x.alloc o) := ThreeR.keep (bA (bR _) _) h
theorem ThreeR.drew {w : World} {n d p q : Int} {k : Nat} {a b : Int} {x : World} (h : ThreeR w n d p q k a b x) : ThreeR w n d p q k a b x.drew := ⟨TwoR.drew h.1, h.2.1, h.2.2.1, h.2.2.2⟩
theorem ThreeR.bel {w : World} {n d p q : Int} {k : Nat} {a b : Int} {x : World} (h : ThreeR w n d p q k a b x) : Below w.heap.size w x := h.1.2.2.2.2.2
theorem ThreeR.store {w : World} {n d p q : Int} {k : Nat} {a b : Int} {x : World} {k' o : Nat} {u : Value} (hk : w.heap.size + 1 < k') (hk2 : k < k') (h : ThreeR w n d p q k a b x) : ThreeR w n d p q k a b (x.setCell ⟨k', o, none⟩ u) :=
  ⟨TwoR.store hk h.1, (cell_off (by simp; omega)).trans h.2.1, (cell_off (by simp; omega)).trans h.2.2.1, by rw [size_set]; exact h.2.2.2⟩
/-- What the second statement leaves: two boxes with the ratio, and the code. -/
def Cut2 (w : World) (k : Nat) (a b c : Int) (s7 s8 : Value) (wx : World) : Prop := ∃ k7 : Nat, s7 = .pointer (some ⟨k7, 0, none⟩) ∧ s8 = .int .i64 c ∧ wx.cell? ⟨k7, 0, none⟩ = some (.int .i64 a) ∧ wx.cell? ⟨k7, 1, none⟩ = some (.int .i64 b) ∧ wx.cell? ⟨k, 0, none⟩ = some (.int .i64 a) ∧ wx.cell? ⟨k, 1, none⟩ = some (.int .i64 b) ∧ Below w.heap.size w wx
/-- What the first statement leaves: a box with the ratio, and the code. -/
def Cut1 (w : World) (n d p q a b c : Int) (s5 s6 : Value) (wx : World) : Prop := ∃ k : Nat, s5 = .pointer (some ⟨k, 0, none⟩) ∧ s6 = .int .i64 c ∧ ThreeR w n d p q k a b wx
end Go.Proofs.YtpbepibklipfpaaDoor

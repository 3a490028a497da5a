/-
  Contracts of the tests of a ratio: impl.Ratio.valid, impl.ValidRatio, spec.l02Ok, spec.ValidRatio; and of laws.toRatio.
-/
import Derived.Test.YtpbepibklipfpaaDoorNum
import Derived.Deep.RegionHeld3
namespace Go.Proofs.YtpbepibklipfpaaDoor
open Go.RowKit

/-- What lay below stands: closing lemmas. -/
theorem bR (w : World) : Below w.heap.size w w := Below.refl _ _
theorem bA {w x : World} (h : Below w.heap.size w x) (o : Obj) : Below w.heap.size w (x.alloc o) := h.alloc h.size o
theorem bD {w x : World} (h : Below w.heap.size w x) (n : Nat) : Below w.heap.size w (x.drewN n) := ⟨h.os, h.tape, h.output, h.size, h.block⟩
theorem bT {w x y : World} (h : Below w.heap.size w x) (k : Below x.heap.size x y) : Below w.heap.size w y := h.trans (k.mono h.size)

/-- Two ratios lie in the two boxes of a call, and what lay below stands. -/
def TwoR (w : World) (n d p q : Int) (w' : World) : Prop :=
  w'.cell? ⟨w.heap.size, 0, none⟩ = some (.int .i64 n) ∧ w'.cell? ⟨w.heap.size, 1, none⟩ = some (.int .i64 d) ∧ w'.cell? ⟨w.heap.size + 1, 0, none⟩ = some (.int .i64 p) ∧ w'.cell? ⟨w.heap.size + 1, 1, none⟩ = some (.int .i64 q) ∧ w.heap.size + 1 < w'.heap.size ∧ Below w.heap.size w w'
theorem TwoR.start (w : World) (n d p q : Int) (T U : TypeId) : TwoR w n d p q ((w.alloc (.cells #[.int .i64 n, .int .i64 d] T)).alloc (.cells #[.int .i64 p, .int .i64 q] U)) := by
  refine ⟨by simp [go_sem], by simp [go_sem], by simp [go_sem], by simp [go_sem], by simp, (bA (bA (bR _) _) _)⟩
theorem TwoR.drew {w : World} {n d p q : Int} {x : World} (h : TwoR w n d p q x) : TwoR w n d p q x.drew := by
  obtain ⟨h1, h2, h3, h4, h5, h6⟩ := h
  exact ⟨h1, h2, h3, h4, h5, h6.drew⟩
theorem TwoR.keep {w : World} {n d p q : Int} {x y : World} (hb : Below x.heap.size x y) (h : TwoR w n d p q x) : TwoR w n d p q y := by
  obtain ⟨h1, h2, h3, h4, h5, h6⟩ := h
  exact ⟨(hb.cell (p := ⟨w.heap.size, 0, none⟩) (by simp; omega)).trans h1, (hb.cell (p := ⟨w.heap.size, 1, none⟩) (by simp; omega)).trans h2, (hb.cell (p := ⟨w.heap.size + 1, 0, none⟩) (by simp; omega)).trans h3, (hb.cell (p := ⟨w.heap.size + 1, 1, none⟩) (by simp; omega)).trans h4, by have := hb.size; omega, bT h6 hb⟩

/-- A valid ratio. -/
def okR (n d : Int) : Bool := decide (1 ≤ d ∧ d ≤ 1000000000 ∧ -1000000000 ≤ n ∧ n ≤ 1000000000 ∧ Int.gcd n d = 1)
theorem okR_true {n d : Int} : okR n d = true ↔ 1 ≤ d ∧ d ≤ 1000000000 ∧ -1000000000 ≤ n ∧ n ≤ 1000000000 ∧ Int.gcd n d = 1 := by simp [okR]
theorem okR_bd {n d : Int} (h : okR n d = true) : 1 ≤ d ∧ d ≤ 1000000000 ∧ -1000000000 ≤ n ∧ n ≤ 1000000000 := by have := okR_true.1 h; omega
theorem gcd_abs (n d : Int) : Int.gcd ((n.natAbs : Nat) : Int) d = Int.gcd n d := by simp [Int.gcd]
theorem gcd_abs2 (n d : Int) : Int.gcd ((n.natAbs : Nat) : Int) ((d.natAbs : Nat) : Int) = Int.gcd n d := by simp [Int.gcd]
theorem okR_in {n d : Int} (h1 : 1 ≤ d ∧ d ≤ 1000000000) (h2 : -1000000000 ≤ n ∧ n ≤ 1000000000) : (((Int.gcd ((n.natAbs : Nat) : Int) d : Nat) : Int) == 1) = okR n d := by
  rw [gcd_abs, Bool.eq_iff_iff, okR_true]; simp only [beq_iff_eq]; omega
theorem okR_in2 {n d : Int} (h1 : 1 ≤ d ∧ d ≤ 1000000000) (h2 : -1000000000 ≤ n ∧ n ≤ 1000000000) : (((Int.gcd ((n.natAbs : Nat) : Int) ((d.natAbs : Nat) : Int) : Nat) : Int) == 1) = okR n d := by
  rw [gcd_abs2, Bool.eq_iff_iff, okR_true]; simp only [beq_iff_eq]; omega
theorem okR_out {n d : Int} (h : ¬ ((1 ≤ d ∧ d ≤ 1000000000) ∧ (-1000000000 ≤ n ∧ n ≤ 1000000000))) : false = okR n d := by
  rw [Bool.eq_iff_iff, okR_true]; simp; omega

end Go.Proofs.YtpbepibklipfpaaDoor

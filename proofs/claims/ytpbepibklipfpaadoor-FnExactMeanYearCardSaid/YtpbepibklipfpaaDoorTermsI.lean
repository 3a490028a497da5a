/-
  The iterator over the terms of a ratio: impl.Ratio.terms and its function literal.
-/
import Derived.Test.YtpbepibklipfpaaDoorRf
import Derived.Test.YtpbepibklipfpaaDoorFloor
import Derived.Test.YtpbepibklipfpaaDoorBox
import Derived.Test.YtpbepibklipfpaaDoorWhole
import Derived.Shelf.Abstract
import Derived.Shelf.RegionOpen
import Derived.WalkKit
import Derived.OwnWalkIn
import Derived.TacticsInMore
import Derived.LoopNIn
import Derived.LoopIn
namespace Go.Proofs.YtpbepibklipfpaaDoor
open Go.RowKit Go.Shelf
attribute [local go_sem] Oper.semAt_some

theorem wdep (k : Nat) : Fence.wide.depth.isSome = true → 1 ≤ k := fun h => by cases h
theorem roundAny {m k : Nat} {P : Program} {l : Nat} {f : FuncId} {tmps : Array Value} {assign body : Code} {w : World} {R : Ending → World → Prop} (h : RoundIn Fence.wide m P l f tmps assign body w R) : RoundIn Fence.wide k P l f tmps assign body w R :=
  ⟨h.1, fun c cs _ => h.2 c cs (fun d hd => by cases hd)⟩
def blockOf : Value → Nat
  | .pointer (some a) => a.block
  | _ => 0
def cellN (w : World) (b o : Nat) : Int := match w.cell? ⟨b, o, none⟩ with | some (.int _ n) => n | _ => 0
theorem Box2.denN {w : World} {b : Nat} {x y : Int} (h : Box2 w b x y) : cellN w b 1 = y := by unfold cellN; rw [h.c1]
theorem Box2.of_block {w w' : World} {b : Nat} {x y : Int} (h : Box2 w b x y) (hs : w.heap.size ≤ w'.heap.size) (hb : w'.heap[b]? = w.heap[b]?) : Box2 w' b x y :=
  ⟨(World.cell?_of_block hb).trans h.c0, (World.cell?_of_block hb).trans h.c1, (World.frozen?_of_block hb).trans h.f0, (World.frozen?_of_block hb).trans h.f1, Nat.lt_of_lt_of_le h.lt hs⟩
/-- One step of the terms. -/
theorem terms_go {x y : Int} (h : okR x y = true) (h0 : x - x / y * y ≠ 0) : terms x y = x / y :: terms y (x - x / y * y) ∧ okR y (x - x / y * y) = true ∧ x - x / y * y < y ∧ 0 ≤ x - x / y * y := by
  obtain ⟨a1, a2, a3, a4, a5⟩ := okR_true.1 h
  have e : x - x / y * y = x % y := by have := Int.emod_add_mul_ediv x y; grind
  have m1 := Int.emod_nonneg x (show y ≠ 0 by omega)
  have m2 := Int.emod_lt_of_pos x (show 0 < y by omega)
  rw [e] at h0 ⊢
  exact ⟨terms_pos a1, okR_true.2 ⟨by omega, by omega, by omega, by omega, by rw [gcd_mod]; exact a5⟩, m2, m1⟩
theorem terms_end {x y : Int} (h : okR x y = true) (h0 : x - x / y * y = 0) : terms x y = [x / y] := by
  obtain ⟨a1, a2, a3, a4, a5⟩ := okR_true.1 h
  have e : x - x / y * y = x % y := by have := Int.emod_add_mul_ediv x y; grind
  rw [terms_pos a1, ← e, h0, terms_zero (by omega)]
def TermRel (n d : Int) (J : List Int → (Nat → Prop) → World → Prop) (p : Value) (wr : World) : Prop :=
  ∃ (pre : List Int) (x y : Int) (r : Nat) (T : Nat → Prop), p = .pointer (some ⟨r, 0, none⟩) ∧ Box2 wr r x y ∧ T r ∧ J pre T wr ∧ (∀ k, T k → k < wr.heap.size) ∧ okR x y = true ∧ terms n d = pre ++ terms x y

end Go.Proofs.YtpbepibklipfpaaDoor

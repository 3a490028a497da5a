/-
  Contracts of the small arithmetic of ratios: impl.Ratio.negated, spec.l02Neg, l02Add, l02Mul.
-/
import Derived.Test.YtpbepibklipfpaaDoorMk
import Derived.Test.YtpbepibklipfpaaDoorCmp
namespace Go.Proofs.YtpbepibklipfpaaDoor
open Go.RowKit

/-- The numerator of a sum, and a product. -/
def addX (n d p q : Int) : Int := n * q + p * d
def mulX (a b : Int) : Int := a * b
theorem mulX_bd {a b : Int} (h1 : -1000000000 ≤ a) (h2 : a ≤ 1000000000) (h3 : -1000000000 ≤ b) (h4 : b ≤ 1000000000) : -1000000000000000000 ≤ mulX a b ∧ mulX a b ≤ 1000000000000000000 := mul_bd h1 h2 h3 h4
theorem addX_bd {n d p q : Int} (a1 : -1000000000 ≤ n) (a2 : n ≤ 1000000000) (b1 : -1000000000 ≤ d) (b2 : d ≤ 1000000000) (c1 : -1000000000 ≤ p) (c2 : p ≤ 1000000000) (d1 : -1000000000 ≤ q) (d2 : q ≤ 1000000000) :
    -2000000000000000000 ≤ addX n d p q ∧ addX n d p q ≤ 2000000000000000000 := by
  have h1 := mul_bd a1 a2 d1 d2
  have h2 := mul_bd c1 c2 b1 b2
  unfold addX; omega
theorem mulX_pos {a b : Int} (h1 : 1 ≤ a) (h2 : 1 ≤ b) : mulX a b ≠ 0 := by
  have := Int.mul_pos (show 0 < a by omega) (show 0 < b by omega)
  unfold mulX; omega
theorem mulX_ne {a b : Int} (h1 : 1 ≤ a) (h2 : b ≠ 0) : mulX a b ≠ 0 := by
  unfold mulX; exact Int.mul_ne_zero (by omega) h2
theorem bU {w x : World} (h : Below w.drew.heap.size w.drew x) : Below w.heap.size w x := ⟨h.os, h.tape, h.output, h.size, h.block⟩

theorem negated_any (n d : Int) (w : World) (h1 : -1000000000 ≤ n) (h2 : n ≤ 1000000000) :
    Calls Tryd.prog 110 #[.agg #[.int .i64 n, .int .i64 d]] w fun e w' => e = .returned (.agg #[.int .i64 (-n), .int .i64 d]) ∧ Below w.heap.size w w' := by
  go_enter Tryd.func110, Tryd.ntmps110
  go_wp2_with fail
  exact bodyPost_ret (v := .agg #[.int .i64 (-n), .int .i64 d]) (by simp [results, Tryd.results110, go_sem]) rfl ⟨rfl, bA (bA (bR _) _) _⟩
end Go.Proofs.YtpbepibklipfpaaDoor

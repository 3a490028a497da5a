/-
  Contracts of the small arithmetic of ratios: impl.Ratio.negated, spec.l02Neg, l02Add, l02Mul.
-/
import Derived.Test.YtldjplopglpgfaaMk
import Derived.Test.YtldjplopglpgfaaCmp
namespace Go.Proofs.Ytldjplopglpgfaa
open Go.RowKit

/-- The numerator of a sum, and a product. -/
def addX (n d p q : Int) : Int := n * q + p * d
def mulX (a b : Int) : Int := a * b
theorem mulX_bd {a b : Int} (h1 : -1000000000 ≤ a) (h2 : a ≤ 1000000000) (h3 : -1000000000 ≤ b) (h4 : b ≤ 1000000000) : -1000000000000000000 ≤ mulX a b ∧ mulX a b ≤ 1000000000000000000 := mul_bd h1 h2 h3 h4
theorem addX_bd {n d p q : Int} (a1 : -1000000000 ≤ n) (a2 : n ≤ 1000000000) (b1 : -1000000000 ≤ d) (b2 : d ≤ 1000000000) (c1 : -1000000000 ≤ p) (c2 : p ≤ 1000000000) (d1 : -1000000000 ≤ q) (d2 : q ≤ 1000000000) :
    -2000000000000000000 ≤ addX n d p q ∧ addX n d p q ≤ 2000000000000000000 := by
  have h1 := mul_bd a1 a2 d1 d2
  have h2 := mul_bd c1 c2 b1 b2
  unfold addX; omega
theorem mulX_pos {a b : Int} (h1 : 1 ≤ a) (h2 : 1 ≤ b) : mulX a b ≠ 0 := by
  have := Int.mul_pos (show 0 < a by omega) (show 0 < b by omega)
  unfold mulX; omega
theorem mulX_ne {a b : Int} (h1 : 1 ≤ a) (h2 : b ≠ 0) : mulX a b ≠ 0 := by
  unfold mulX; exact Int.mul_ne_zero (by omega) h2
theorem bU {w x : World} (h : Below w.drew.heap.size w.drew x) : Below w.heap.size w x := ⟨h.os, h.tape, h.output, h.size, h.block⟩

theorem l02Neg_any (n d : Int) (w : World) (h1 : -1000000000 ≤ n) (h2 : n ≤ 1000000000) :
    Calls Try.prog 30 #[.agg #[.int .i64 n, .int .i64 d]] w fun e w' => e = .returned (.agg #[.int .i64 (-n), .int .i64 d]) ∧ Below w.heap.size w w' := by
  go_enter Try.func30, Try.ntmps30
  go_wp2_with fail
  exact bodyPost_ret (v := .agg #[.int .i64 (-n), .int .i64 d]) (by simp [results, Try.results30, go_sem]) rfl ⟨rfl, bA (bA (bR _) _) _⟩

set_option maxHeartbeats 400000 in
theorem l02Add_any (n d p q : Int) (w : World) (a1 : -1000000000 ≤ n) (a2 : n ≤ 1000000000) (b1 : 1 ≤ d) (b2 : d ≤ 1000000000) (c1 : -1000000000 ≤ p) (c2 : p ≤ 1000000000) (d1 : 1 ≤ q) (d2 : q ≤ 1000000000) :
    Calls Try.prog 29 #[.agg #[.int .i64 n, .int .i64 d], .agg #[.int .i64 p, .int .i64 q]] w fun e w' => e = .returned (.tuple #[.agg #[.int .i64 (mkA (addX n d p q) (mulX d q)), .int .i64 (mkB (addX n d p q) (mulX d q))], .bool (lowOk (addX n d p q) (mulX d q))]) ∧ Below w.heap.size w w' := by
  obtain ⟨m1, m2⟩ := mul_bd a1 a2 (show -1000000000 ≤ q by omega) d2
  obtain ⟨m3, m4⟩ := mul_bd c1 c2 (show -1000000000 ≤ d by omega) b2
  obtain ⟨m5, m6⟩ := mul_bd (show -1000000000 ≤ d by omega) b2 (show -1000000000 ≤ q by omega) d2
  have HP := Lib.hid (mulX_pos b1 d1)
  obtain ⟨x1, x2⟩ := addX_bd a1 a2 (show -1000000000 ≤ d by omega) b2 c1 c2 (show -1000000000 ≤ q by omega) d2
  obtain ⟨y1, y2⟩ := mulX_bd (show -1000000000 ≤ d by omega) b2 (show -1000000000 ≤ q by omega) d2
  go_enter Try.func29, Try.ntmps29
  go_wp2_with fail
  refine (l02Make_any (addX n d p q) (mulX d q) _ HP.out (by omega) (by omega) (by omega) (by omega)).mono ?_
  rintro e w1 ⟨rfl, hb1⟩
  obtain ⟨hc1, hf1⟩ := bcell hb1
  have hs1 : w.heap.size + 1 + 1 < w1.heap.size := bsize hb1 (by simp)
  go_wp2_with fail
  refine bodyPost_ret (v := .tuple #[.agg #[.int .i64 (mkA (addX n d p q) (mulX d q)), .int .i64 (mkB (addX n d p q) (mulX d q))], .bool (lowOk (addX n d p q) (mulX d q))]) ?_ rfl ⟨rfl, ((bT (bA (bA (bA (bR _) _) _) _) hb1).setCell (by simp; omega) _).setCell (by simp; omega) _⟩
  simp [results, Try.results29, go_sem, hc1, addX, mulX]

end Go.Proofs.Ytldjplopglpgfaa

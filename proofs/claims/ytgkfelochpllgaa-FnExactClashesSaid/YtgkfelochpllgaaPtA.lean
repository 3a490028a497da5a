/-
  Points: impl.isBetween, Point.isWithin, ValidPoint, minus, squaredTo; spec.l09Point, ValidPoint, l09Square; laws.toPoint, eqPoint.
-/
import Derived.Test.YtgkfelochpllgaaPlB
import Derived.Test.YtgkfelochpllgaaEqR
import Derived.Test.YtgkfelochpllgaaBox
namespace Go.Proofs.Ytgkfelochpllgaa
open Go.RowKit

theorem isBetween_any (n lo hi : Int) (w : World) :
    Calls Try.prog 84 #[.int .i64 n, .int .i64 lo, .int .i64 hi] w fun e w' => e = .returned (.bool (inB n lo hi)) ∧ w = w' := by
  by_cases h : lo ≤ n
  · go_enter Try.func84, Try.ntmps84
    go_wp2
    go_ret
    exact ⟨ret_bool (by simp [inB, h]), rfl⟩
  · go_enter Try.func84, Try.ntmps84
    go_wp2
    go_ret
    exact ⟨ret_bool (by simp [inB]; omega), rfl⟩
theorem isWithin_any (x y W H : Int) (w : World) :
    Calls Try.prog 108 #[.agg #[.int .i64 x, .int .i64 y], .int .i64 W, .int .i64 H] w (BoolBel (inB x 0 W && inB y 0 H) w) := by
  cases h1 : inB x 0 W
  · go_enter Try.func108, Try.ntmps108
    go_wp2_with (go_at_call 84; refine (isBetween_any _ _ _ _).mono ?_; rintro e w1 ⟨rfl, rfl⟩)
    go_ret
    exact ⟨rfl, bA (bR _) _⟩
  · rw [Bool.true_and]
    go_enter Try.func108, Try.ntmps108
    go_wp2_with (go_at_call 84; refine (isBetween_any _ _ _ _).mono ?_; rintro e w1 ⟨rfl, rfl⟩)
    go_ret
    exact ⟨rfl, bA (bR _) _⟩
def PtBel (x y : Int) (w : World) (e : Ending) (w' : World) : Prop := e = .returned (.agg #[.int .i64 x, .int .i64 y]) ∧ Below w.heap.size w w'
def IntBel (n : Int) (w : World) (e : Ending) (w' : World) : Prop := e = .returned (.int .i64 n) ∧ Below w.heap.size w w'
theorem toPoint_any (x y : Int) (w : World) :
    Calls Try.prog 107 #[.agg #[.int .i64 x, .int .i64 y]] w (PtBel x y w) := by
  go_enter Try.func107, Try.ntmps107
  go_wp2
  exact bodyPost_ret (v := .agg #[.int .i64 x, .int .i64 y]) (by simp [results, Try.results107, go_sem]) rfl ⟨rfl, bA (bA (bA (bR _) _) _) _⟩
theorem eqPoint_same (x y : Int) (w : World) :
    Calls Try.prog 111 #[.agg #[.int .i64 x, .int .i64 y], .agg #[.int .i64 x, .int .i64 y]] w (BoolBel true w) := by
  have h1 : (x != x) = false := by simp
  have h2 : (y != y) = false := by simp
  go_enter Try.func111, Try.ntmps111
  go_wp2_with fail
  go_ret
  exact ⟨rfl, bA (bA (bR _) _) _⟩
theorem minus_any (a b c d : Int) (w : World) (h1 : 0 ≤ a ∧ a ≤ 10000) (h2 : 0 ≤ b ∧ b ≤ 10000) (h3 : 0 ≤ c ∧ c ≤ 10000) (h4 : 0 ≤ d ∧ d ≤ 10000) :
    Calls Try.prog 110 #[.agg #[.int .i64 a, .int .i64 b], .agg #[.int .i64 c, .int .i64 d]] w (PtBel (a - c) (b - d) w) := by
  obtain ⟨a1, a2⟩ := h1
  obtain ⟨b1, b2⟩ := h2
  obtain ⟨c1, c2⟩ := h3
  obtain ⟨d1, d2⟩ := h4
  go_enter Try.func110, Try.ntmps110
  go_wp2_with fail
  exact bodyPost_ret (v := .agg #[.int .i64 (a - c), .int .i64 (b - d)]) (by simp [results, Try.results110, go_sem]) rfl ⟨rfl, bA (bA (bA (bR _) _) _) _⟩
set_option maxHeartbeats 1000000 in
theorem squaredTo_any (a b c d : Int) (w : World) (h1 : 0 ≤ a ∧ a ≤ 10000) (h2 : 0 ≤ b ∧ b ≤ 10000) (h3 : 0 ≤ c ∧ c ≤ 10000) (h4 : 0 ≤ d ∧ d ≤ 10000) :
    Calls Try.prog 89 #[.agg #[.int .i64 a, .int .i64 b], .agg #[.int .i64 c, .int .i64 d]] w (IntBel (d2 a b c d) w) := by
  have p := sq_bd (x := c - a) (m := 10000) (by omega) (by omega)
  have q := sq_bd (x := d - b) (m := 10000) (by omega) (by omega)
  have HD := Lib.hid (show (c - a) * (c - a) + (d - b) * (d - b) = d2 a b c d by rw [d2_comm]; rfl)
  go_enter Try.func89, Try.ntmps89
  go_wp2_with fail
  refine (minus_any c d a b _ h3 h4 h1 h2).mono ?_
  rintro e w1 ⟨rfl, hb⟩
  have L1 := Lib.hid (bT (bA (bA (bR w) (.cells #[.int .i64 a, .int .i64 b] 88)) (.cells #[.int .i64 c, .int .i64 d] 88)) hb)
  clear hb
  go_wp2_with fail
  go_ret
  exact ⟨ret_int HD.out, bA L1.out _⟩
set_option maxHeartbeats 1000000 in
theorem l09Square_any (a b c d : Int) (w : World) (h1 : 0 ≤ a ∧ a ≤ 10000) (h2 : 0 ≤ b ∧ b ≤ 10000) (h3 : 0 ≤ c ∧ c ≤ 10000) (h4 : 0 ≤ d ∧ d ≤ 10000) :
    Calls Try.prog 82 #[.agg #[.int .i64 a, .int .i64 b], .agg #[.int .i64 c, .int .i64 d]] w (IntBel (d2 a b c d) w) := by
  have p := sq_bd (x := a - c) (m := 10000) (by omega) (by omega)
  have q := sq_bd (x := b - d) (m := 10000) (by omega) (by omega)
  have HD := Lib.hid (show (a - c) * (a - c) + (b - d) * (b - d) = d2 a b c d from rfl)
  go_enter Try.func82, Try.ntmps82
  go_wp2_with fail
  go_ret
  exact ⟨ret_int HD.out, bA (bA (bR _) _) _⟩
end Go.Proofs.Ytgkfelochpllgaa

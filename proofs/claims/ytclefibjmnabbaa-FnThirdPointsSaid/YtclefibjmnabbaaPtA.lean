/-
  Points: impl.isBetween, Point.isWithin, ValidPoint, minus, squaredTo; spec.l09Point, ValidPoint, l09Square; laws.toPoint, eqPoint.
-/
import Derived.Test.YtclefibjmnabbaaPlB
import Derived.Test.YtclefibjmnabbaaEqR
import Derived.Test.YtclefibjmnabbaaBox
namespace Go.Proofs.Ytclefibjmnabbaa
open Go.RowKit

theorem isWithin_any (x y W H : Int) (w : World) :
    Calls Try.prog 79 #[.agg #[.int .i64 x, .int .i64 y], .int .i64 W, .int .i64 H] w (BoolBel (inB x 0 W && inB y 0 H) w) := by
  cases h1 : inB x 0 W
  · go_enter Try.func79, Try.ntmps79
    go_wp2_with (go_at_call 54; refine (isBetween_any _ _ _ _).mono ?_; rintro e w1 ⟨rfl, rfl⟩)
    go_ret
    exact ⟨rfl, bA (bR _) _⟩
  · rw [Bool.true_and]
    go_enter Try.func79, Try.ntmps79
    go_wp2_with (go_at_call 54; refine (isBetween_any _ _ _ _).mono ?_; rintro e w1 ⟨rfl, rfl⟩)
    go_ret
    exact ⟨rfl, bA (bR _) _⟩
theorem ValidPointI_any (x y : Int) (w : World) :
    Calls Try.prog 53 #[.agg #[.int .i64 x, .int .i64 y]] w (BoolBel (ptB x y) w) := by
  go_enter Try.func53, Try.ntmps53
  go_wp2_with fail
  refine (isWithin_any _ _ _ _ _).mono ?_
  rintro e w1 ⟨rfl, hb⟩
  go_wp2_with fail
  go_ret
  exact ⟨rfl, bT (bA (bR _) _) hb⟩
theorem l09Point_any (x y : Int) (w : World) :
    Calls Try.prog 49 #[.agg #[.int .i64 x, .int .i64 y]] w (BoolBel (ptB x y) w) := by
  unfold ptB
  cases h1 : inB x 0 10000
  · go_enter Try.func49, Try.ntmps49
    go_wp2_with (go_at_call 41; refine (l00In_any _ _ _ _).mono ?_; rintro e w1 ⟨rfl, rfl⟩)
    go_ret
    exact ⟨rfl, bA (bR _) _⟩
  · rw [Bool.true_and]
    go_enter Try.func49, Try.ntmps49
    go_wp2_with (go_at_call 41; refine (l00In_any _ _ _ _).mono ?_; rintro e w1 ⟨rfl, rfl⟩)
    go_ret
    exact ⟨rfl, bA (bR _) _⟩
def PtBel (x y : Int) (w : World) (e : Ending) (w' : World) : Prop := e = .returned (.agg #[.int .i64 x, .int .i64 y]) ∧ Below w.heap.size w w'
def IntBel (n : Int) (w : World) (e : Ending) (w' : World) : Prop := e = .returned (.int .i64 n) ∧ Below w.heap.size w w'
theorem toPoint_any (x y : Int) (w : World) :
    Calls Try.prog 21 #[.agg #[.int .i64 x, .int .i64 y]] w (PtBel x y w) := by
  go_enter Try.func21, Try.ntmps21
  go_wp2
  exact bodyPost_ret (v := .agg #[.int .i64 x, .int .i64 y]) (by simp [results, Try.results21, go_sem]) rfl ⟨rfl, bA (bA (bA (bR _) _) _) _⟩
theorem eqPoint_same (x y : Int) (w : World) :
    Calls Try.prog 23 #[.agg #[.int .i64 x, .int .i64 y], .agg #[.int .i64 x, .int .i64 y]] w (BoolBel true w) := by
  have h1 : (x != x) = false := by simp
  have h2 : (y != y) = false := by simp
  go_enter Try.func23, Try.ntmps23
  go_wp2_with fail
  go_ret
  exact ⟨rfl, bA (bA (bR _) _) _⟩
theorem minus_any (a b c d : Int) (w : World) (h1 : 0 ≤ a ∧ a ≤ 10000) (h2 : 0 ≤ b ∧ b ≤ 10000) (h3 : 0 ≤ c ∧ c ≤ 10000) (h4 : 0 ≤ d ∧ d ≤ 10000) :
    Calls Try.prog 55 #[.agg #[.int .i64 a, .int .i64 b], .agg #[.int .i64 c, .int .i64 d]] w (PtBel (a - c) (b - d) w) := by
  obtain ⟨a1, a2⟩ := h1
  obtain ⟨b1, b2⟩ := h2
  obtain ⟨c1, c2⟩ := h3
  obtain ⟨d1, d2⟩ := h4
  go_enter Try.func55, Try.ntmps55
  go_wp2_with fail
  exact bodyPost_ret (v := .agg #[.int .i64 (a - c), .int .i64 (b - d)]) (by simp [results, Try.results55, go_sem]) rfl ⟨rfl, bA (bA (bA (bR _) _) _) _⟩
set_option maxHeartbeats 1000000 in
theorem squaredTo_any (a b c d : Int) (w : World) (h1 : 0 ≤ a ∧ a ≤ 10000) (h2 : 0 ≤ b ∧ b ≤ 10000) (h3 : 0 ≤ c ∧ c ≤ 10000) (h4 : 0 ≤ d ∧ d ≤ 10000) :
    Calls Try.prog 56 #[.agg #[.int .i64 a, .int .i64 b], .agg #[.int .i64 c, .int .i64 d]] w (IntBel (d2 a b c d) w) := by
  have p := sq_bd (x := c - a) (m := 10000) (by omega) (by omega)
  have q := sq_bd (x := d - b) (m := 10000) (by omega) (by omega)
  have HD := Lib.hid (show (c - a) * (c - a) + (d - b) * (d - b) = d2 a b c d by rw [d2_comm]; rfl)
  go_enter Try.func56, Try.ntmps56
  go_wp2_with fail
  refine (minus_any c d a b _ h3 h4 h1 h2).mono ?_
  rintro e w1 ⟨rfl, hb⟩
  have L1 := Lib.hid (bT (bA (bA (bR w) (.cells #[.int .i64 a, .int .i64 b] 38)) (.cells #[.int .i64 c, .int .i64 d] 38)) hb)
  clear hb
  go_wp2_with fail
  go_ret
  exact ⟨ret_int HD.out, bA L1.out _⟩
set_option maxHeartbeats 1000000 in
theorem l09Square_any (a b c d : Int) (w : World) (h1 : 0 ≤ a ∧ a ≤ 10000) (h2 : 0 ≤ b ∧ b ≤ 10000) (h3 : 0 ≤ c ∧ c ≤ 10000) (h4 : 0 ≤ d ∧ d ≤ 10000) :
    Calls Try.prog 50 #[.agg #[.int .i64 a, .int .i64 b], .agg #[.int .i64 c, .int .i64 d]] w (IntBel (d2 a b c d) w) := by
  have p := sq_bd (x := a - c) (m := 10000) (by omega) (by omega)
  have q := sq_bd (x := b - d) (m := 10000) (by omega) (by omega)
  have HD := Lib.hid (show (a - c) * (a - c) + (b - d) * (b - d) = d2 a b c d from rfl)
  go_enter Try.func50, Try.ntmps50
  go_wp2_with fail
  go_ret
  exact ⟨ret_int HD.out, bA (bA (bR _) _) _⟩
end Go.Proofs.Ytclefibjmnabbaa

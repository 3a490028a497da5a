/-
  Directions of rounding: impl.direction.quotient, pi, timesPi; PiBounds, both sides.
-/
import Derived.Test.YtclefibjmnabbaaFloor
import Derived.Test.YtclefibjmnabbaaAn
namespace Go.Proofs.Ytclefibjmnabbaa
open Go.RowKit

/-- A quotient, rounded up. -/
def upq (n d : Int) : Int := -((-n) / d)
theorem div_bd {x d A : Int} (h0 : 0 ≤ A) (h1 : -A ≤ x) (h2 : x ≤ A) (hd : 1 ≤ d) : -A ≤ x / d ∧ x / d ≤ A := by
  have hm : A * 1 ≤ A * d := Int.mul_le_mul_of_nonneg_left hd h0
  refine ⟨Int.le_ediv_of_mul_le (by omega) ?_, Int.ediv_le_of_le_mul (by omega) (by omega)⟩
  rw [Int.neg_mul]; omega
theorem upq_le {n d z : Int} (hd : 1 ≤ d) : upq n d ≤ z ↔ n ≤ z * d := by
  unfold upq
  constructor
  · intro h
    have h1 : -z ≤ (-n) / d := by omega
    have h2 := (Int.le_ediv_iff_mul_le (by omega)).1 h1
    rw [Int.neg_mul] at h2; omega
  · intro h
    have : -z ≤ (-n) / d := (Int.le_ediv_iff_mul_le (by omega)).2 (by rw [Int.neg_mul]; omega)
    omega
theorem le_div {n d z : Int} (hd : 1 ≤ d) : z ≤ n / d ↔ z * d ≤ n := Int.le_ediv_iff_mul_le (by omega)
theorem quoD_any (n d : Int) (w : World) (h1 : -4000000000000000000 ≤ n) (h2 : n ≤ 4000000000000000000) (hd : 1 ≤ d) :
    Calls Try.prog 69 #[.int .i64 0, .int .i64 n, .int .i64 d] w fun e w' => e = .returned (.int .i64 (n / d)) ∧ w = w' := by
  go_enter Try.func69, Try.ntmps69
  go_wp2_with fail
  refine (floorOf_any _ _ _ (by omega) (by omega) (by omega)).mono ?_
  rintro e w1 ⟨rfl, rfl⟩
  go_wp2_with fail
  go_ret
  exact ⟨rfl, rfl⟩
theorem quoU_any (n d : Int) (w : World) (h1 : -4000000000000000000 ≤ n) (h2 : n ≤ 4000000000000000000) (hd : 1 ≤ d) :
    Calls Try.prog 69 #[.int .i64 1, .int .i64 n, .int .i64 d] w fun e w' => e = .returned (.int .i64 (upq n d)) ∧ w = w' := by
  have hb := div_bd (x := -n) (d := d) (A := 4000000000000000000) (by omega) (by omega) (by omega) hd
  unfold upq
  go_enter Try.func69, Try.ntmps69
  go_wp2_with fail
  refine (floorOf_any _ _ _ (by omega) (by omega) (by omega)).mono ?_
  rintro e w1 ⟨rfl, rfl⟩
  go_wp2_with fail
  go_ret
  exact ⟨rfl, rfl⟩
def RaB (a b : Int) (w : World) (e : Ending) (w' : World) : Prop := e = .returned (.agg #[.int .i64 a, .int .i64 b]) ∧ Below w.heap.size w w'
/-- The bounds of n times pi. -/
def piL (n : Int) : Int := n * 103993 / 33102
def piU (n : Int) : Int := upq (n * 104348) 33215
theorem piL_bd {n : Int} (h0 : 0 ≤ n) (h1 : n ≤ 1000000000) : 0 ≤ piL n ∧ piL n ≤ 4 * n := by unfold piL; omega
theorem piU_bd {n : Int} (h0 : 0 ≤ n) (h1 : n ≤ 1000000000) : 0 ≤ piU n ∧ piU n ≤ 4 * n := by unfold piU upq; omega
theorem ret_pair {a b c d : Int} (h : a = b) (h' : c = d) : Ending.returned (.tuple #[.int .i64 a, .int .i64 c]) = .returned (.tuple #[.int .i64 b, .int .i64 d]) := by rw [h, h']
/-- What PiBounds returns. -/
def pbF (n : Int) : Int × Int × Int := if inB n 0 1000000000 = true then (piL n, piU n, 0) else (0, 0, 2)
theorem pbF_no {n : Int} (h : inB n 0 1000000000 = false) : pbF n = (0, 0, 2) := by simp [pbF, h]
theorem pbF_yes {n : Int} (h : inB n 0 1000000000 = true) : pbF n = (piL n, piU n, 0) := by simp [pbF, h]
end Go.Proofs.Ytclefibjmnabbaa

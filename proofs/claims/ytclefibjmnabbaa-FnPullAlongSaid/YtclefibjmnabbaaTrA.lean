/-
  The contracts of impl.ValidPair, ValidTrain, MeetingTurns, TeethOf, and of spec.ValidTrain, MeetingTurns, l05Sum, TeethOf.
-/
import Derived.Test.YtclefibjmnabbaaTrS
namespace Go.Proofs.Ytclefibjmnabbaa
open Go.RowKit

theorem one_slP (w : World) (x y : Int) (t : TypeId) : SlP (w.alloc (.cells #[.int .i64 x, .int .i64 y] t)) (.slice (some ⟨w.heap.size, 0, none⟩) 1 1) [(x, y)] := by
  refine ⟨_, 1, rfl, fun _ => ⟨_, rfl, by simp, fun i hi => ?_⟩⟩
  obtain rfl : i = 0 := by simp at hi; omega
  exact ⟨by simp [go_sem, pat], by simp [go_sem, pat]⟩
theorem okT_one (x y : Int) : okT [(x, y)] = okP (x, y) := by simp [okT]
theorem ValidTrainI_any (ps : List (Int × Int)) (v : Value) (w : World) (ha : SlP w v ps) (hmax : ps.length ≤ 1000000000000) :
    Calls Try.prog 75 #[v] w (BoolBel (okT ps) w) := by
  go_enter Try.func75, Try.ntmps75
  go_wp2_with fail
  refine (isTrain_any ps _ _ ha hmax).mono ?_
  rintro e w1 ⟨rfl, hb⟩
  go_wp2_with fail
  go_ret
  exact ⟨rfl, hb⟩
/-- What MeetingTurns returns. -/
def mtN (x y : Int) : Int := if okP (x, y) then y / ((Int.gcd x y : Nat) : Int) else 0
def mtC (x y : Int) : Int := if okP (x, y) then 0 else 1
def TwoI (a b : Int) (w : World) (e : Ending) (w' : World) : Prop := e = .returned (.tuple #[.int .i64 a, .int .i64 b]) ∧ Below w.heap.size w w'
theorem mt_no {x y : Int} (h : okP (x, y) = false) : mtN x y = 0 ∧ mtC x y = 1 := by simp [mtN, mtC, h]
theorem mt_yes {x y : Int} (h : okP (x, y) = true) : mtN x y = y / ((Int.gcd x y : Nat) : Int) ∧ mtC x y = 0 := by simp [mtN, mtC, h]
theorem gcd_lim {x y : Int} (h : okP (x, y) = true) : 1 ≤ ((Int.gcd x y : Nat) : Int) ∧ ((Int.gcd x y : Nat) : Int) ≤ 240 := by
  obtain ⟨a1, a2, a3, a4⟩ := okP_bd h
  have h1 : 0 < Int.gcd x y := Int.gcd_pos_of_ne_zero_left y (by simp at a1; omega)
  have h2 : ((Int.gcd x y : Nat) : Int) ≤ x := Int.le_of_dvd (by simp at a1; omega) (Int.gcd_dvd_left x y)
  simp at a2
  omega
theorem div_pos_bd {y g : Int} (hy : 0 ≤ y) (_hg : 1 ≤ g) : 0 ≤ y / g ∧ y / g ≤ y := ⟨Int.ediv_nonneg hy (by omega), Int.ediv_le_self _ hy⟩
end Go.Proofs.Ytclefibjmnabbaa

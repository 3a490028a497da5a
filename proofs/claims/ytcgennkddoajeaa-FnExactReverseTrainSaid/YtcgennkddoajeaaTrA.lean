/-
  The contracts of impl.ValidPair, ValidTrain, MeetingTurns, TeethOf, and of spec.ValidTrain, MeetingTurns, l05Sum, TeethOf.
-/
import Derived.Test.YtcgennkddoajeaaTrS
namespace Go.Proofs.Ytcgennkddoajeaa
open Go.RowKit

theorem one_slP (w : World) (x y : Int) (t : TypeId) : SlP (w.alloc (.cells #[.int .i64 x, .int .i64 y] t)) (.slice (some ⟨w.heap.size, 0, none⟩) 1 1) [(x, y)] := by
  refine ⟨_, 1, rfl, fun _ => ⟨_, rfl, by simp, fun i hi => ?_⟩⟩
  obtain rfl : i = 0 := by simp at hi; omega
  exact ⟨by simp [go_sem, pat], by simp [go_sem, pat]⟩
theorem okT_one (x y : Int) : okT [(x, y)] = okP (x, y) := by simp [okT]
theorem ValidPairI_any (x y : Int) (w : World) :
    Calls Try.prog 26 #[.agg #[.int .i64 x, .int .i64 y]] w fun e w' => e = .returned (.bool (okP (x, y))) ∧ Below w.heap.size w w' := by
  go_enter Try.func26, Try.ntmps26
  go_wp2_with fail
  refine (isTrain_any [(x, y)] _ _ (by first | exact one_slP _ _ _ _ | (have := one_slP (w.alloc (.cells #[.int .i64 x, .int .i64 y] 43)) x y 43; simpa using this)) (by simp)).mono ?_
  rw [okT_one]
  rintro e w1 ⟨rfl, hb⟩
  go_wp2_with fail
  go_ret
  exact ⟨rfl, bT (bA (bA (bR _) _) _) hb⟩
theorem ValidTrainI_any (ps : List (Int × Int)) (v : Value) (w : World) (ha : SlP w v ps) (hmax : ps.length ≤ 1000000000000) :
    Calls Try.prog 30 #[v] w (BoolBel (okT ps) w) := by
  go_enter Try.func30, Try.ntmps30
  go_wp2_with fail
  refine (isTrain_any ps _ _ ha hmax).mono ?_
  rintro e w1 ⟨rfl, hb⟩
  go_wp2_with fail
  go_ret
  exact ⟨rfl, hb⟩
theorem ValidTrainS_any (ps : List (Int × Int)) (v : Value) (w : World) (ha : SlP w v ps) (hmax : ps.length ≤ 1000000000000) :
    Calls Try.prog 28 #[v] w (BoolBel (okT ps) w) := by
  go_enter Try.func28, Try.ntmps28
  go_wp2_with fail
  refine (l05Ok_any ps _ _ ha hmax).mono ?_
  rintro e w1 ⟨rfl, hb⟩
  go_wp2_with fail
  go_ret
  exact ⟨rfl, hb⟩

/-- What MeetingTurns returns. -/
def mtN (x y : Int) : Int := if okP (x, y) then y / ((Int.gcd x y : Nat) : Int) else 0
def mtC (x y : Int) : Int := if okP (x, y) then 0 else 1
def TwoI (a b : Int) (w : World) (e : Ending) (w' : World) : Prop := e = .returned (.tuple #[.int .i64 a, .int .i64 b]) ∧ Below w.heap.size w w'
theorem mt_no {x y : Int} (h : okP (x, y) = false) : mtN x y = 0 ∧ mtC x y = 1 := by simp [mtN, mtC, h]
theorem mt_yes {x y : Int} (h : okP (x, y) = true) : mtN x y = y / ((Int.gcd x y : Nat) : Int) ∧ mtC x y = 0 := by simp [mtN, mtC, h]
theorem gcd_lim {x y : Int} (h : okP (x, y) = true) : 1 ≤ ((Int.gcd x y : Nat) : Int) ∧ ((Int.gcd x y : Nat) : Int) ≤ 240 := by
  obtain ⟨a1, a2, a3, a4⟩ := okP_bd h
  have h1 : 0 < Int.gcd x y := Int.gcd_pos_of_ne_zero_left y (by simp at a1; omega)
  have h2 : ((Int.gcd x y : Nat) : Int) ≤ x := Int.le_of_dvd (by simp at a1; omega) (Int.gcd_dvd_left x y)
  simp at a2
  omega
theorem div_pos_bd {y g : Int} (hy : 0 ≤ y) (_hg : 1 ≤ g) : 0 ≤ y / g ∧ y / g ≤ y := ⟨Int.ediv_nonneg hy (by omega), Int.ediv_le_self _ hy⟩
set_option maxHeartbeats 1000000 in
theorem MeetingTurnsI_any (x y : Int) (w : World) :
    Calls Try.prog 20 #[.agg #[.int .i64 x, .int .i64 y]] w (TwoI (mtN x y) (mtC x y) w) := by
  cases h : okP (x, y)
  · rw [(mt_no h).1, (mt_no h).2]
    go_enter Try.func20, Try.ntmps20
    go_wp2_with fail
    refine (isTrain_any [(x, y)] _ _ (by first | exact one_slP _ _ _ _ | (have := one_slP (w.alloc (.cells #[.int .i64 x, .int .i64 y] 43)) x y 43; simpa using this)) (by simp)).mono ?_
    rw [okT_one, h]
    rintro e w1 ⟨rfl, hb⟩
    go_wp2_with fail
    go_ret2
    exact ⟨rfl, bT (bA (bA (bR _) _) _) hb⟩
  · rw [(mt_yes h).1, (mt_yes h).2]
    obtain ⟨a1, a2, a3, a4⟩ := okP_bd h
    obtain ⟨g1, g2⟩ := gcd_lim h
    simp only at a1 a2 a3 a4
    obtain ⟨d1, d2⟩ := div_pos_bd (y := y) (by omega) g1
    have HG := Lib.hid (gcd_abs2 x y)
    go_enter Try.func20, Try.ntmps20
    go_wp2_with fail
    refine (isTrain_any [(x, y)] _ _ (by first | exact one_slP _ _ _ _ | (have := one_slP (w.alloc (.cells #[.int .i64 x, .int .i64 y] 43)) x y 43; simpa using this)) (by simp)).mono ?_
    rw [okT_one, h]
    rintro e w1 ⟨rfl, hb⟩
    have B := Lib.hid ((((Box2.new w x y 43).alloc (.cells #[.int .i64 x, .int .i64 y] 43))).keep hb)
    have L := Lib.hid (bT (bA (bA (bR _) _) _) hb)
    clear hb h
    obtain ⟨c0, c1, _, _, c4⟩ := B.out
    go_wp2_with fail
    go_quiet (first | (go_at_call 57; exact quiet_eq (magnitude_any _ _ (by omega) (by omega))) | (go_at_call 56; exact Calls.quiet_of (commonDivisor_any _ _ _ (by omega) (by omega))))
    rw [HG.out]
    go_wp2_with fail
    go_ret2
    exact ⟨rfl, bD L.out _⟩
set_option maxHeartbeats 1000000 in
theorem MeetingTurnsS_any (x y : Int) (w : World) :
    Calls Try.prog 42 #[.agg #[.int .i64 x, .int .i64 y]] w (TwoI (mtN x y) (mtC x y) w) := by
  cases h : okP (x, y)
  · rw [(mt_no h).1, (mt_no h).2]
    go_enter Try.func42, Try.ntmps42
    go_wp2_with fail
    refine (l05Pair_any _ _ _).mono ?_
    rw [h]
    rintro e w1 ⟨rfl, hb⟩
    go_wp2_with fail
    go_ret2
    exact ⟨rfl, bT (bA (bR _) _) hb⟩
  · rw [(mt_yes h).1, (mt_yes h).2]
    obtain ⟨a1, a2, a3, a4⟩ := okP_bd h
    obtain ⟨g1, g2⟩ := gcd_lim h
    simp only at a1 a2 a3 a4
    obtain ⟨d1, d2⟩ := div_pos_bd (y := y) (by omega) g1
    go_enter Try.func42, Try.ntmps42
    go_wp2_with fail
    refine (l05Pair_any _ _ _).mono ?_
    rw [h]
    rintro e w1 ⟨rfl, hb⟩
    have B := Lib.hid ((Box2.new w x y 43).keep hb)
    have L := Lib.hid (bT (bA (bR _) _) hb)
    clear hb h
    obtain ⟨c0, c1, _, _, c4⟩ := B.out
    go_wp2_with fail
    go_quiet ((go_at_call 75; exact quiet_eq (l02Gcd_any _ _ _ (by omega) (by omega))))
    go_wp2_with fail
    go_ret2
    exact ⟨rfl, bD L.out _⟩
end Go.Proofs.Ytcgennkddoajeaa

/-
  The contracts of spec.l05Teeth, l05Pair, ValidPair, l05Ok, ValidTrain.
-/
import Derived.Test.YtpbmpmcifpgchaaTrI
namespace Go.Proofs.Ytpbmpmcifpgchaa
open Go.RowKit

theorem l05Teeth_any (t : Int) (w : World) :
    Calls Try.prog 90 #[.int .i64 t] w fun e w' => e = .returned (.bool (inB t 6 240)) ∧ w = w' := by
  go_enter Try.func90, Try.ntmps90
  go_wp2_with fail
  refine (l00In_any _ _ _ _).mono ?_
  rintro e w1 ⟨rfl, rfl⟩
  go_wp2_with fail
  go_ret
  exact ⟨rfl, rfl⟩
set_option maxHeartbeats 1000000 in
theorem l05Pair_any (x y : Int) (w : World) :
    Calls Try.prog 70 #[.agg #[.int .i64 x, .int .i64 y]] w fun e w' => e = .returned (.bool (okP (x, y))) ∧ Below w.heap.size w w' := by
  cases h1 : inB x 6 240
  · rw [okP_no1 h1]
    go_enter Try.func70, Try.ntmps70
    go_wp2_with (go_at_call 90; refine (l05Teeth_any _ _).mono ?_; rintro e w1 ⟨rfl, rfl⟩)
    go_ret
    exact ⟨rfl, bA (bR _) _⟩
  · cases h2 : inB y 6 240
    · rw [okP_no2 h2]
      go_enter Try.func70, Try.ntmps70
      go_wp2_with (go_at_call 90; refine (l05Teeth_any _ _).mono ?_; rintro e w1 ⟨rfl, rfl⟩)
      go_ret
      exact ⟨rfl, bA (bR _) _⟩
    · rw [okP_yes h1 h2]
      go_enter Try.func70, Try.ntmps70
      go_wp2_with (go_at_call 90; refine (l05Teeth_any _ _).mono ?_; rintro e w1 ⟨rfl, rfl⟩)
      go_ret
      exact ⟨rfl, bA (bR _) _⟩
theorem okT_short {ps : List (Int × Int)} (h : ps.all okP = true) : okT ps = decide (ps.length ≤ 5) := by simp [okT, h]
theorem okT_bad {ps : List (Int × Int)} (h : ps.all okP = false) : okT ps = false := by simp [okT, h]
end Go.Proofs.Ytpbmpmcifpgchaa

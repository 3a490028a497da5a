/-
  The contracts of spec.l05Teeth, l05Pair, ValidPair, l05Ok, ValidTrain.
-/
import Derived.Test.YtmhheecjpalajaaTrI
namespace Go.Proofs.Ytmhheecjpalajaa
open Go.RowKit

theorem l05Teeth_any (t : Int) (w : World) :
    Calls Try.prog 82 #[.int .i64 t] w fun e w' => e = .returned (.bool (inB t 6 240)) ∧ w = w' := by
  go_enter Try.func82, Try.ntmps82
  go_wp2_with fail
  refine (l00In_any _ _ _ _).mono ?_
  rintro e w1 ⟨rfl, rfl⟩
  go_wp2_with fail
  go_ret
  exact ⟨rfl, rfl⟩
theorem okT_short {ps : List (Int × Int)} (h : ps.all okP = true) : okT ps = decide (ps.length ≤ 5) := by simp [okT, h]
theorem okT_bad {ps : List (Int × Int)} (h : ps.all okP = false) : okT ps = false := by simp [okT, h]
end Go.Proofs.Ytmhheecjpalajaa

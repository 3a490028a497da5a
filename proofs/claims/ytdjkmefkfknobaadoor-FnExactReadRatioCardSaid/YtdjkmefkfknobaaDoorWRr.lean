/-
  The walk of laws.FnExactReadRatio.
-/
import Derived.Test.YtdjkmefkfknobaaDoorWRrI
import Derived.Test.YtdjkmefkfknobaaDoorWMake
namespace Go.Proofs.YtdjkmefkfknobaaDoor
open Go.RowKit

set_option maxHeartbeats 1000000 in
theorem FnExactReadRatio_walk (s : ByteArray) (w : World) (hP : Pow10 w) (hE : ErrVars w) (hM : MLen w) (hlen : s.size ≤ maxLen) :
    Calls Tryd.prog 13 #[.string s] w fun e w' => e = .returned (.bool true) ∧ Below w.heap.size w w' := by
  have HT := Lib.hid hP
  have HE := Lib.hid hE
  have HM := Lib.hid hM
  clear hP hE hM
  unfold maxLen at hlen
  by_cases hs : 1048576 < s.size
  · go_enter Tryd.func13, Tryd.ntmps13
    go_wp2_with fail
    go_ret
    exact ⟨rfl, Below.refl _ _⟩
  · go_enter Tryd.func13, Tryd.ntmps13
    go_wp2_with fail
    refine (ReadRatioS_any s _ (by omega)).mono ?_
    rintro e w1 ⟨⟨n, d, ok, rfl, hr⟩, hb1⟩
    have HR := Lib.hid hr
    clear hr
    go_wp2_with fail
    refine (ReadRatioI_any s _ (by omega) (HT.out.keep (bA hb1 _)) (HE.out.keep (bA hb1 _)) (HM.out.keep (bA hb1 _))).mono ?_
    rintro e w2 ⟨⟨n', d', ok', rfl, hr'⟩, hb2⟩
    obtain ⟨rfl, rfl, rfl⟩ := HR.out.uniq hr'
    clear hr'
    obtain ⟨hc1, hf1⟩ := bcell hb2
    have hs1 : w1.heap.size < w2.heap.size := bsize hb2 (by simp)
    have m0 : w2.cell? ⟨w1.heap.size, 0, none⟩ = some (.int .i64 n) := by rw [hc1 _ _ (by simp)]; simp [go_sem]
    have m1 : w2.cell? ⟨w1.heap.size, 1, none⟩ = some (.int .i64 d) := by rw [hc1 _ _ (by simp)]; simp [go_sem]
    have hb3 := bT (bA hb1 _) hb2
    clear hc1 hf1
    go_wp2_with fail
    refine (eqRatio_same _ _ _).mono ?_
    rintro e w3 ⟨rfl, hb4⟩
    have hb5 := bT (bA hb3 _) hb4
    go_wp2_with fail
    go_ret
    exact ⟨rfl, hb5⟩
end Go.Proofs.YtdjkmefkfknobaaDoor

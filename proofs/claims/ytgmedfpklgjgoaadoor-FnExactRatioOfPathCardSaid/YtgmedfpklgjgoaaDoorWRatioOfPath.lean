/-
  The walk of laws.FnExactRatioOfPath.
-/
import Derived.Test.YtgmedfpklgjgoaaDoorRopI
import Derived.Test.YtgmedfpklgjgoaaDoorCarry
namespace Go.Proofs.YtgmedfpklgjgoaaDoor
open Go.RowKit

theorem FnExactRatioOfPath_walk (s : ByteArray) (w : World) (hs : s.size ≤ maxLen) :
    Calls Tryd.prog 4 #[.string s] w fun e w' => e = .returned (.bool true) ∧ Below w.heap.size w w' := by
  unfold maxLen at hs
  by_cases hlong : 1048576 < s.size
  · go_enter Tryd.func4, Tryd.ntmps4
    go_wp2_with fail
    go_ret
    exact ⟨rfl, bR _⟩
  · have HS := Lib.hid (show s.size ≤ 1048576 by omega)
    generalize hn : rpN s.data.toList = n
    generalize hd : rpD s.data.toList = d
    generalize hc : rpC s.data.toList = c
    have HN := Lib.hid hn
    have HD := Lib.hid hd
    have HC := Lib.hid hc
    have hne : (c != c) = false := by simp
    clear hn hd hc
    go_enter Tryd.func4, Tryd.ntmps4
    go_wp2_with fail
    refine (RatioOfPathS_any s _ HS.out).mono ?_
    rintro e w1 ⟨rfl, hb1⟩
    rw [HN.out, HD.out, HC.out]
    have E1 := Lib.hid (Box2.new w1 n d 25)
    have L1 := Lib.hid (bA hb1 (.cells #[.int .i64 n, .int .i64 d] 25))
    clear hb1
    go_wp2_with fail
    generalize w1.alloc (.cells #[.int .i64 n, .int .i64 d] 25) = W2 at *
    refine (RatioOfPathI_any s _ HS.out).mono ?_
    rintro e w3 ⟨rfl, hb3⟩
    rw [HN.out, HD.out, HC.out]
    have L3 := Lib.hid (bA (bT L1.out hb3) (.cells #[.int .i64 n, .int .i64 d] 25))
    obtain ⟨x0, x1, x2, x3, x4⟩ := E1.out.keep hb3
    clear hb3 L1
    go_wp2_with fail
    generalize w3.alloc (.cells #[.int .i64 n, .int .i64 d] 25) = W4 at *
    refine (eqRatio_same _ _ _).mono ?_
    rintro e w5 ⟨rfl, hb5⟩
    have L5 := Lib.hid (bT L3.out hb5)
    clear hb5 x0 x1 x2 x3 x4
    go_wp2_with fail
    go_ret
    exact ⟨rfl, L5.out⟩
end Go.Proofs.YtgmedfpklgjgoaaDoor

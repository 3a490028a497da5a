/-
  Contracts of the small arithmetic of ratios: impl.Ratio.plus, times, inverted.
-/
import Derived.Test.YtcklcledchboiaaDoorAr1
import Derived.Test.YtcklcledchboiaaDoorMakeR
namespace Go.Proofs.YtcklcledchboiaaDoor
open Go.RowKit

set_option maxHeartbeats 400000 in
theorem plus_any (n d p q : Int) (w : World) (a1 : -1000000000 ≤ n) (a2 : n ≤ 1000000000) (b1 : 1 ≤ d) (b2 : d ≤ 1000000000) (c1 : -1000000000 ≤ p) (c2 : p ≤ 1000000000) (d1 : 1 ≤ q) (d2 : q ≤ 1000000000) :
    Calls Tryd.prog 97 #[.agg #[.int .i64 n, .int .i64 d], .agg #[.int .i64 p, .int .i64 q]] w fun e w' => e = .returned (.tuple #[.int .i64 (addX n d p q), .int .i64 (mulX d q)]) ∧ Below w.heap.size w w' := by
  obtain ⟨m1, m2⟩ := mul_bd a1 a2 (show -1000000000 ≤ q by omega) d2
  obtain ⟨m3, m4⟩ := mul_bd c1 c2 (show -1000000000 ≤ d by omega) b2
  obtain ⟨m5, m6⟩ := mul_bd (show -1000000000 ≤ d by omega) b2 (show -1000000000 ≤ q by omega) d2
  go_enter Tryd.func97, Tryd.ntmps97
  go_wp2_with fail
  go_quiet (fail)
  go_wp2_with fail
  go_ret2
  exact ⟨rfl, bD (bA (bA (bR _) _) _) _⟩

set_option maxHeartbeats 400000 in
theorem times_any (n d p q : Int) (w : World) (a1 : -1000000000 ≤ n) (a2 : n ≤ 1000000000) (b1 : -1000000000 ≤ d) (b2 : d ≤ 1000000000) (c1 : -1000000000 ≤ p) (c2 : p ≤ 1000000000) (d1 : -1000000000 ≤ q) (d2 : q ≤ 1000000000) :
    Calls Tryd.prog 98 #[.agg #[.int .i64 n, .int .i64 d], .agg #[.int .i64 p, .int .i64 q]] w fun e w' => e = .returned (.tuple #[.int .i64 (mulX n p), .int .i64 (mulX d q)]) ∧ Below w.heap.size w w' := by
  obtain ⟨m1, m2⟩ := mul_bd a1 a2 c1 c2
  obtain ⟨m5, m6⟩ := mul_bd b1 b2 d1 d2
  go_enter Tryd.func98, Tryd.ntmps98
  go_wp2_with fail
  go_quiet (fail)
  go_wp2_with fail
  go_ret2
  exact ⟨rfl, bD (bA (bA (bR _) _) _) _⟩

end Go.Proofs.YtcklcledchboiaaDoor

/-
  The walk of laws.FnExactEpiRatio.
-/
import Derived.Test.YtcklcledchboiaaDoorEpRs
import Derived.Test.YtcklcledchboiaaDoorCarry
namespace Go.Proofs.YtcklcledchboiaaDoor
open Go.RowKit

set_option maxRecDepth 100000 in
set_option maxHeartbeats 4000000 in
theorem FnExactEpiRatio_walk (s r p c f t : Int) (w : World) (hS : Sines w) :
    Calls Tryd.prog 10 #[.agg #[.int .i64 s, .int .i64 r, .int .i64 p, .int .i64 c], .int .i64 f, .int .i64 t] w fun e w' => e = .returned (.bool true) ∧ Below w.heap.size w w' := by
  have B0 := Lib.hid (Box4.new w s r p c 37)
  have L0 := Lib.hid (bA (bR w) (.cells #[.int .i64 s, .int .i64 r, .int .i64 p, .int .i64 c] 37))
  have HS := Lib.hid hS
  have CS := Lib.hid (fun W => EpiRatioS_any s r p c f t W)
  have CI := Lib.hid (fun W h => EpiRatioI_any s r p c f t W h)
  have E3 : ∃ x3 y3 c3, epiR s r p c f t = (x3, y3, c3) := ⟨_, _, _, rfl⟩
  obtain ⟨x3, y3, c3, e3⟩ := E3
  rw [e3] at CS CI
  clear e3 hS
  go_enter Tryd.func10, Tryd.ntmps10
  go_wp2_with fail
  generalize w.alloc (.cells #[.int .i64 s, .int .i64 r, .int .i64 p, .int .i64 c] 37) = W0 at *
  generalize hk : w.heap.size = k at *
  have L0' := Lib.hid (show Below w.heap.size w W0 by rw [hk]; exact L0.out)
  clear L0
  refine (toEpi_any _ _ _ _ _).mono ?_
  rintro e w1 ⟨rfl, hb⟩
  have L1 := Lib.hid (bT L0'.out hb)
  have B1 := Lib.hid (B0.out.keep hb)
  clear hb
  go_wp2_with fail
  refine (CS.out _).mono ?_
  rintro e w2 ⟨rfl, hb⟩
  have L2 := Lib.hid (bA (bT L1.out hb) (.cells #[.int .i64 x3, .int .i64 y3] 27))
  have B2 := Lib.hid (B1.out.keep (bA hb (.cells #[.int .i64 x3, .int .i64 y3] 27)))
  have N2 := Lib.hid (Box2.new w2 x3 y3 27)
  clear hb B1 B0
  obtain ⟨e0, e1, e2, e4, _⟩ := B2.out
  go_wp2_with fail
  generalize w2.alloc (.cells #[.int .i64 x3, .int .i64 y3] 27) = W2 at *
  generalize w2.heap.size = k2 at *
  refine (toEpi_any _ _ _ _ _).mono ?_
  rintro e w3 ⟨rfl, hb⟩
  have L3 := Lib.hid (bT L2.out hb)
  have N3 := Lib.hid (N2.out.keep hb)
  clear hb e0 e1 e2 e4
  go_wp2_with fail
  refine (CI.out _ (HS.out.keep L3.out)).mono ?_
  rintro e w4 ⟨rfl, hb⟩
  have L4 := Lib.hid (bA (bT L3.out hb) (.cells #[.int .i64 x3, .int .i64 y3] 27))
  have N4 := Lib.hid (N3.out.keep (bA hb (.cells #[.int .i64 x3, .int .i64 y3] 27)))
  have M4 := Lib.hid (Box2.new w4 x3 y3 27)
  have hne : (c3 != c3) = false := by simp
  clear hb
  obtain ⟨n0, n1, _, _, _⟩ := N4.out
  obtain ⟨m0, m1, _, _, _⟩ := M4.out
  go_wp2_with fail
  refine (eqRatio_same _ _ _).mono ?_
  rintro e w5 ⟨rfl, hb⟩
  go_wp2_with fail
  go_ret
  exact ⟨rfl, bT L4.out hb⟩
end Go.Proofs.YtcklcledchboiaaDoor

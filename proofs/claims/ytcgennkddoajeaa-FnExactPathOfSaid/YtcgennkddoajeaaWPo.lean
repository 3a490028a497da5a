/-
  The walk of laws.FnExactPathOf.
-/
import Derived.Test.YtcgennkddoajeaaPoI
namespace Go.Proofs.Ytcgennkddoajeaa
open Go.RowKit

set_option maxHeartbeats 4000000 in
theorem FnExactPathOf_walk (n d : Int) (w : World) (_h1 : -9223372036854775808 ≤ n ∧ n ≤ 9223372036854775807) (_h2 : -9223372036854775808 ≤ d ∧ d ≤ 9223372036854775807) :
    Calls Try.prog 5 #[.agg #[.int .i64 n, .int .i64 d]] w fun e w' => e = .returned (.bool true) ∧ Below w.heap.size w w' := by
  have HS := Lib.hid (fun W => PathOfS_any n d W)
  have HI := Lib.hid (fun W => PathOfI_any n d W)
  unfold PoRet at HS HI
  generalize poT n d = t at *
  generalize poC n d = c at *
  have hne : (c != c) = false := by simp
  have hne2 : (t.toList != t.toList) = false := by simp
  clear _h1 _h2
  go_enter Try.func5, Try.ntmps5
  go_wp2_with fail
  have B0 := Lib.hid (Box2.new w n d 44)
  have L0 := Lib.hid (bA (bR w) (.cells #[.int .i64 n, .int .i64 d] 44))
  generalize w.alloc (.cells #[.int .i64 n, .int .i64 d] 44) = W0 at *
  refine (toRatio_any _ _ _).mono ?_
  rintro e w1 ⟨rfl, hb1⟩
  have L1 := Lib.hid (bT L0.out hb1)
  obtain ⟨r0, r1, r2, r3, r4⟩ := B0.out.keep hb1
  have B1 := Lib.hid (B0.out.keep hb1)
  clear hb1 L0 B0
  go_wp2_with fail
  refine (HS.out _).mono ?_
  rintro e w2 ⟨rfl, hb2⟩
  have L2 := Lib.hid (bT L1.out hb2)
  clear r0 r1 r2 r3 r4
  obtain ⟨r0, r1, r2, r3, r4⟩ := B1.out.keep hb2
  clear hb2 L1
  go_wp2_with fail
  refine (toRatio_any _ _ _).mono ?_
  rintro e w3 ⟨rfl, hb3⟩
  have L3 := Lib.hid (bT L2.out hb3)
  clear hb3 L2
  go_wp2_with fail
  refine (HI.out _).mono ?_
  rintro e w4 ⟨rfl, hb4⟩
  have L4 := Lib.hid (bT L3.out hb4)
  clear hb4 L3
  go_wp2_with fail
  go_ret
  exact ⟨rfl, L4.out⟩
end Go.Proofs.Ytcgennkddoajeaa

/-
  The walk of laws.FnExactNeighboursOf.
-/
import Derived.Test.YthnfkkfonabhkaaNearO
import Derived.Test.YthnfkkfonabhkaaCarry
namespace Go.Proofs.Ythnfkkfonabhkaa
open Go.RowKit

set_option maxHeartbeats 4000000 in
theorem FnExactNeighboursOf_walk (n d most : Int) (w : World) (_h1 : -9223372036854775808 ≤ n ∧ n ≤ 9223372036854775807) (_h2 : -9223372036854775808 ≤ d ∧ d ≤ 9223372036854775807) (h3 : -9223372036854775808 ≤ most ∧ most ≤ 9223372036854775807) :
    Calls Try.prog 7 #[.agg #[.int .i64 n, .int .i64 d], .int .i64 most] w fun e w' => e = .returned (.bool true) ∧ Below w.heap.size w w' := by
  have H3 := Lib.hid h3
  clear _h1 _h2 h3
  go_enter Try.func7, Try.ntmps7
  go_wp2_with fail
  have B0 := Lib.hid (Box2.new w n d 23)
  have L0 := Lib.hid (bA (bR w) (.cells #[.int .i64 n, .int .i64 d] 23))
  generalize w.alloc (.cells #[.int .i64 n, .int .i64 d] 23) = W0 at *
  refine (toRatio_any _ _ _).mono ?_
  rintro e w1 ⟨rfl, hb1⟩
  have B1 := Lib.hid (B0.out.keep hb1)
  have L1 := Lib.hid (bT L0.out hb1)
  clear hb1 B0 L0
  go_wp2_with fail
  refine (NeighboursOfS_any n d most _).mono ?_
  rintro e w2 ⟨a, b, c, f, k, hn0, rfl, hb2⟩
  have HN := Lib.hid hn0
  have B2 := Lib.hid (B1.out.keep hb2)
  have L2 := Lib.hid (bT L1.out hb2)
  clear hb2 hn0 B1 L1
  obtain ⟨X0, X1, XL⟩ := two_box w2 a b c f 25
  have B3 := Lib.hid (B2.out.keep XL)
  have L3 := Lib.hid (bT L2.out XL)
  have E0 := Lib.hid X0
  have E1 := Lib.hid X1
  clear X0 X1 XL B2 L2
  obtain ⟨x0, x1, x2, x3, x4⟩ := B3.out
  go_wp2_with fail
  generalize (w2.alloc (.cells #[.int .i64 a, .int .i64 b] 25)).alloc (.cells #[.int .i64 c, .int .i64 f] 25) = W3 at *
  refine (toRatio_any _ _ _).mono ?_
  rintro e w4 ⟨rfl, hb4⟩
  have L4 := Lib.hid (bT L3.out hb4)
  have E04 := Lib.hid (E0.out.keep hb4)
  have E14 := Lib.hid (E1.out.keep hb4)
  clear hb4 L3 E0 E1 B3 x0 x1 x2 x3 x4
  go_wp2_with fail
  refine (NeighboursOfI_any n d most _ H3.out).mono ?_
  rintro e w5 ⟨a', b', c', f', k', hn1, rfl, hb5⟩
  obtain ⟨rfl, rfl, rfl, rfl, rfl⟩ := NoR.unique HN.out hn1
  have L5 := Lib.hid (bT L4.out hb5)
  have E05 := Lib.hid (E04.out.keep hb5)
  have E15 := Lib.hid (E14.out.keep hb5)
  have hne : (k != k) = false := by simp
  clear hb5 hn1 L4 E04 E14
  obtain ⟨x0, x1, x2, x3, x4⟩ := E05.out
  obtain ⟨y0, y1, y2, y3, y4⟩ := E15.out
  obtain ⟨X0, X1, XL⟩ := two_box w5 a b c f 25
  have L6 := Lib.hid (bT L5.out XL)
  have E06 := Lib.hid (E05.out.keep XL)
  have E16 := Lib.hid (E15.out.keep XL)
  have G0 := Lib.hid X0
  have G1 := Lib.hid X1
  clear X0 X1 XL L5 E05 E15
  go_wp2_with fail
  generalize (w5.alloc (.cells #[.int .i64 a, .int .i64 b] 25)).alloc (.cells #[.int .i64 c, .int .i64 f] 25) = W6 at *
  refine (eqRatio_same _ _ _).mono ?_
  rintro e w7 ⟨rfl, hb7⟩
  have L7 := Lib.hid (bT L6.out hb7)
  clear x0 x1 x2 x3 x4 y0 y1 y2 y3 y4
  obtain ⟨y0, y1, y2, y3, y4⟩ := E16.out.keep hb7
  obtain ⟨z0, z1, z2, z3, z4⟩ := G1.out.keep hb7
  clear hb7 L6
  go_wp2_with fail
  refine (eqRatio_same _ _ _).mono ?_
  rintro e w8 ⟨rfl, hb8⟩
  have L8 := Lib.hid (bT L7.out hb8)
  clear hb8 y0 y1 y2 y3 y4 z0 z1 z2 z3 z4
  go_wp2_with fail
  go_ret
  exact ⟨rfl, L8.out⟩
end Go.Proofs.Ythnfkkfonabhkaa

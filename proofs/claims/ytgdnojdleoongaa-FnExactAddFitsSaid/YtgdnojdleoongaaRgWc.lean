/-
  The walk of laws.FnExactFitOf.
-/
import Derived.Test.YtgdnojdleoongaaRgT
import Derived.Test.YtgdnojdleoongaaRgW
namespace Go.Proofs.Ytgdnojdleoongaa
open Go.RowKit

theorem eqFit_same (n x y xx xy : Int) (w : World) :
    Calls Try.prog 18 #[.agg #[.int .i64 n, .int .i64 x, .int .i64 y, .int .i64 xx, .int .i64 xy], .agg #[.int .i64 n, .int .i64 x, .int .i64 y, .int .i64 xx, .int .i64 xy]] w (BoolBel true w) := by
  have h1 : (n != n) = false := by simp
  have h2 : (x != x) = false := by simp
  have h3 : (y != y) = false := by simp
  have h4 : (xx != xx) = false := by simp
  have h5 : (xy != xy) = false := by simp
  go_enter Try.func18, Try.ntmps18
  go_wp2_with fail
  go_ret
  exact ⟨rfl, bA (bA (bR _) _) _⟩
set_option maxRecDepth 100000 in
set_option maxHeartbeats 4000000 in
theorem FnExactFitOf_walk (a : Option Addr) (len cap : Nat) (ps : List (Int × Int)) (w : World) (h : IsPR w a len cap ps) :
    Calls Try.prog 4 #[.slice a len cap] w fun e w' => e = .returned (.bool true) ∧ Below w.heap.size w w' := by
  have H0 := Lib.hid (bR w)
  obtain ⟨⟨l1, l2⟩, l3, _, _⟩ := id h
  unfold maxLen at l2
  have HA := Lib.hid h
  have HL3 := Lib.hid l3
  clear h l3
  by_cases hl : 1048576 < len
  · go_enter Try.func4, Try.ntmps4
    go_wp2_with fail
    refine (szReadingS_no _ _ _ _ _ (by omega) (by omega) (by omega) (by omega)).mono ?_
    rintro e w1 ⟨rfl, rfl⟩
    go_wp2_with fail
    go_ret
    exact ⟨rfl, H0.out⟩
  have hlen : len ≤ 1048576 := by omega
  have hmax : ps.length ≤ 1000000000000 := by rw [HL3.out]; omega
  clear hl
  have CS := Lib.hid (fun v W (h : SlB W v ps) => FitOfS_any ps v W h.2 hmax)
  have CI := Lib.hid (fun v W (h : SlB W v ps) => FitOfI_any ps v W h.2 hmax)
  generalize ftE ps = r at *
  obtain ⟨⟨n, x, y, xx, xy⟩, r1⟩ := r
  simp only at CS CI
  have n1 : (r1 != r1) = false := by simp
  go_enter Try.func4, Try.ntmps4
  go_wp2_with fail
  refine (szReadingS_yes _ _ _ _ _ (by omega) (by omega) (by omega)).mono ?_
  rintro e w1 ⟨rfl, rfl⟩
  go_wp2_with fail
  refine (toRd_ex a len cap ps _ HA.out hlen).mono ?_
  rintro en w1 ⟨v1, rfl, hs, hb⟩
  have V1 := Lib.hid hs
  have B1 := Lib.hid hb
  clear hs hb
  go_wp2_with fail
  refine (CS.out _ _ V1.out).mono ?_
  rintro en w2 ⟨rfl, hb⟩
  have H1 := Lib.hid (bT B1.out hb)
  have H2 := Lib.hid (bA H1.out (.cells #[.int .i64 n, .int .i64 x, .int .i64 y, .int .i64 xx, .int .i64 xy] 30))
  have X2 := Lib.hid (BoxL.new w2 [.int .i64 n, .int .i64 x, .int .i64 y, .int .i64 xx, .int .i64 xy] 30)
  clear hb V1 B1 H0 H1
  go_wp2_with fail
  refine (toRd_ex a len cap ps _ (HA.out.keep H2.out) hlen).mono ?_
  rintro en w3 ⟨v3, rfl, hs, hb⟩
  have V4 := Lib.hid hs
  have H4 := Lib.hid (bT H2.out hb)
  have X4 := Lib.hid (X2.out.keep hb)
  clear hs hb H2 X2
  go_wp2_with fail
  refine (CI.out _ _ V4.out).mono ?_
  rintro en w5 ⟨rfl, hb⟩
  have V5 := Lib.hid ((V4.out.keep hb).keep (bA (bR _) (.cells #[.int .i64 n, .int .i64 x, .int .i64 y, .int .i64 xx, .int .i64 xy] 30)))
  have H5 := Lib.hid (bA (bT H4.out hb) (.cells #[.int .i64 n, .int .i64 x, .int .i64 y, .int .i64 xx, .int .i64 xy] 30))
  have X5 := Lib.hid ((X4.out.keep hb).alloc (.cells #[.int .i64 n, .int .i64 x, .int .i64 y, .int .i64 xx, .int .i64 xy] 30))
  have Y5 := Lib.hid (BoxL.new w5 [.int .i64 n, .int .i64 x, .int .i64 y, .int .i64 xx, .int .i64 xy] 30)
  clear hb V4 H4 X4
  obtain ⟨c0, c1, c2, c3, c4, c5⟩ := X5.out.c5
  obtain ⟨d0, d1, d2, d3, d4, d5⟩ := Y5.out.c5
  go_wp2_with fail
  refine (eqFit_same _ _ _ _ _ _).mono ?_
  rintro en w6 ⟨rfl, hb⟩
  have V6 := Lib.hid (V5.out.keep hb)
  have H6 := Lib.hid (bT H5.out hb)
  clear hb V5 H5 X5 Y5 c0 c1 c2 c3 c4 c5 d0 d1 d2 d3 d4 d5
  go_wp2_with fail
  refine (toRd_ex a len cap ps _ (HA.out.keep H6.out) hlen).mono ?_
  rintro en w7 ⟨v7, rfl, hs, hb⟩
  have V7 := Lib.hid hs
  have V67 := Lib.hid (V6.out.keep hb)
  have H7 := Lib.hid (bT H6.out hb)
  clear hs hb V6 H6
  go_wp2_with fail
  refine (eqReadingS_same ps _ _ _ V67.out.1 V7.out.1 hmax).mono ?_
  rintro en w8 ⟨rfl, hb⟩
  have L := Lib.hid (bT H7.out hb)
  clear hb
  go_wp2_with fail
  go_ret
  exact ⟨rfl, L.out⟩
end Go.Proofs.Ytgdnojdleoongaa

/-
  The walk of laws.FnExactDriftsAfter.
-/
import Derived.Test.YtgcalgkpaehonaaRaW
import Derived.Test.YtgcalgkpaehonaaRaJ
import Derived.Test.YtgcalgkpaehonaaGrw
namespace Go.Proofs.Ytgcalgkpaehonaa
open Go.RowKit

set_option maxRecDepth 100000 in
set_option maxHeartbeats 8000000 in
theorem FnExactDriftsAfter_walk (b l c m : Int) (a : Option Addr) (len cap : Nat) (ps : List (Int × Int)) (w : World) (h : IsPR w a len cap ps) :
    Calls Try.prog 7 #[.agg #[.int .i64 b, .int .i64 l, .int .i64 c, .int .i64 m], .slice a len cap] w fun e w' => e = .returned (.bool true) ∧ Below w.heap.size w w' := by
  have H0 := Lib.hid (RtH.new w b l c m 23)
  have hH0 := H0.out.1.lt
  obtain ⟨⟨l1, l2⟩, l3, _, _⟩ := id h
  unfold maxLen at l2
  have HA := Lib.hid h
  have HL3 := Lib.hid l3
  clear h l3
  by_cases hl : 1048576 < len
  · go_enter Try.func7, Try.ntmps7
    go_wp2_with fail
    refine (szSegmentS_no _ _ _ _ _ (by omega) (by omega) (by omega) (by omega)).mono ?_
    rintro e w1 ⟨rfl, rfl⟩
    go_wp2_with fail
    go_ret
    exact ⟨rfl, H0.out.2⟩
  have hlen : len ≤ 1048576 := by omega
  have hmax : ps.length ≤ 1000000000000 := by rw [HL3.out]; omega
  clear hl
  have CS := Lib.hid (fun v W (h : SlP W v ps) => DriftsAfterS_any b l c m ps v W h hmax)
  have CI := Lib.hid (fun v W (h : SlP W v ps) => DriftsAfterI_any b l c m ps v W h hmax)
  have hml : (daL b l c m ps).1.length ≤ 1000000 := daL_len b l c m ps
  generalize daL b l c m ps = r at *
  obtain ⟨ms, r1⟩ := r
  simp only at CS CI hml
  have n1 : (r1 != r1) = false := by simp
  have hne2 : ((1 : Int) + (ms.length : Int) != 1 + (ms.length : Int)) = false := by simp
  have hn1 : ¬ (1 : Int) + (ms.length : Int) < 0 := by omega
  have hn2 : ¬ (1 : Int) + 2 * (len : Int) < 0 := by omega
  have hn3 : ¬ (1 : Int) + 2 * (ps.length : Int) < 0 := by omega
  go_enter Try.func7, Try.ntmps7
  go_wp2_with fail
  refine (szSegmentS_yes _ _ _ _ _ (by omega) (by omega) (by omega)).mono ?_
  rintro e w1 ⟨rfl, rfl⟩
  obtain ⟨c0, c1, c2, c3, c4⟩ := H0.out.1.c4
  go_wp2_with fail
  refine (toRate_any _ _ _ _ _).mono ?_
  rintro en w1_ ⟨rfl, hb⟩
  have H1 := Lib.hid (H0.out.keep hb)
  have hz1 := hb.size
  have hw1 := H1.out.2.size
  clear hb H0 c0 c1 c2 c3 c4
  go_wp2_with fail
  refine (toSg_ex a len cap ps _ (HA.out.keep H1.out.2) hlen).mono ?_
  rintro en w2_ ⟨vb, rfl, hs, hb⟩
  have H2 := Lib.hid (H1.out.keep hb)
  have hz2 := hb.size
  have hw2 := H2.out.2.size
  have B2 := Lib.hid hs
  clear hb H1 hs
  go_wp2_with fail
  refine (CS.out _ _ B2.out).mono ?_
  rintro en w3_ ⟨vw, rfl, hr, hb⟩
  have H3 := Lib.hid (H2.out.keep hb)
  have hz3 := hb.size
  have hw3 := H3.out.2.size
  have W3 := Lib.hid (sl64_of hr)
  have FW := Lib.hid (fun (r : Nat) (e : vw.ownBlock = some r) => (own_blk hr r e).2)
  clear hb H2 B2 hr
  go_wp2_with fail
  refine (toSg_own a len cap ps _ (HA.out.keep H3.out.2) hlen).mono ?_
  rintro en w4_ ⟨vx, rfl, hr, hb⟩
  have W4 := Lib.hid (W3.out.keep hb)
  have H4 := Lib.hid (H3.out.keep hb)
  have hz4 := hb.size
  have hw4 := H4.out.2.size
  have V4 := Lib.hid hr
  have FX := Lib.hid (fun (r : Nat) (e : vx.ownBlock = some r) => own_blk hr r e)
  clear hb H3 W3 hr
  obtain ⟨c0, c1, c2, c3, c4⟩ := H4.out.1.c4
  go_wp2_with fail
  refine (toRate_any _ _ _ _ _).mono ?_
  rintro en w5_ ⟨rfl, hb⟩
  have W5 := Lib.hid (W4.out.keep hb)
  have V5 := Lib.hid (own_keep V4.out hb)
  have H5 := Lib.hid (H4.out.keep hb)
  have hz5 := hb.size
  have hw5 := H5.out.2.size
  clear hb H4 W4 V4 c0 c1 c2 c3 c4
  go_wp2_with fail
  refine (CI.out _ _ (slP_of V5.out)).mono ?_
  rintro en w6_ ⟨vg, rfl, hr, hb⟩
  have W6 := Lib.hid (W5.out.keep hb)
  have V6 := Lib.hid (own_keep V5.out hb)
  have H6 := Lib.hid (H5.out.keep hb)
  have hz6 := hb.size
  have hw6 := H6.out.2.size
  have G6 := Lib.hid hr
  have FG := Lib.hid (fun (r : Nat) (e : vg.ownBlock = some r) => own_blk hr r e)
  clear hb H5 W5 V5 hr
  go_wp2_with fail
  refine (eq64_same ms _ _ _ (sl64_of G6.out) W6.out (by omega)).mono ?_
  rintro en w7_ ⟨rfl, nq, rfl⟩
  have hb := bD (bR w6_) nq
  generalize World.drewN _ nq = w7_ at *
  have W7 := Lib.hid (W6.out.keep hb)
  have V7 := Lib.hid (own_keep V6.out hb)
  have G7 := Lib.hid (own_keep G6.out hb)
  have H7 := Lib.hid (H6.out.keep hb)
  have hz7 := hb.size
  have hw7 := H7.out.2.size
  clear hb H6 W6 V6 G6
  go_wp2_with fail
  refine (toSg_ex a len cap ps _ (HA.out.keep H7.out.2) hlen).mono ?_
  rintro en w8_ ⟨vz, rfl, hs, hb⟩
  have W8 := Lib.hid (W7.out.keep hb)
  have V8 := Lib.hid (own_keep V7.out hb)
  have G8 := Lib.hid (own_keep G7.out hb)
  have H8 := Lib.hid (H7.out.keep hb)
  have hz8 := hb.size
  have hw8 := H8.out.2.size
  have Z8 := Lib.hid hs
  clear hb H7 W7 V7 G7 hs
  go_wp2_with fail
  refine (eqSegmentS_same ps _ _ _ (slP_of V8.out) Z8.out hmax).mono ?_
  rintro en w9_ ⟨rfl, hb⟩
  have W9 := Lib.hid (W8.out.keep hb)
  have V9 := Lib.hid (own_keep V8.out hb)
  have G9 := Lib.hid (own_keep G8.out hb)
  have H9 := Lib.hid (H8.out.keep hb)
  have hz9 := hb.size
  have hw9 := H9.out.2.size
  clear hb H8 W8 V8 G8 Z8
  go_wp2_with fail
  refine (markSegmentS_any 1 ps _ _ _ V9.out hmax (by omega) (by omega)).mono ?_
  rintro en w10_ ⟨rfl, _, hg⟩
  have G10 := Lib.hid (ownR G9.out hg (fun r e e2 => by have := FX.out r e2.symm; have := FG.out r e; omega))
  have W10 := Lib.hid (W9.out.grownR hg (fun r e e2 => by have := FX.out r e2.symm; have := FW.out r e; omega))
  have hz10 := hg.size
  have hH9 := H9.out.1.lt
  have hS9 := H9.out.2.size
  have H10 := Lib.hid (show RtH w b l c m w10_ from ⟨H9.out.1.grownR hg (fun e2 => by have := FX.out _ e2.symm; omega), belR H9.out.2 hg (fun r e2 => by have := FX.out _ e2; omega)⟩)
  clear hg V9 G9 W9 H9
  rw [HL3.out] at hn3
  go_wp2_with fail
  refine (eq64_same ms _ _ _ (sl64_of G10.out) W10.out (by omega)).mono ?_
  rintro en w11_ ⟨rfl, nq, rfl⟩
  have hb := bD (bR w10_) nq
  generalize World.drewN _ nq = w11_ at *
  have W11 := Lib.hid (W10.out.keep hb)
  have G11 := Lib.hid (own_keep G10.out hb)
  have H11 := Lib.hid (H10.out.keep hb)
  have hz11 := hb.size
  have hw11 := H11.out.2.size
  clear hb H10 W10 G10
  go_wp2_with fail
  refine (mark64_any 1 ms _ _ _ G11.out (by omega) (by omega) (by omega)).mono ?_
  rintro en w12_ ⟨rfl, hv, hg⟩
  have M12 := Lib.hid (sl64_of hv)
  have W12 := Lib.hid (W11.out.grownR hg (fun r e e2 => by have := FG.out r e2.symm; have := FW.out r e; omega))
  have hz12 := hg.size
  have hH11 := H11.out.1.lt
  have hS11 := H11.out.2.size
  have H12 := Lib.hid (show RtH w b l c m w12_ from ⟨H11.out.1.grownR hg (fun e2 => by have := FG.out _ e2.symm; omega), belR H11.out.2 hg (fun r e2 => by have := FG.out _ e2; omega)⟩)
  clear hv hg G11 W11 H11
  go_wp2_with fail
  refine (held64_same 1 ms.length vg _ M12.out (by omega) (by omega) (by omega)).mono ?_
  rintro en w112_ ⟨rfl, rfl⟩
  obtain ⟨c0, c1, c2, c3, c4⟩ := H12.out.1.c4
  go_wp2_with fail
  refine (toRate_any _ _ _ _ _).mono ?_
  rintro en w13_ ⟨rfl, hb⟩
  have W13 := Lib.hid (W12.out.keep hb)
  have M13 := Lib.hid (M12.out.keep hb)
  have H13 := Lib.hid (H12.out.keep hb)
  have hz13 := hb.size
  have hw13 := H13.out.2.size
  clear hb H12 W12 M12 c0 c1 c2 c3 c4
  go_wp2_with fail
  refine (toSg_ex a len cap ps _ (HA.out.keep H13.out.2) hlen).mono ?_
  rintro en w14_ ⟨vb2, rfl, hs, hb⟩
  have W14 := Lib.hid (W13.out.keep hb)
  have M14 := Lib.hid (M13.out.keep hb)
  have H14 := Lib.hid (H13.out.keep hb)
  have hz14 := hb.size
  have hw14 := H14.out.2.size
  have B14 := Lib.hid hs
  clear hb H13 W13 M13 hs
  go_wp2_with fail
  refine (CI.out _ _ B14.out).mono ?_
  rintro en w15_ ⟨vh, rfl, hr, hb⟩
  have W15 := Lib.hid (W14.out.keep hb)
  have M15 := Lib.hid (M14.out.keep hb)
  have H15 := Lib.hid (H14.out.keep hb)
  have hz15 := hb.size
  have hw15 := H15.out.2.size
  have U15 := Lib.hid (sl64_of hr)
  clear hb H14 W14 M14 B14 hr
  go_wp2_with fail
  refine (eq64_same ms _ _ _ U15.out W15.out (by omega)).mono ?_
  rintro en w16_ ⟨rfl, nq, rfl⟩
  have hb := bD (bR w15_) nq
  generalize World.drewN _ nq = w16_ at *
  have W16 := Lib.hid (W15.out.keep hb)
  have M16 := Lib.hid (M15.out.keep hb)
  have U16 := Lib.hid (U15.out.keep hb)
  have H16 := Lib.hid (H15.out.keep hb)
  have hz16 := hb.size
  have hw16 := H16.out.2.size
  clear hb H15 W15 M15 U15
  go_wp2_with fail
  refine (held64_same 1 ms.length vg _ M16.out (by omega) (by omega) (by omega)).mono ?_
  rintro en w116_ ⟨rfl, rfl⟩
  go_wp2_with fail
  go_ret
  exact ⟨rfl, H16.out.2⟩
end Go.Proofs.Ytgcalgkpaehonaa


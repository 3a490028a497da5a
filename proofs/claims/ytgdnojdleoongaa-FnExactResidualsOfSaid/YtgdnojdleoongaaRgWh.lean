/-
  The walk of laws.FnExactResidualsOf.
-/
import Derived.Test.YtgdnojdleoongaaRgW
import Derived.Test.YtgdnojdleoongaaRgD
import Derived.Test.YtgdnojdleoongaaGrw
namespace Go.Proofs.Ytgdnojdleoongaa
open Go.RowKit

set_option maxRecDepth 100000 in
set_option maxHeartbeats 8000000 in
theorem FnExactResidualsOf_walk (a : Option Addr) (len cap : Nat) (ps : List (Int × Int)) (w : World) (h : IsPR w a len cap ps) :
    Calls Try.prog 10 #[.slice a len cap] w fun e w' => e = .returned (.bool true) ∧ Below w.heap.size w w' := by
  have H0 := Lib.hid (bR w)
  obtain ⟨⟨l1, l2⟩, l3, _, _⟩ := id h
  unfold maxLen at l2
  have HA := Lib.hid h
  have HL3 := Lib.hid l3
  clear h l3
  by_cases hl : 1048576 < len
  · go_enter Try.func10, Try.ntmps10
    go_wp2_with fail
    refine (szReadingS_no _ _ _ _ _ (by omega) (by omega) (by omega) (by omega)).mono ?_
    rintro e w1 ⟨rfl, rfl⟩
    go_wp2_with fail
    go_ret
    exact ⟨rfl, H0.out⟩
  have hlen : len ≤ 1048576 := by omega
  have hmax : ps.length ≤ 1000000000000 := by rw [HL3.out]; omega
  clear hl
  have CS := Lib.hid (fun v W (h : SlB W v ps) => ResidualsOfS_any ps v W h.2 hmax)
  have CI := Lib.hid (fun v W (h : SlB W v ps) => ResidualsOfI_any ps v W h.2 hmax)
  have hml : (roE ps).1.length ≤ 1000000 := roE_len ps
  generalize roE ps = r at *
  obtain ⟨ms, r1⟩ := r
  simp only at CS CI hml
  have n1 : (r1 != r1) = false := by simp
  have hne2 : ((1 : Int) + (ms.length : Int) != 1 + (ms.length : Int)) = false := by simp
  have hn1 : ¬ (1 : Int) + (ms.length : Int) < 0 := by omega
  have hn2 : ¬ (1 : Int) + 2 * (len : Int) < 0 := by omega
  have hn3 : ¬ (1 : Int) + 2 * (ps.length : Int) < 0 := by omega
  go_enter Try.func10, Try.ntmps10
  go_wp2_with fail
  refine (szReadingS_yes _ _ _ _ _ (by omega) (by omega) (by omega)).mono ?_
  rintro e w1 ⟨rfl, rfl⟩
  go_wp2_with fail
  refine (toRd_ex a len cap ps _ (HA.out.keep H0.out) hlen).mono ?_
  rintro en w1_ ⟨vb, rfl, hs, hb⟩
  have H1 := Lib.hid (bT H0.out hb)
  have hz1 := hb.size
  have hw1 := H1.out.size
  have B1 := Lib.hid hs
  clear hb H0 hs
  go_wp2_with fail
  refine (CS.out _ _ B1.out).mono ?_
  rintro en w2_ ⟨vw, rfl, hr, hb⟩
  have H2 := Lib.hid (bT H1.out hb)
  have hz2 := hb.size
  have hw2 := H2.out.size
  have W2 := Lib.hid (sl64_of hr)
  have FW := Lib.hid (fun (r : Nat) (e : vw.ownBlock = some r) => (own_blk hr r e).2)
  clear hb H1 B1 hr
  go_wp2_with fail
  refine (toRd_own a len cap ps _ (HA.out.keep H2.out) hlen).mono ?_
  rintro en w3_ ⟨vx, rfl, hr, hb⟩
  have W3 := Lib.hid (W2.out.keep hb)
  have H3 := Lib.hid (bT H2.out hb)
  have hz3 := hb.size
  have hw3 := H3.out.size
  have V3 := Lib.hid hr
  have FX := Lib.hid (fun (r : Nat) (e : vx.ownBlock = some r) => own_blk hr r e)
  clear hb H2 W2 hr
  go_wp2_with fail
  refine (CI.out _ _ (slB_of V3.out)).mono ?_
  rintro en w4_ ⟨vg, rfl, hr, hb⟩
  have W4 := Lib.hid (W3.out.keep hb)
  have V4 := Lib.hid (own_keep V3.out hb)
  have H4 := Lib.hid (bT H3.out hb)
  have hz4 := hb.size
  have hw4 := H4.out.size
  have G4 := Lib.hid hr
  have FG := Lib.hid (fun (r : Nat) (e : vg.ownBlock = some r) => own_blk hr r e)
  clear hb H3 W3 V3 hr
  go_wp2_with fail
  refine (eq64_same ms _ _ _ (sl64_of G4.out) W4.out (by omega)).mono ?_
  rintro en w5_ ⟨rfl, nq, rfl⟩
  have hb := bD (bR w4_) nq
  generalize World.drewN _ nq = w5_ at *
  have W5 := Lib.hid (W4.out.keep hb)
  have V5 := Lib.hid (own_keep V4.out hb)
  have G5 := Lib.hid (own_keep G4.out hb)
  have H5 := Lib.hid (bT H4.out hb)
  have hz5 := hb.size
  have hw5 := H5.out.size
  clear hb H4 W4 V4 G4
  go_wp2_with fail
  refine (toRd_ex a len cap ps _ (HA.out.keep H5.out) hlen).mono ?_
  rintro en w6_ ⟨vz, rfl, hs, hb⟩
  have W6 := Lib.hid (W5.out.keep hb)
  have V6 := Lib.hid (own_keep V5.out hb)
  have G6 := Lib.hid (own_keep G5.out hb)
  have H6 := Lib.hid (bT H5.out hb)
  have hz6 := hb.size
  have hw6 := H6.out.size
  have Z6 := Lib.hid hs
  clear hb H5 W5 V5 G5 hs
  go_wp2_with fail
  refine (eqReadingS_same ps _ _ _ (slP_of V6.out) Z6.out.1 hmax).mono ?_
  rintro en w7_ ⟨rfl, hb⟩
  have W7 := Lib.hid (W6.out.keep hb)
  have V7 := Lib.hid (own_keep V6.out hb)
  have G7 := Lib.hid (own_keep G6.out hb)
  have H7 := Lib.hid (bT H6.out hb)
  have hz7 := hb.size
  have hw7 := H7.out.size
  clear hb H6 W6 V6 G6 Z6
  go_wp2_with fail
  refine (markReadingS_any 1 ps _ _ _ V7.out hmax (by omega) (by omega)).mono ?_
  rintro en w8_ ⟨rfl, _, hg⟩
  have G8 := Lib.hid (ownR G7.out hg (fun r e e2 => by have := FX.out r e2.symm; have := FG.out r e; omega))
  have W8 := Lib.hid (W7.out.grownR hg (fun r e e2 => by have := FX.out r e2.symm; have := FW.out r e; omega))
  have hz8 := hg.size
  have hS7 := H7.out.size
  have H8 := Lib.hid (belR H7.out hg (fun r e2 => by have := FX.out _ e2; omega))
  clear hg V7 G7 W7 H7
  rw [HL3.out] at hn3
  go_wp2_with fail
  refine (eq64_same ms _ _ _ (sl64_of G8.out) W8.out (by omega)).mono ?_
  rintro en w9_ ⟨rfl, nq, rfl⟩
  have hb := bD (bR w8_) nq
  generalize World.drewN _ nq = w9_ at *
  have W9 := Lib.hid (W8.out.keep hb)
  have G9 := Lib.hid (own_keep G8.out hb)
  have H9 := Lib.hid (bT H8.out hb)
  have hz9 := hb.size
  have hw9 := H9.out.size
  clear hb H8 W8 G8
  go_wp2_with fail
  refine (mark64_any 1 ms _ _ _ G9.out (by omega) (by omega) (by omega)).mono ?_
  rintro en w10_ ⟨rfl, hv, hg⟩
  have M10 := Lib.hid (sl64_of hv)
  have W10 := Lib.hid (W9.out.grownR hg (fun r e e2 => by have := FG.out r e2.symm; have := FW.out r e; omega))
  have hz10 := hg.size
  have hS9 := H9.out.size
  have H10 := Lib.hid (belR H9.out hg (fun r e2 => by have := FG.out _ e2; omega))
  clear hv hg G9 W9 H9
  go_wp2_with fail
  refine (held64_same 1 ms.length vg _ M10.out (by omega) (by omega) (by omega)).mono ?_
  rintro en w110_ ⟨rfl, rfl⟩
  go_wp2_with fail
  refine (toRd_ex a len cap ps _ (HA.out.keep H10.out) hlen).mono ?_
  rintro en w11_ ⟨vb2, rfl, hs, hb⟩
  have W11 := Lib.hid (W10.out.keep hb)
  have M11 := Lib.hid (M10.out.keep hb)
  have H11 := Lib.hid (bT H10.out hb)
  have hz11 := hb.size
  have hw11 := H11.out.size
  have B11 := Lib.hid hs
  clear hb H10 W10 M10 hs
  go_wp2_with fail
  refine (CI.out _ _ B11.out).mono ?_
  rintro en w12_ ⟨vh, rfl, hr, hb⟩
  have W12 := Lib.hid (W11.out.keep hb)
  have M12 := Lib.hid (M11.out.keep hb)
  have H12 := Lib.hid (bT H11.out hb)
  have hz12 := hb.size
  have hw12 := H12.out.size
  have U12 := Lib.hid (sl64_of hr)
  clear hb H11 W11 M11 B11 hr
  go_wp2_with fail
  refine (eq64_same ms _ _ _ U12.out W12.out (by omega)).mono ?_
  rintro en w13_ ⟨rfl, nq, rfl⟩
  have hb := bD (bR w12_) nq
  generalize World.drewN _ nq = w13_ at *
  have W13 := Lib.hid (W12.out.keep hb)
  have M13 := Lib.hid (M12.out.keep hb)
  have U13 := Lib.hid (U12.out.keep hb)
  have H13 := Lib.hid (bT H12.out hb)
  have hz13 := hb.size
  have hw13 := H13.out.size
  clear hb H12 W12 M12 U12
  go_wp2_with fail
  refine (held64_same 1 ms.length vg _ M13.out (by omega) (by omega) (by omega)).mono ?_
  rintro en w113_ ⟨rfl, rfl⟩
  go_wp2_with fail
  go_ret
  exact ⟨rfl, H13.out⟩
end Go.Proofs.Ytgdnojdleoongaa


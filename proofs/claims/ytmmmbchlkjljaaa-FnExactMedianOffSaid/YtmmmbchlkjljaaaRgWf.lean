/-
  The walk of laws.FnExactMedianOff.
-/
import Derived.Test.YtmmmbchlkjljaaaRgW
import Derived.Test.YtmmmbchlkjljaaaRgG
namespace Go.Proofs.Ytmmmbchlkjljaaa
open Go.RowKit

set_option maxRecDepth 100000 in
set_option maxHeartbeats 4000000 in
theorem FnExactMedianOff_walk (a : Option Addr) (len cap : Nat) (ps : List (Int × Int)) (w : World) (h : IsPR w a len cap ps) :
    Calls Try.prog 4 #[.slice a len cap] w fun e w' => e = .returned (.bool true) ∧ Below w.heap.size w w' := by
  have H0 := Lib.hid (bR w)
  obtain ⟨⟨l1, l2⟩, l3, _, _⟩ := id h
  unfold maxLen at l2
  have HA := Lib.hid h
  have HL3 := Lib.hid l3
  clear h l3
  by_cases hl : 1048576 < len
  · go_enter Try.func4, Try.ntmps4
    go_wp2_with fail
    refine (szReadingS_no _ _ _ _ _ (by omega) (by omega) (by omega) (by omega)).mono ?_
    rintro e w1 ⟨rfl, rfl⟩
    go_wp2_with fail
    go_ret
    exact ⟨rfl, H0.out⟩
  have hlen : len ≤ 1048576 := by omega
  have hmax : ps.length ≤ 1000000000000 := by rw [HL3.out]; omega
  clear hl
  have CS := Lib.hid (fun v W (h : SlB W v ps) => MedianOffS_any ps v W h.2 hmax)
  have CI := Lib.hid (fun v W (h : SlB W v ps) => MedianOffI_any ps v W h.2 hmax)
  generalize moE ps = r at *
  obtain ⟨r0, r1⟩ := r
  simp only at CS CI
  have n0 : (r0 != r0) = false := by simp
  have n1 : (r1 != r1) = false := by simp
  go_enter Try.func4, Try.ntmps4
  go_wp2_with fail
  refine (szReadingS_yes _ _ _ _ _ (by omega) (by omega) (by omega)).mono ?_
  rintro e w1 ⟨rfl, rfl⟩
  go_wp2_with fail
  refine (toRd_ex a len cap ps _ HA.out hlen).mono ?_
  rintro en w1 ⟨v1, rfl, hs, hb⟩
  have V1 := Lib.hid hs
  have B1 := Lib.hid hb
  clear hs hb
  go_wp2_with fail
  refine (CS.out _ _ V1.out).mono ?_
  rintro en w2 ⟨rfl, hb⟩
  have H1 := Lib.hid (bT B1.out hb)
  clear hb V1 B1 H0
  go_wp2_with fail
  refine (toRd_ex a len cap ps _ (HA.out.keep H1.out) hlen).mono ?_
  rintro en w3 ⟨v3, rfl, hs, hb⟩
  have V3 := Lib.hid hs
  have H3 := Lib.hid (bT H1.out hb)
  clear hs hb H1
  have V4 := V3
  have H4 := H3
  go_wp2_with fail
  refine (CI.out _ _ V4.out).mono ?_
  rintro en w5 ⟨rfl, hb⟩
  have V5 := Lib.hid (V4.out.keep hb)
  have H5 := Lib.hid (bT H4.out hb)
  clear hb V4 H4
  go_wp2_with fail
  refine (toRd_ex a len cap ps _ (HA.out.keep H5.out) hlen).mono ?_
  rintro en w6 ⟨v6, rfl, hs, hb⟩
  have V6 := Lib.hid hs
  have V56 := Lib.hid (V5.out.keep hb)
  have H6 := Lib.hid (bT H5.out hb)
  clear hs hb V5 H5
  go_wp2_with fail
  refine (eqReadingS_same ps _ _ _ V56.out.1 V6.out.1 hmax).mono ?_
  rintro en w7 ⟨rfl, hb⟩
  have L := Lib.hid (bT H6.out hb)
  clear hb
  go_wp2_with fail
  go_ret
  exact ⟨rfl, L.out⟩
end Go.Proofs.Ytmmmbchlkjljaaa


/-
  The walks of laws.FnExactValidSegments, FnExactDriftSum, FnExactWorstSegment, FnExactBestBase.
-/
import Derived.Test.YtgcalgkpaehonaaRaW
import Derived.Test.YtgcalgkpaehonaaRaJ
import Derived.Test.YtgcalgkpaehonaaRaK
import Derived.Test.YtgcalgkpaehonaaRaL
import Derived.Test.YtgcalgkpaehonaaRaV
import Derived.Test.YtgcalgkpaehonaaRaX
namespace Go.Proofs.Ytgcalgkpaehonaa
open Go.RowKit

set_option maxRecDepth 100000 in
set_option maxHeartbeats 4000000 in
theorem FnExactValidSegments_walk (a : Option Addr) (len cap : Nat) (ps : List (Int × Int)) (w : World) (h : IsPR w a len cap ps) :
    Calls Try.prog 4 #[.slice a len cap] w fun e w' => e = .returned (.bool true) ∧ Below w.heap.size w w' := by
  have H0 := Lib.hid (bR w)
  obtain ⟨⟨l1, l2⟩, l3, _, _⟩ := id h
  unfold maxLen at l2
  have HA := Lib.hid h
  have HL3 := Lib.hid l3
  clear h l3
  by_cases hl : 1048576 < len
  · go_enter Try.func4, Try.ntmps4
    go_wp2_with fail
    refine (szSegmentS_no _ _ _ _ _ (by omega) (by omega) (by omega) (by omega)).mono ?_
    rintro e w1 ⟨rfl, rfl⟩
    go_wp2_with fail
    go_ret
    exact ⟨rfl, H0.out⟩
  have hlen : len ≤ 1048576 := by omega
  have hmax : ps.length ≤ 1000000000000 := by rw [HL3.out]; omega
  clear hl
  have CS := Lib.hid (fun v W (h : SlP W v ps) => ValidSegmentsS_any ps v W h hmax)
  have CI := Lib.hid (fun v W (h : SlP W v ps) => ValidSegmentsI_any ps v W h hmax)
  generalize okSl ps = r at *
  have n0 : (r != r) = false := by simp
  go_enter Try.func4, Try.ntmps4
  go_wp2_with fail
  refine (szSegmentS_yes _ _ _ _ _ (by omega) (by omega) (by omega)).mono ?_
  rintro e w1 ⟨rfl, rfl⟩
  go_wp2_with fail
  refine (toSg_ex a len cap ps _ HA.out hlen).mono ?_
  rintro en w1 ⟨v1, rfl, hs, hb⟩
  have V1 := Lib.hid hs
  have B1 := Lib.hid hb
  clear hs hb
  go_wp2_with fail
  refine (CS.out _ _ V1.out).mono ?_
  rintro en w2 ⟨rfl, hb⟩
  have H1 := Lib.hid (bT B1.out hb)
  clear hb V1 B1 H0
  go_wp2_with fail
  refine (toSg_ex a len cap ps _ (HA.out.keep H1.out) hlen).mono ?_
  rintro en w3 ⟨v3, rfl, hs, hb⟩
  have V3 := Lib.hid hs
  have H3 := Lib.hid (bT H1.out hb)
  clear hs hb H1
  have V4 := V3
  have H4 := H3
  go_wp2_with fail
  refine (CI.out _ _ V4.out).mono ?_
  rintro en w5 ⟨rfl, hb⟩
  have V5 := Lib.hid (V4.out.keep hb)
  have H5 := Lib.hid (bT H4.out hb)
  clear hb V4 H4
  go_wp2_with fail
  refine (toSg_ex a len cap ps _ (HA.out.keep H5.out) hlen).mono ?_
  rintro en w6 ⟨v6, rfl, hs, hb⟩
  have V6 := Lib.hid hs
  have V56 := Lib.hid (V5.out.keep hb)
  have H6 := Lib.hid (bT H5.out hb)
  clear hs hb V5 H5
  go_wp2_with fail
  refine (eqSegmentS_same ps _ _ _ V56.out V6.out hmax).mono ?_
  rintro en w7 ⟨rfl, hb⟩
  have L := Lib.hid (bT H6.out hb)
  clear hb
  go_wp2_with fail
  go_ret
  exact ⟨rfl, L.out⟩
set_option maxRecDepth 100000 in
set_option maxHeartbeats 4000000 in
theorem FnExactDriftSum_walk (b l c m : Int) (a : Option Addr) (len cap : Nat) (ps : List (Int × Int)) (w : World) (h : IsPR w a len cap ps) :
    Calls Try.prog 6 #[.agg #[.int .i64 b, .int .i64 l, .int .i64 c, .int .i64 m], .slice a len cap] w fun e w' => e = .returned (.bool true) ∧ Below w.heap.size w w' := by
  have H0 := Lib.hid (RtH.new w b l c m 23)
  obtain ⟨⟨l1, l2⟩, l3, _, _⟩ := id h
  unfold maxLen at l2
  have HA := Lib.hid h
  have HL3 := Lib.hid l3
  clear h l3
  by_cases hl : 1048576 < len
  · go_enter Try.func6, Try.ntmps6
    go_wp2_with fail
    refine (szSegmentS_no _ _ _ _ _ (by omega) (by omega) (by omega) (by omega)).mono ?_
    rintro e w1 ⟨rfl, rfl⟩
    go_wp2_with fail
    go_ret
    exact ⟨rfl, H0.out.2⟩
  have hlen : len ≤ 1048576 := by omega
  have hmax : ps.length ≤ 1000000000000 := by rw [HL3.out]; omega
  clear hl
  have CS := Lib.hid (fun v W (h : SlP W v ps) => DriftSumS_any b l c m ps v W h hmax)
  have CI := Lib.hid (fun v W (h : SlP W v ps) => DriftSumI_any b l c m ps v W h hmax)
  generalize dsE b l c m ps = r at *
  obtain ⟨r0, r1⟩ := r
  simp only at CS CI
  have n0 : (r0 != r0) = false := by simp
  have n1 : (r1 != r1) = false := by simp
  go_enter Try.func6, Try.ntmps6
  go_wp2_with fail
  refine (szSegmentS_yes _ _ _ _ _ (by omega) (by omega) (by omega)).mono ?_
  rintro e w1 ⟨rfl, rfl⟩
  obtain ⟨c0, c1, c2, c3, c4⟩ := H0.out.1.c4
  go_wp2_with fail
  refine (toRate_any _ _ _ _ _).mono ?_
  rintro en wa ⟨rfl, hb⟩
  have Ha := Lib.hid (H0.out.keep hb)
  clear hb c0 c1 c2 c3 c4
  go_wp2_with fail
  refine (toSg_ex a len cap ps _ (HA.out.keep Ha.out.2) hlen).mono ?_
  rintro en wb ⟨vb, rfl, hs, hb⟩
  have Vb := Lib.hid hs
  have Hb := Lib.hid (Ha.out.keep hb)
  clear hs hb Ha
  go_wp2_with fail
  refine (CS.out _ _ Vb.out).mono ?_
  rintro en w2 ⟨rfl, hb⟩
  have H1 := Lib.hid (Hb.out.keep hb)
  clear hb Hb Vb H0
  go_wp2_with fail
  refine (toSg_ex a len cap ps _ (HA.out.keep H1.out.2) hlen).mono ?_
  rintro en w3 ⟨v3, rfl, hs, hb⟩
  have V3 := Lib.hid hs
  have H3 := Lib.hid (H1.out.keep hb)
  clear hs hb H1
  obtain ⟨c0, c1, c2, c3, c4⟩ := H3.out.1.c4
  go_wp2_with fail
  refine (toRate_any _ _ _ _ _).mono ?_
  rintro en w4 ⟨rfl, hb⟩
  have V4 := Lib.hid (V3.out.keep hb)
  have H4 := Lib.hid (H3.out.keep hb)
  clear hb c0 c1 c2 c3 c4 V3 H3
  go_wp2_with fail
  refine (CI.out _ _ V4.out).mono ?_
  rintro en w5 ⟨rfl, hb⟩
  have V5 := Lib.hid (V4.out.keep hb)
  have H5 := Lib.hid (H4.out.keep hb)
  clear hb V4 H4
  go_wp2_with fail
  refine (toSg_ex a len cap ps _ (HA.out.keep H5.out.2) hlen).mono ?_
  rintro en w6 ⟨v6, rfl, hs, hb⟩
  have V6 := Lib.hid hs
  have V56 := Lib.hid (V5.out.keep hb)
  have H6 := Lib.hid (H5.out.keep hb)
  clear hs hb V5 H5
  go_wp2_with fail
  refine (eqSegmentS_same ps _ _ _ V56.out V6.out hmax).mono ?_
  rintro en w7 ⟨rfl, hb⟩
  have L := Lib.hid (bT H6.out.2 hb)
  clear hb
  go_wp2_with fail
  go_ret
  exact ⟨rfl, L.out⟩
set_option maxRecDepth 100000 in
set_option maxHeartbeats 4000000 in
theorem FnExactWorstSegment_walk (b l c m : Int) (a : Option Addr) (len cap : Nat) (ps : List (Int × Int)) (w : World) (h : IsPR w a len cap ps) :
    Calls Try.prog 8 #[.agg #[.int .i64 b, .int .i64 l, .int .i64 c, .int .i64 m], .slice a len cap] w fun e w' => e = .returned (.bool true) ∧ Below w.heap.size w w' := by
  have H0 := Lib.hid (RtH.new w b l c m 23)
  obtain ⟨⟨l1, l2⟩, l3, _, _⟩ := id h
  unfold maxLen at l2
  have HA := Lib.hid h
  have HL3 := Lib.hid l3
  clear h l3
  by_cases hl : 1048576 < len
  · go_enter Try.func8, Try.ntmps8
    go_wp2_with fail
    refine (szSegmentS_no _ _ _ _ _ (by omega) (by omega) (by omega) (by omega)).mono ?_
    rintro e w1 ⟨rfl, rfl⟩
    go_wp2_with fail
    go_ret
    exact ⟨rfl, H0.out.2⟩
  have hlen : len ≤ 1048576 := by omega
  have hmax : ps.length ≤ 1000000000000 := by rw [HL3.out]; omega
  clear hl
  have CS := Lib.hid (fun v W (h : SlP W v ps) => WorstSegmentS_any b l c m ps v W h hmax)
  have CI := Lib.hid (fun v W (h : SlP W v ps) => WorstSegmentI_any b l c m ps v W h hmax)
  generalize wsE b l c m ps = r at *
  obtain ⟨r0, r1⟩ := r
  simp only at CS CI
  have n0 : (r0 != r0) = false := by simp
  have n1 : (r1 != r1) = false := by simp
  go_enter Try.func8, Try.ntmps8
  go_wp2_with fail
  refine (szSegmentS_yes _ _ _ _ _ (by omega) (by omega) (by omega)).mono ?_
  rintro e w1 ⟨rfl, rfl⟩
  obtain ⟨c0, c1, c2, c3, c4⟩ := H0.out.1.c4
  go_wp2_with fail
  refine (toRate_any _ _ _ _ _).mono ?_
  rintro en wa ⟨rfl, hb⟩
  have Ha := Lib.hid (H0.out.keep hb)
  clear hb c0 c1 c2 c3 c4
  go_wp2_with fail
  refine (toSg_ex a len cap ps _ (HA.out.keep Ha.out.2) hlen).mono ?_
  rintro en wb ⟨vb, rfl, hs, hb⟩
  have Vb := Lib.hid hs
  have Hb := Lib.hid (Ha.out.keep hb)
  clear hs hb Ha
  go_wp2_with fail
  refine (CS.out _ _ Vb.out).mono ?_
  rintro en w2 ⟨rfl, hb⟩
  have H1 := Lib.hid (Hb.out.keep hb)
  clear hb Hb Vb H0
  go_wp2_with fail
  refine (toSg_ex a len cap ps _ (HA.out.keep H1.out.2) hlen).mono ?_
  rintro en w3 ⟨v3, rfl, hs, hb⟩
  have V3 := Lib.hid hs
  have H3 := Lib.hid (H1.out.keep hb)
  clear hs hb H1
  obtain ⟨c0, c1, c2, c3, c4⟩ := H3.out.1.c4
  go_wp2_with fail
  refine (toRate_any _ _ _ _ _).mono ?_
  rintro en w4 ⟨rfl, hb⟩
  have V4 := Lib.hid (V3.out.keep hb)
  have H4 := Lib.hid (H3.out.keep hb)
  clear hb c0 c1 c2 c3 c4 V3 H3
  go_wp2_with fail
  refine (CI.out _ _ V4.out).mono ?_
  rintro en w5 ⟨rfl, hb⟩
  have V5 := Lib.hid (V4.out.keep hb)
  have H5 := Lib.hid (H4.out.keep hb)
  clear hb V4 H4
  go_wp2_with fail
  refine (toSg_ex a len cap ps _ (HA.out.keep H5.out.2) hlen).mono ?_
  rintro en w6 ⟨v6, rfl, hs, hb⟩
  have V6 := Lib.hid hs
  have V56 := Lib.hid (V5.out.keep hb)
  have H6 := Lib.hid (H5.out.keep hb)
  clear hs hb V5 H5
  go_wp2_with fail
  refine (eqSegmentS_same ps _ _ _ V56.out V6.out hmax).mono ?_
  rintro en w7 ⟨rfl, hb⟩
  have L := Lib.hid (bT H6.out.2 hb)
  clear hb
  go_wp2_with fail
  go_ret
  exact ⟨rfl, L.out⟩
set_option maxRecDepth 100000 in
set_option maxHeartbeats 4000000 in
theorem FnExactBestBase_walk (b l c m : Int) (a : Option Addr) (len cap : Nat) (ps : List (Int × Int)) (w : World) (h : IsPR w a len cap ps) :
    Calls Try.prog 9 #[.agg #[.int .i64 b, .int .i64 l, .int .i64 c, .int .i64 m], .slice a len cap] w fun e w' => e = .returned (.bool true) ∧ Below w.heap.size w w' := by
  have H0 := Lib.hid (RtH.new w b l c m 23)
  obtain ⟨⟨l1, l2⟩, l3, _, _⟩ := id h
  unfold maxLen at l2
  have HA := Lib.hid h
  have HL3 := Lib.hid l3
  clear h l3
  by_cases hl : 1048576 < len
  · go_enter Try.func9, Try.ntmps9
    go_wp2_with fail
    refine (szSegmentS_no _ _ _ _ _ (by omega) (by omega) (by omega) (by omega)).mono ?_
    rintro e w1 ⟨rfl, rfl⟩
    go_wp2_with fail
    go_ret
    exact ⟨rfl, H0.out.2⟩
  have hlen : len ≤ 1048576 := by omega
  have hmax : ps.length ≤ 1000000000000 := by rw [HL3.out]; omega
  clear hl
  have CS := Lib.hid (fun v W (h : SlP W v ps) => BestBaseS_any b l c m ps v W h hmax)
  have CI := Lib.hid (fun v W (h : SlP W v ps) => BestBaseI_any b l c m ps v W h hmax)
  generalize bbE b l c m ps = r at *
  obtain ⟨r0, r1⟩ := r
  simp only at CS CI
  have n0 : (r0 != r0) = false := by simp
  have n1 : (r1 != r1) = false := by simp
  go_enter Try.func9, Try.ntmps9
  go_wp2_with fail
  refine (szSegmentS_yes _ _ _ _ _ (by omega) (by omega) (by omega)).mono ?_
  rintro e w1 ⟨rfl, rfl⟩
  obtain ⟨c0, c1, c2, c3, c4⟩ := H0.out.1.c4
  go_wp2_with fail
  refine (toRate_any _ _ _ _ _).mono ?_
  rintro en wa ⟨rfl, hb⟩
  have Ha := Lib.hid (H0.out.keep hb)
  clear hb c0 c1 c2 c3 c4
  go_wp2_with fail
  refine (toSg_ex a len cap ps _ (HA.out.keep Ha.out.2) hlen).mono ?_
  rintro en wb ⟨vb, rfl, hs, hb⟩
  have Vb := Lib.hid hs
  have Hb := Lib.hid (Ha.out.keep hb)
  clear hs hb Ha
  go_wp2_with fail
  refine (CS.out _ _ Vb.out).mono ?_
  rintro en w2 ⟨rfl, hb⟩
  have H1 := Lib.hid (Hb.out.keep hb)
  clear hb Hb Vb H0
  go_wp2_with fail
  refine (toSg_ex a len cap ps _ (HA.out.keep H1.out.2) hlen).mono ?_
  rintro en w3 ⟨v3, rfl, hs, hb⟩
  have V3 := Lib.hid hs
  have H3 := Lib.hid (H1.out.keep hb)
  clear hs hb H1
  obtain ⟨c0, c1, c2, c3, c4⟩ := H3.out.1.c4
  go_wp2_with fail
  refine (toRate_any _ _ _ _ _).mono ?_
  rintro en w4 ⟨rfl, hb⟩
  have V4 := Lib.hid (V3.out.keep hb)
  have H4 := Lib.hid (H3.out.keep hb)
  clear hb c0 c1 c2 c3 c4 V3 H3
  go_wp2_with fail
  refine (CI.out _ _ V4.out).mono ?_
  rintro en w5 ⟨rfl, hb⟩
  have V5 := Lib.hid (V4.out.keep hb)
  have H5 := Lib.hid (H4.out.keep hb)
  clear hb V4 H4
  go_wp2_with fail
  refine (toSg_ex a len cap ps _ (HA.out.keep H5.out.2) hlen).mono ?_
  rintro en w6 ⟨v6, rfl, hs, hb⟩
  have V6 := Lib.hid hs
  have V56 := Lib.hid (V5.out.keep hb)
  have H6 := Lib.hid (H5.out.keep hb)
  clear hs hb V5 H5
  go_wp2_with fail
  refine (eqSegmentS_same ps _ _ _ V56.out V6.out hmax).mono ?_
  rintro en w7 ⟨rfl, hb⟩
  have L := Lib.hid (bT H6.out.2 hb)
  clear hb
  go_wp2_with fail
  go_ret
  exact ⟨rfl, L.out⟩
end Go.Proofs.Ytgcalgkpaehonaa


/-
  The walk of laws.FnExactCompareTrains.
-/
import Derived.Test.YtbfiacodglckiaaCtI
import Derived.Test.YtbfiacodglckiaaCtS
namespace Go.Proofs.Ytbfiacodglckiaa
open Go.RowKit

set_option maxHeartbeats 4000000 in
theorem FnExactCompareTrains_walk (a0 : Option Addr) (len0 cap0 : Nat) (ps0 : List (Int × Int)) (a1 : Option Addr) (len1 cap1 : Nat) (ps1 : List (Int × Int)) (w : World) (h0 : IsPR w a0 len0 cap0 ps0) (h1 : IsPR w a1 len1 cap1 ps1) :
    Calls Try.prog 12 #[.slice a0 len0 cap0, .slice a1 len1 cap1] w fun e w' => e = .returned (.bool true) ∧ Below w.heap.size w w' := by
  obtain ⟨⟨l0, m0⟩, e0, _, _⟩ := id h0
  unfold maxLen at m0
  have HA0 := Lib.hid h0
  have HE0 := Lib.hid e0
  clear h0 e0
  obtain ⟨⟨l1, m1⟩, e1, _, _⟩ := id h1
  unfold maxLen at m1
  have HA1 := Lib.hid h1
  have HE1 := Lib.hid e1
  clear h1 e1
  by_cases hl0 : 1048576 < len0
  · go_enter Try.func12, Try.ntmps12
    go_wp2_with fail
    refine (szPairS_no _ _ _ _ _ (by omega) (by omega) (by omega) (by omega)).mono ?_
    rintro e w1 ⟨rfl, rfl⟩
    go_wp2_with fail
    go_ret
    exact ⟨rfl, bR _⟩
  by_cases hl1 : 1048576 - (len0 : Int) < len1
  · go_enter Try.func12, Try.ntmps12
    go_wp2_with fail
    refine (szPairS_yes _ _ _ _ _ (by omega) (by omega) (by omega)).mono ?_
    rintro e w1 ⟨rfl, rfl⟩
    have hnn0 : ¬ 1048576 - (len0 : Int) < 0 := by omega
    go_wp2_with fail
    refine (szPairS_no _ _ _ _ _ (by omega) (by omega) (by omega) (by omega)).mono ?_
    rintro e w1 ⟨rfl, rfl⟩
    go_wp2_with fail
    go_ret
    exact ⟨rfl, bR _⟩
  · skip
    have hlen0 : len0 ≤ 1048576 := by omega
    have hmax0 : ps0.length ≤ 1000000000000 := by rw [HE0.out]; omega
    have hlen1 : len1 ≤ 1048576 := by omega
    have hmax1 : ps1.length ≤ 1000000000000 := by rw [HE1.out]; omega
    have hnn0 : ¬ 1048576 - (len0 : Int) < 0 := by omega
    have hnn1 : ¬ 1048576 - (len0 : Int) - (len1 : Int) < 0 := by omega
    clear hl0
    clear hl1
    generalize hgr0 : ctV ps0 ps1 = r0
    have HGr0 := Lib.hid hgr0
    clear hgr0
    have hne0 : (r0 != r0) = false := by simp
    have HT0 := Lib.hid (fun W (hW : IsPR W a0 len0 cap0 ps0) => toPairS_any a0 len0 cap0 ps0 W hW hlen0)
    have HT1 := Lib.hid (fun W (hW : IsPR W a1 len1 cap1 ps1) => toPairS_any a1 len1 cap1 ps1 W hW hlen1)
    go_enter Try.func12, Try.ntmps12
    go_wp2_with fail
    refine (szPairS_yes _ _ _ _ _ (by omega) (by omega) (by omega)).mono ?_
    rintro e w1 ⟨rfl, rfl⟩
    go_wp2_with fail
    refine (szPairS_yes _ _ _ _ _ (by omega) (by omega) (by omega)).mono ?_
    rintro e w1 ⟨rfl, rfl⟩
    go_wp2_with fail
    refine (HT0.out _ (HA0.out)).mono ?_
    rintro e w1 ⟨rfl, hr, hb⟩
    have w0_1 := Lib.hid (slP_of hr)
    clear hr
    have L_2 := Lib.hid (bT (bR w) hb)
    clear hb
    go_wp2_with fail
    refine (HT1.out _ (HA1.out.keep L_2.out)).mono ?_
    rintro e w1 ⟨rfl, hr, hb⟩
    have w1_3 := Lib.hid (slP_of hr)
    clear hr
    have w0_4 := Lib.hid (w0_1.out.keep hb)
    have L_5 := Lib.hid (bT L_2.out hb)
    clear hb w0_1 L_2
    go_wp2_with fail
    refine (CompareTrainsS_any ps0 ps1 _ _ _ w0_4.out w1_3.out hmax0 hmax1).mono ?_
    rw [HGr0.out]
    rintro e w1 ⟨rfl, hb⟩
    have w0_6 := Lib.hid (w0_4.out.keep hb)
    have w1_7 := Lib.hid (w1_3.out.keep hb)
    have L_8 := Lib.hid (bT L_5.out hb)
    clear hb w0_4 w1_3 L_5
    clear w0_6
    clear w1_7
    go_wp2_with fail
    refine (HT0.out _ (HA0.out.keep L_8.out)).mono ?_
    rintro e w1 ⟨rfl, hr, hb⟩
    have x0_9 := Lib.hid (slP_of hr)
    clear hr
    have L_10 := Lib.hid (bT L_8.out hb)
    clear hb L_8
    go_wp2_with fail
    refine (HT1.out _ (HA1.out.keep L_10.out)).mono ?_
    rintro e w1 ⟨rfl, hr, hb⟩
    have x1_11 := Lib.hid (slP_of hr)
    clear hr
    have x0_12 := Lib.hid (x0_9.out.keep hb)
    have L_13 := Lib.hid (bT L_10.out hb)
    clear hb x0_9 L_10
    go_wp2_with fail
    refine (CompareTrainsI_any ps0 ps1 _ _ _ x0_12.out x1_11.out hmax0 hmax1).mono ?_
    rw [HGr0.out]
    rintro e w1 ⟨rfl, hb⟩
    have x0_14 := Lib.hid (x0_12.out.keep hb)
    have x1_15 := Lib.hid (x1_11.out.keep hb)
    have L_16 := Lib.hid (bT L_13.out hb)
    clear hb x0_12 x1_11 L_13
    go_wp2_with fail
    refine (HT0.out _ (HA0.out.keep L_16.out)).mono ?_
    rintro e w1 ⟨rfl, hr, hb⟩
    have t0_17 := Lib.hid (slP_of hr)
    clear hr
    have x0_18 := Lib.hid (x0_14.out.keep hb)
    have x1_19 := Lib.hid (x1_15.out.keep hb)
    have L_20 := Lib.hid (bT L_16.out hb)
    clear hb x0_14 x1_15 L_16
    go_wp2_with fail
    refine (eqPairS_same ps0 _ _ _ x0_18.out t0_17.out hmax0).mono ?_
    rintro e w1 ⟨rfl, hb⟩
    clear t0_17
    have x0_21 := Lib.hid (x0_18.out.keep hb)
    have x1_22 := Lib.hid (x1_19.out.keep hb)
    have L_23 := Lib.hid (bT L_20.out hb)
    clear hb x0_18 x1_19 L_20
    go_wp2_with fail
    refine (HT1.out _ (HA1.out.keep L_23.out)).mono ?_
    rintro e w1 ⟨rfl, hr, hb⟩
    have t1_24 := Lib.hid (slP_of hr)
    clear hr
    have x0_25 := Lib.hid (x0_21.out.keep hb)
    have x1_26 := Lib.hid (x1_22.out.keep hb)
    have L_27 := Lib.hid (bT L_23.out hb)
    clear hb x0_21 x1_22 L_23
    go_wp2_with fail
    refine (eqPairS_same ps1 _ _ _ x1_26.out t1_24.out hmax1).mono ?_
    rintro e w1 ⟨rfl, hb⟩
    clear t1_24
    have x0_28 := Lib.hid (x0_25.out.keep hb)
    have x1_29 := Lib.hid (x1_26.out.keep hb)
    have L_30 := Lib.hid (bT L_27.out hb)
    clear hb x0_25 x1_26 L_27
    go_wp2_with fail
    go_ret
    exact ⟨rfl, L_30.out⟩
end Go.Proofs.Ytbfiacodglckiaa

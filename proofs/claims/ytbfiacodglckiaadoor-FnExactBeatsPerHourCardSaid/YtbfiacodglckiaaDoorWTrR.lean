/-
  The walks of laws.FnExactTrainRatio, FnExactBeatsPerHour.
-/
import Derived.Test.YtbfiacodglckiaaDoorBph
import Derived.Test.YtbfiacodglckiaaDoorCarry
namespace Go.Proofs.YtbfiacodglckiaaDoor
open Go.RowKit

set_option maxHeartbeats 4000000 in
theorem FnExactBeatsPerHour_walk (a0 : Option Addr) (len0 cap0 : Nat) (ps0 : List (Int × Int)) (x1 : Int) (w : World) (b0 b1 : Addr) (hS : Sent w b0 b1) (h0 : IsPR w a0 len0 cap0 ps0) (h1 : -9223372036854775808 ≤ x1 ∧ x1 ≤ 9223372036854775807) :
    Calls Tryd.prog 3 #[.slice a0 len0 cap0, .int .i64 x1] w fun e w' => e = .returned (.bool true) ∧ Below w.heap.size w w' := by
  obtain ⟨⟨l0, m0⟩, e0, _, _⟩ := id h0
  unfold maxLen at m0
  have HA0 := Lib.hid h0
  have HE0 := Lib.hid e0
  clear h0 e0
  have HSS := Lib.hid hS
  have H1 := Lib.hid h1
  clear hS h1
  by_cases hl0 : 1048576 < len0
  · go_enter Tryd.func3, Tryd.ntmps3
    go_wp2_with fail
    refine (szPairS_no _ _ _ _ _ (by omega) (by omega) (by omega) (by omega)).mono ?_
    rintro e w1 ⟨rfl, rfl⟩
    go_wp2_with fail
    go_ret
    exact ⟨rfl, bR _⟩
  · skip
    have hlen0 : len0 ≤ 1048576 := by omega
    have hmax0 : ps0.length ≤ 1000000000000 := by rw [HE0.out]; omega
    have hnn0 : ¬ 1048576 - (len0 : Int) < 0 := by omega
    clear hl0
    generalize hgr0a : bpA ps0 x1 = r0a
    have HGr0a := Lib.hid hgr0a
    clear hgr0a
    generalize hgr0b : bpB ps0 x1 = r0b
    have HGr0b := Lib.hid hgr0b
    clear hgr0b
    generalize hgr1 : bpC ps0 x1 = r1
    have HGr1 := Lib.hid hgr1
    clear hgr1
    have hne1 : (r1 != r1) = false := by simp
    have HT0 := Lib.hid (fun W (hW : IsPR W a0 len0 cap0 ps0) => toPairS_any a0 len0 cap0 ps0 W hW hlen0)
    go_enter Tryd.func3, Tryd.ntmps3
    go_wp2_with fail
    refine (szPairS_yes _ _ _ _ _ (by omega) (by omega) (by omega)).mono ?_
    rintro e w1 ⟨rfl, rfl⟩
    go_wp2_with fail
    refine (HT0.out _ (HA0.out)).mono ?_
    rintro e w1 ⟨rfl, hr, hb⟩
    have w0_1 := Lib.hid (slP_of hr)
    clear hr
    have L_2 := Lib.hid (bT (bR w) hb)
    clear hb
    go_wp2_with fail
    refine (BeatsS_any ps0 x1 _ _ w0_1.out hmax0).mono ?_
    rw [HGr0a.out, HGr0b.out, HGr1.out]
    rintro e w1 ⟨rfl, hb⟩
    have w0_3 := Lib.hid (w0_1.out.keep hb)
    have L_4 := Lib.hid (bT L_2.out hb)
    clear hb w0_1 L_2
    clear w0_3
    have hb := bA (bR w1) (.cells #[.int .i64 r0a, .int .i64 r0b] 25)
    have L_5 := Lib.hid (bT L_4.out hb)
    clear hb L_4
    have bw_6 := Lib.hid (Box2.new w1 r0a r0b 25)
    go_wp2_with fail
    generalize w1.alloc (.cells #[.int .i64 r0a, .int .i64 r0b] 25) = W at *
    generalize w1.heap.size = bx6 at *
    refine (HT0.out _ (HA0.out.keep L_5.out)).mono ?_
    rintro e w1 ⟨rfl, hr, hb⟩
    have x0_7 := Lib.hid (slP_of hr)
    clear hr
    have bw_8 := Lib.hid (bw_6.out.keep hb)
    have L_9 := Lib.hid (bT L_5.out hb)
    clear hb bw_6 L_5
    go_wp2_with fail
    refine (BeatsI_any ps0 x1 _ _ b0 b1 (HSS.out.keep L_9.out) x0_7.out hmax0 H1.out.1 H1.out.2).mono ?_
    rw [HGr0a.out, HGr0b.out, HGr1.out]
    rintro e w1 ⟨rfl, hb⟩
    have bw_10 := Lib.hid (bw_8.out.keep hb)
    have x0_11 := Lib.hid (x0_7.out.keep hb)
    have L_12 := Lib.hid (bT L_9.out hb)
    clear hb bw_8 x0_7 L_9
    have hb := bA (bR w1) (.cells #[.int .i64 r0a, .int .i64 r0b] 25)
    have bw_13 := Lib.hid (bw_10.out.keep hb)
    have x0_14 := Lib.hid (x0_11.out.keep hb)
    have L_15 := Lib.hid (bT L_12.out hb)
    clear hb bw_10 x0_11 L_12
    have bg_16 := Lib.hid (Box2.new w1 r0a r0b 25)
    obtain ⟨y0, y1, y2, y3, y4⟩ := bw_13.out
    go_wp2_with fail
    generalize w1.alloc (.cells #[.int .i64 r0a, .int .i64 r0b] 25) = W at *
    generalize w1.heap.size = bx16 at *
    clear y0 y1 y2 y3 y4
    clear bw_13
    clear bg_16
    refine (eqRatio_same _ _ _).mono ?_
    rintro e w1 ⟨rfl, hb⟩
    have x0_17 := Lib.hid (x0_14.out.keep hb)
    have L_18 := Lib.hid (bT L_15.out hb)
    clear hb x0_14 L_15
    go_wp2_with fail
    refine (HT0.out _ (HA0.out.keep L_18.out)).mono ?_
    rintro e w1 ⟨rfl, hr, hb⟩
    have t0_19 := Lib.hid (slP_of hr)
    clear hr
    have x0_20 := Lib.hid (x0_17.out.keep hb)
    have L_21 := Lib.hid (bT L_18.out hb)
    clear hb x0_17 L_18
    go_wp2_with fail
    refine (eqPairS_same ps0 _ _ _ x0_20.out t0_19.out hmax0).mono ?_
    rintro e w1 ⟨rfl, hb⟩
    clear t0_19
    have x0_22 := Lib.hid (x0_20.out.keep hb)
    have L_23 := Lib.hid (bT L_21.out hb)
    clear hb x0_20 L_21
    go_wp2_with fail
    go_ret
    exact ⟨rfl, L_23.out⟩
end Go.Proofs.YtbfiacodglckiaaDoor

/-
  The walk of laws.FnExactTrainText.
-/
import Derived.Test.YtcgennkddoajeaaDoorTtI
namespace Go.Proofs.YtcgennkddoajeaaDoor
open Go.RowKit

set_option maxHeartbeats 4000000 in
theorem FnExactTrainText_walk (a0 : Option Addr) (len0 cap0 : Nat) (ps0 : List (Int × Int)) (w : World) (hp : Pow10 w) (h0 : IsPR w a0 len0 cap0 ps0) :
    Calls Tryd.prog 6 #[.slice a0 len0 cap0] w fun e w' => e = .returned (.bool true) ∧ Below w.heap.size w w' := by
  obtain ⟨⟨l0, m0⟩, e0, _, _⟩ := id h0
  unfold maxLen at m0
  have HA0 := Lib.hid h0
  have HE0 := Lib.hid e0
  clear h0 e0
  have HPW := Lib.hid hp
  clear hp
  by_cases hl0 : 1048576 < len0
  · go_enter Tryd.func6, Tryd.ntmps6
    go_wp2_with fail
    refine (szPairS_no _ _ _ _ _ (by omega) (by omega) (by omega) (by omega)).mono ?_
    rintro e w1 ⟨rfl, rfl⟩
    go_wp2_with fail
    go_ret
    exact ⟨rfl, bR _⟩
  · skip
    have hlen0 : len0 ≤ 1048576 := by omega
    have hmax0 : ps0.length ≤ 1000000000000 := by rw [HE0.out]; omega
    have hnn0 : ¬ 1048576 - (len0 : Int) < 0 := by omega
    clear hl0
    generalize hgr0 : ttB ps0 = r0
    have HGr0 := Lib.hid hgr0
    clear hgr0
    have hne0 : (r0.toList != r0.toList) = false := by simp
    have HT0 := Lib.hid (fun W (hW : IsPR W a0 len0 cap0 ps0) => toPairS_any a0 len0 cap0 ps0 W hW hlen0)
    go_enter Tryd.func6, Tryd.ntmps6
    go_wp2_with fail
    refine (szPairS_yes _ _ _ _ _ (by omega) (by omega) (by omega)).mono ?_
    rintro e w1 ⟨rfl, rfl⟩
    go_wp2_with fail
    refine (HT0.out _ (HA0.out)).mono ?_
    rintro e w1 ⟨rfl, hr, hb⟩
    have w0_1 := Lib.hid (slP_of hr)
    clear hr
    have L_2 := Lib.hid (bT (bR w) hb)
    clear hb
    go_wp2_with fail
    refine (TrainTextS_any ps0 _ _ w0_1.out hmax0).mono ?_
    rw [HGr0.out]
    rintro e w1 ⟨rfl, hb⟩
    have w0_3 := Lib.hid (w0_1.out.keep hb)
    have L_4 := Lib.hid (bT L_2.out hb)
    clear hb w0_1 L_2
    clear w0_3
    go_wp2_with fail
    refine (HT0.out _ (HA0.out.keep L_4.out)).mono ?_
    rintro e w1 ⟨rfl, hr, hb⟩
    have x0_5 := Lib.hid (slP_of hr)
    clear hr
    have L_6 := Lib.hid (bT L_4.out hb)
    clear hb L_4
    go_wp2_with fail
    refine (TrainTextI_any ps0 _ _ (Pow10.keep L_6.out HPW.out) x0_5.out hmax0).mono ?_
    rw [HGr0.out]
    rintro e w1 ⟨rfl, hb⟩
    have x0_7 := Lib.hid (x0_5.out.keep hb)
    have L_8 := Lib.hid (bT L_6.out hb)
    clear hb x0_5 L_6
    go_wp2_with fail
    refine (HT0.out _ (HA0.out.keep L_8.out)).mono ?_
    rintro e w1 ⟨rfl, hr, hb⟩
    have t0_9 := Lib.hid (slP_of hr)
    clear hr
    have x0_10 := Lib.hid (x0_7.out.keep hb)
    have L_11 := Lib.hid (bT L_8.out hb)
    clear hb x0_7 L_8
    go_wp2_with fail
    refine (eqPairS_same ps0 _ _ _ x0_10.out t0_9.out hmax0).mono ?_
    rintro e w1 ⟨rfl, hb⟩
    clear t0_9
    have x0_12 := Lib.hid (x0_10.out.keep hb)
    have L_13 := Lib.hid (bT L_11.out hb)
    clear hb x0_10 L_11
    go_wp2_with fail
    go_ret
    exact ⟨rfl, L_13.out⟩
end Go.Proofs.YtcgennkddoajeaaDoor

/-
  The walk of laws.FnExactWithinLimits.
-/
import Derived.Test.YtbfiacodglckiaaWl
import Derived.Test.YtbfiacodglckiaaOpenP
import Derived.Deep.RegionWith
import Derived.Deep.DeepCutAuto
namespace Go.Proofs.Ytbfiacodglckiaa
open Go.RowKit

/-- What stands while an argument is copied: the box of the limits. -/
def StL (w : World) (b : Nat) (x0 x1 x2 x3 x4 : Int) (W : World) : Prop := Below w.heap.size w W ∧ Box5 W b x0 x1 x2 x3 x4
theorem StL.keep {w W W' : World} {b : Nat} {x0 x1 x2 x3 x4 : Int} (hb : Below W.heap.size W W') (h : StL w b x0 x1 x2 x3 x4 W) : StL w b x0 x1 x2 x3 x4 W' := ⟨bT h.1 hb, h.2.keep hb⟩
theorem StL.drew {w W : World} {b : Nat} {x0 x1 x2 x3 x4 : Int} (h : StL w b x0 x1 x2 x3 x4 W) : StL w b x0 x1 x2 x3 x4 W.drew := ⟨h.1.drew, h.2.drew⟩
set_option maxRecDepth 100000 in
set_option maxHeartbeats 8000000 in
theorem FnExactWithinLimits_walk (a0 : Option Addr) (len0 cap0 : Nat) (ps0 : List (Int × Int)) (x0 x1 x2 x3 x4 : Int) (w : World) (h0 : IsPR w a0 len0 cap0 ps0) :
    Calls Try.prog 11 #[.slice a0 len0 cap0, .agg #[.int .i64 x0, .int .i64 x1, .int .i64 x2, .int .i64 x3, .int .i64 x4]] w fun e w' => e = .returned (.bool true) ∧ Below w.heap.size w w' := by
  obtain ⟨⟨l0, m0⟩, e0, _, _⟩ := id h0
  unfold maxLen at m0
  have HA0 := Lib.hid h0
  have HE0 := Lib.hid e0
  clear h0 e0
  by_cases hl0 : 1048576 < len0
  · go_enter Try.func11, Try.ntmps11
    go_wp2_with fail
    refine (szPairS_no _ _ _ _ _ (by omega) (by omega) (by omega) (by omega)).mono ?_
    rintro e w1 ⟨rfl, rfl⟩
    go_wp2_with fail
    go_ret
    exact ⟨rfl, bA (bR _) _⟩
  · skip
    have hlen0 : len0 ≤ 1048576 := by omega
    have hmax0 : ps0.length ≤ 1000000000000 := by rw [HE0.out]; omega
    have hnn0 : ¬ 1048576 - (len0 : Int) < 0 := by omega
    clear hl0
    have ES := Lib.hid (fun W v (hv : SlP W v ps0) => WithinS_any x0 x1 x2 x3 x4 ps0 v W hv hmax0)
    have EI := Lib.hid (fun W v (hv : SlP W v ps0) => WithinI_any x0 x1 x2 x3 x4 ps0 v W hv hmax0)
    generalize wlV ps0 x0 x1 x2 x3 x4 = r at *
    have HT0 := Lib.hid (fun W (hW : IsPR W a0 len0 cap0 ps0) => toPairS_any a0 len0 cap0 ps0 W hW hlen0)
    have ST0 := Lib.hid (show StL w w.heap.size x0 x1 x2 x3 x4 (w.alloc (.cells #[.int .i64 x0, .int .i64 x1, .int .i64 x2, .int .i64 x3, .int .i64 x4] 64)) from ⟨bA (bR _) _, Box5.new w x0 x1 x2 x3 x4 64⟩)
    go_enter Try.func11, Try.ntmps11
    go_wp2_with fail
    generalize w.alloc (.cells #[.int .i64 x0, .int .i64 x1, .int .i64 x2, .int .i64 x3, .int .i64 x4] 64) = W at *
    refine (szPairS_yes _ _ _ _ _ (by omega) (by omega) (by omega)).mono ?_
    rintro e w1 ⟨rfl, rfl⟩
    obtain ⟨c0, c1, c2, c3, c4, c5⟩ := ST0.out.2
    go_upto_region 5 with fail
    have ST := Lib.hid ST0.out.drew
    go_cut [6] (fun s6 wx => s6 = .bool r ∧ StL w w.heap.size x0 x1 x2 x3 x4 wx)
    case first =>
      go_region_with (first
        | (go_at_call 38; refine (HT0.out _ (HA0.out.keep ST.out.1)).mono ?_; rintro e w' ⟨rfl, hr, hb⟩; have VP := Lib.hid (slP_of hr); have ST := Lib.hid (StL.keep hb ST.out); obtain ⟨u0, u1, u2, u3, u4, u5⟩ := ST.out.2)
        | (go_at_call 44; refine (toLimits_any _ _ _ _ _ _).mono ?_; rintro e w' ⟨rfl, hb⟩; have ST := Lib.hid (StL.keep hb ST.out); (first | (have VP := Lib.hid (VP.out.keep hb)) | skip); obtain ⟨t0, t1, t2, t3, t4, t5⟩ := ST.out.2)
        | (go_at_call 46; refine (ES.out _ _ VP.out).mono ?_; rintro e w' ⟨rfl, hb⟩; have ST := Lib.hid (StL.keep hb ST.out)))
      all_goals go_wp2_with fail
      all_goals go_meet
      all_goals exact ⟨rfl, ST.out⟩
    case rest =>
      obtain ⟨rfl, hst⟩ := hcut
      have S6 := Lib.hid hst
      clear hst ST ST0 c0 c1 c2 c3 c4 c5
      obtain ⟨c0, c1, c2, c3, c4, c5⟩ := S6.out.2
      go_wp2_with fail
      refine (HT0.out _ (HA0.out.keep S6.out.1)).mono ?_
      rintro e w2 ⟨rfl, hr, hb⟩
      have V2 := Lib.hid (slP_of hr)
      have S7 := Lib.hid (StL.keep hb S6.out)
      clear hb hr c0 c1 c2 c3 c4 c5
      obtain ⟨c0, c1, c2, c3, c4, c5⟩ := S7.out.2
      go_wp2_with fail
      refine (toLimits_any _ _ _ _ _ _).mono ?_
      rintro e w3 ⟨rfl, hb⟩
      have V3 := Lib.hid (V2.out.keep hb)
      have L3 := Lib.hid (bT S7.out.1 hb)
      clear hb
      go_wp2_with fail
      refine (EI.out _ _ V3.out).mono ?_
      rintro e w4 ⟨rfl, hb⟩
      have V4 := Lib.hid (V3.out.keep hb)
      have L4 := Lib.hid (bT L3.out hb)
      clear hb c0 c1 c2 c3 c4 c5
      have hne : (r != r) = false := by simp
      cases r
      all_goals
        go_wp2_with fail
        refine (HT0.out _ (HA0.out.keep L4.out)).mono ?_
        rintro e w5 ⟨rfl, hr, hb⟩
        have T5 := Lib.hid (slP_of hr)
        have V5 := Lib.hid (V4.out.keep hb)
        have L5 := Lib.hid (bT L4.out hb)
        clear hb hr
        go_wp2_with fail
        refine (eqPairS_same ps0 _ _ _ V5.out T5.out hmax0).mono ?_
        rintro e w6 ⟨rfl, hb⟩
        have L6 := Lib.hid (bT L5.out hb)
        clear hb
        go_wp2_with fail
        go_ret
        exact ⟨rfl, L6.out⟩
end Go.Proofs.Ytbfiacodglckiaa

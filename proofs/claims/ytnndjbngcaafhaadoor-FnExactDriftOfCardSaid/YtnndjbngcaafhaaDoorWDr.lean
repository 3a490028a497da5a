/-
  The walk of laws.FnExactDriftOf.
-/
import Derived.Test.YtnndjbngcaafhaaDoorDr
import Derived.Test.YtnndjbngcaafhaaDoorFlt
import Derived.Test.YtnndjbngcaafhaaDoorCarry
import Derived.Test.YtnndjbngcaafhaaDoorOpenP
import Derived.Deep.DeepCutAuto
namespace Go.Proofs.YtnndjbngcaafhaaDoor
open Go.RowKit

set_option maxRecDepth 100000 in
set_option maxHeartbeats 8000000 in
theorem FnExactDriftOf_walk (a0 : Option Addr) (len0 cap0 : Nat) (ps0 : List (Int × Int)) (n d x2 : Int) (w : World) (b0 b1 : Addr) (hS : Sent w b0 b1) (h0 : IsPR w a0 len0 cap0 ps0) (_h1 : -9223372036854775808 ≤ n ∧ n ≤ 9223372036854775807) (_h2 : -9223372036854775808 ≤ d ∧ d ≤ 9223372036854775807) (_h3 : -9223372036854775808 ≤ x2 ∧ x2 ≤ 9223372036854775807) :
    Calls Tryd.prog 5 #[.slice a0 len0 cap0, .agg #[.int .i64 n, .int .i64 d], .int .i64 x2] w fun e w' => e = .returned (.bool true) ∧ Below w.heap.size w w' := by
  obtain ⟨⟨l0, m0⟩, e0, _, _⟩ := id h0
  unfold maxLen at m0
  have HA0 := Lib.hid h0
  have HE0 := Lib.hid e0
  clear h0 e0 _h1 _h2 _h3
  have HSS := Lib.hid hS
  clear hS
  by_cases hl0 : 1048576 < len0
  · go_enter Tryd.func5, Tryd.ntmps5
    go_wp2_with fail
    refine (szPairS_no _ _ _ _ _ (by omega) (by omega) (by omega) (by omega)).mono ?_
    rintro e w1 ⟨rfl, rfl⟩
    go_wp2_with fail
    go_ret
    exact ⟨rfl, bA (bR _) _⟩
  · skip
    have hlen0 : len0 ≤ 1048576 := by omega
    have hmax0 : ps0.length ≤ 1000000000000 := by rw [HE0.out]; omega
    have hnn0 : ¬ 1048576 - (len0 : Int) < 0 := by omega
    clear hl0
    have ES := Lib.hid (fun W v (hv : SlP W v ps0) => DriftOfS_any ps0 n d x2 v W hv hmax0)
    have EI := Lib.hid (fun W v (hs : Sent W b0 b1) (hv : SlP W v ps0) => DriftOfI_any ps0 n d x2 v W b0 b1 hs hv hmax0)
    generalize drV ps0 n d x2 = y at *
    generalize drC ps0 n d x2 = z at *
    have hne0 : (y != y) = false := by simp
    have hne1 : (z != z) = false := by simp
    have HT0 := Lib.hid (fun W (hW : IsPR W a0 len0 cap0 ps0) => toPairS_any a0 len0 cap0 ps0 W hW hlen0)
    have ST0 := Lib.hid (show StR w w.heap.size n d (w.alloc (.cells #[.int .i64 n, .int .i64 d] 30)) from ⟨bA (bR _) _, Box2.new w n d 30⟩)
    go_enter Tryd.func5, Tryd.ntmps5
    go_wp2_with fail
    generalize w.alloc (.cells #[.int .i64 n, .int .i64 d] 30) = W at *
    refine (szPairS_yes _ _ _ _ _ (by omega) (by omega) (by omega)).mono ?_
    rintro e w1 ⟨rfl, rfl⟩
    obtain ⟨c0, c1, _, _, _⟩ := ST0.out.2
    go_upto_region 5 with fail
    have ST := Lib.hid ST0.out.drew
    have hlt0 : w.heap.size < W.heap.size := ST0.out.2.lt
    go_cut [8, 9] (fun s8 s9 wx => s8 = .int .i64 y ∧ s9 = .int .i64 z ∧ StR w w.heap.size n d wx)
    case first =>
      go_region_with (first
        | (go_at_call 14; refine (HT0.out _ (HA0.out.keep ST.out.1)).mono ?_; rintro e w' ⟨rfl, hr, hb⟩; have VP := Lib.hid (slP_of hr); have ST := Lib.hid (StR.keep hb ST.out); obtain ⟨u0, u1, _, _, _⟩ := ST.out.2)
        | (go_at_call 15; refine (toRatio_any n d _).mono ?_; rintro e w' ⟨rfl, hb⟩; have ST := Lib.hid (StR.keep hb ST.out); (first | (have VP := Lib.hid (VP.out.keep hb)) | skip); obtain ⟨t0, t1, _, _, _⟩ := ST.out.2)
        | (go_at_call 18; refine (ES.out _ _ VP.out).mono ?_; rintro e w' ⟨rfl, hb⟩; have ST := Lib.hid (StR.keep hb ST.out)))
      all_goals go_wp2_with fail
      all_goals go_meet
      all_goals exact ⟨rfl, rfl, ST.out⟩
    case rest =>
      obtain ⟨rfl, rfl, hst⟩ := hcut
      have S6 := Lib.hid hst
      clear hst ST ST0 c0 c1
      obtain ⟨c0, c1, _, _, _⟩ := S6.out.2
      go_wp2_with fail
      refine (HT0.out _ (HA0.out.keep S6.out.1)).mono ?_
      rintro e w2 ⟨rfl, hr, hb⟩
      have V2 := Lib.hid (slP_of hr)
      have S7 := Lib.hid (StR.keep hb S6.out)
      clear hb hr c0 c1
      obtain ⟨c0, c1, _, _, _⟩ := S7.out.2
      go_wp2_with fail
      refine (toRatio_any n d _).mono ?_
      rintro e w3 ⟨rfl, hb⟩
      have V3 := Lib.hid (V2.out.keep hb)
      have L3 := Lib.hid (bT S7.out.1 hb)
      clear hb
      go_wp2_with fail
      refine (EI.out _ _ (HSS.out.keepB L3.out) V3.out).mono ?_
      rintro e w4 ⟨rfl, hb⟩
      have V4 := Lib.hid (V3.out.keep hb)
      have L4 := Lib.hid (bT L3.out hb)
      clear hb c0 c1
      go_wp2_with fail
      refine (HT0.out _ (HA0.out.keep L4.out)).mono ?_
      rintro e w5 ⟨rfl, hr, hb⟩
      have T5 := Lib.hid (slP_of hr)
      have V5 := Lib.hid (V4.out.keep hb)
      have L5 := Lib.hid (bT L4.out hb)
      clear hb hr
      go_wp2_with fail
      refine (eqPairS_same ps0 _ _ _ V5.out T5.out hmax0).mono ?_
      rintro e w6 ⟨rfl, hb⟩
      have L6 := Lib.hid (bT L5.out hb)
      clear hb
      go_wp2_with fail
      go_ret
      exact ⟨rfl, L6.out⟩
end Go.Proofs.YtnndjbngcaafhaaDoor

/-
  The walk of laws.FnExactErrorOf.
-/
import Derived.Test.YtnndjbngcaafhaaDoorErr
import Derived.Test.YtnndjbngcaafhaaDoorFlt
import Derived.Test.YtnndjbngcaafhaaDoorCarry
import Derived.Test.YtnndjbngcaafhaaDoorOpenP
import Derived.Deep.DeepCutAuto
namespace Go.Proofs.YtnndjbngcaafhaaDoor
open Go.RowKit

set_option maxRecDepth 100000 in
set_option maxHeartbeats 8000000 in
theorem FnExactErrorOf_walk (a0 : Option Addr) (len0 cap0 : Nat) (ps0 : List (Int × Int)) (n d : Int) (w : World) (b0 b1 : Addr) (hS : Sent w b0 b1) (h0 : IsPR w a0 len0 cap0 ps0) (_h1 : -9223372036854775808 ≤ n ∧ n ≤ 9223372036854775807) (_h2 : -9223372036854775808 ≤ d ∧ d ≤ 9223372036854775807) :
    Calls Tryd.prog 4 #[.slice a0 len0 cap0, .agg #[.int .i64 n, .int .i64 d]] w fun e w' => e = .returned (.bool true) ∧ Below w.heap.size w w' := by
  obtain ⟨⟨l0, m0⟩, e0, _, _⟩ := id h0
  unfold maxLen at m0
  have HA0 := Lib.hid h0
  have HE0 := Lib.hid e0
  clear h0 e0 _h1 _h2
  have HSS := Lib.hid hS
  clear hS
  by_cases hl0 : 1048576 < len0
  · go_enter Tryd.func4, Tryd.ntmps4
    go_wp2_with fail
    refine (szPairS_no _ _ _ _ _ (by omega) (by omega) (by omega) (by omega)).mono ?_
    rintro e w1 ⟨rfl, rfl⟩
    go_wp2_with fail
    go_ret
    exact ⟨rfl, bA (bR _) _⟩
  · skip
    have hlen0 : len0 ≤ 1048576 := by omega
    have hmax0 : ps0.length ≤ 1000000000000 := by rw [HE0.out]; omega
    have hnn0 : ¬ 1048576 - (len0 : Int) < 0 := by omega
    clear hl0
    have ES := Lib.hid (fun W v (hv : SlP W v ps0) => ErrorOfS_any ps0 n d v W hv hmax0)
    have EI := Lib.hid (fun W v (hs : Sent W b0 b1) (hv : SlP W v ps0) => ErrorOfI_any ps0 n d v W b0 b1 hs hv hmax0)
    generalize absN (dfA ps0 n d) = x at *
    generalize dfB ps0 n d = y at *
    generalize dfC ps0 n d = z at *
    have hne1 : (z != z) = false := by simp
    have HT0 := Lib.hid (fun W (hW : IsPR W a0 len0 cap0 ps0) => toPairS_any a0 len0 cap0 ps0 W hW hlen0)
    have HTV := Lib.hid (fun W (hW : IsPR W a0 len0 cap0 ps0) => show Calls Tryd.prog 14 #[.slice a0 len0 cap0] W (fun e w' => ∃ v, e = .returned v ∧ SlP w' v ps0 ∧ Below W.heap.size W w') from (toPairS_any a0 len0 cap0 ps0 W hW hlen0).mono fun e w' ⟨h1, h2, h3⟩ => ⟨_, h1, slP_of h2, h3⟩)
    have RT := Lib.hid (fun W (_ : StR w w.heap.size n d W) => toRatio_any n d W)
    have ST0 := Lib.hid (show StR w w.heap.size n d (w.alloc (.cells #[.int .i64 n, .int .i64 d] 30)) from ⟨bA (bR _) _, Box2.new w n d 30⟩)
    go_enter Tryd.func4, Tryd.ntmps4
    go_wp2_with fail
    generalize w.alloc (.cells #[.int .i64 n, .int .i64 d] 30) = W at *
    refine (szPairS_yes _ _ _ _ _ (by omega) (by omega) (by omega)).mono ?_
    rintro e w1 ⟨rfl, rfl⟩
    obtain ⟨c0, c1, _, _, _⟩ := ST0.out.2
    go_upto_region 5 with fail
    have ST := Lib.hid ST0.out.drew
    have hlt0 : w.heap.size < W.heap.size := ST0.out.2.lt
    go_cut [6, 7] (fun s6 s7 wx => CutEr w w.heap.size n d x y (.int .i64 z) s6 s7 wx)
    case first =>
      go_region_with (first
        | (go_at_call 14;
           (refine (HTV.out _ (by first | with_reducible exact HA0.out.keep (StR.bel ST.out) | with_reducible exact HA0.out.keep (StR.bel (StR.alloc ST.out _)) | with_reducible exact HA0.out.keep (StR.bel (StR.drew (StR.alloc ST0.out _))))).mono ?_);
           rintro e w' ⟨vp, rfl, hv, hb⟩;
           (first
            | (have ST := Lib.hid (StR.keep hb ST.out); (first | (have BX := Lib.hid (BxR.keep hb BX.out)) | skip))
            | (have BX := Lib.hid (BxR.keep hb (BxR.mk ST.out)); have ST := Lib.hid (StR.keep hb (StR.alloc ST.out _)))
            | (have BX := Lib.hid (BxR.keep hb (BxR.mk ST0.out).drew); have ST := Lib.hid (StR.keep hb (StR.alloc ST0.out _).drew)));
           have VP := Lib.hid hv; obtain ⟨u0, u1, _, _, _⟩ := ST.out.2)
        | (go_at_call 15;
           (refine (RT.out _ (by first | with_reducible exact ST.out | with_reducible exact StR.alloc ST.out _ | with_reducible exact StR.drew (StR.alloc ST0.out _))).mono ?_);
           rintro e w' ⟨rfl, hb⟩;
           (first
            | (have BX := Lib.hid (BxR.keep hb BX.out); have ST := Lib.hid (StR.keep hb ST.out); (first | (have VP := Lib.hid (VP.out.keep hb)) | skip))
            | (have ST := Lib.hid (StR.keep hb ST.out); (first | (have VP := Lib.hid (VP.out.keep hb)) | skip))
            | (have BX := Lib.hid (BxR.keep hb (BxR.mk ST.out)); (first | (have VP := Lib.hid ((VP.out.keep (bA (bR _) _)).keep hb)) | skip); have ST := Lib.hid (StR.keep hb (StR.alloc ST.out _)))
            | (have BX := Lib.hid (BxR.keep hb (BxR.mk ST0.out).drew); have ST := Lib.hid (StR.keep hb (StR.alloc ST0.out _).drew)));
           obtain ⟨t0, t1, _, _, _⟩ := ST.out.2)
        | (go_at_call 13;
           (refine (ES.out _ _ (by first | with_reducible exact VP.out | with_reducible exact VP.out.keep (bA (bR _) _))).mono ?_);
           rintro e w' ⟨rfl, hbe⟩;
           (first
            | (have Q := BX.out.2.2.keep hbe; obtain ⟨v0, v1, v2, v3, v4⟩ := Q; (try simp only [drew_size] at v0 v1 v2 v3))
            | (have Q := (StR.box ST.out).keep hbe; clear Q)
            | (have BX := Lib.hid (BxR.mk ST.out); have ST := Lib.hid (StR.alloc ST.out (.cells #[.int .i64 0, .int .i64 0] 32)); have Q := BX.out.2.2.keep hbe; obtain ⟨v0, v1, v2, v3, v4⟩ := Q; (try simp only [drew_size] at v0 v1 v2 v3)))))
      all_goals go_wp2_with fail
      all_goals go_meet
      all_goals first
        | exact cutEr1 BX.out ST.out hbe
        | exact cutEr2 ST.out hbe
        | exact cutEr3 ST.out hbe
    case rest =>
      obtain ⟨g, rfl, rfl, hbg, hst⟩ := hcut
      have G6 := Lib.hid hbg
      have S6 := Lib.hid hst
      clear hst hbg ST ST0 c0 c1
      obtain ⟨c0, c1, _, _, _⟩ := S6.out.2
      go_wp2_with fail
      refine (HT0.out _ (HA0.out.keep S6.out.1)).mono ?_
      rintro e w2 ⟨rfl, hr, hb⟩
      have V2 := Lib.hid (slP_of hr)
      have S7 := Lib.hid (StR.keep hb S6.out)
      have G7 := Lib.hid (G6.out.keep hb)
      clear hb hr c0 c1
      obtain ⟨c0, c1, _, _, _⟩ := S7.out.2
      go_wp2_with fail
      refine (toRatio_any n d _).mono ?_
      rintro e w3 ⟨rfl, hb⟩
      have V3 := Lib.hid (V2.out.keep hb)
      have G8 := Lib.hid (G7.out.keep hb)
      have L3 := Lib.hid (bT S7.out.1 hb)
      clear hb
      go_wp2_with fail
      refine (EI.out _ _ (HSS.out.keepB L3.out) V3.out).mono ?_
      rintro e w4 ⟨rfl, hb⟩
      have V4 := Lib.hid (V3.out.keep hb)
      have G9 := Lib.hid (G8.out.keep hb)
      have L4 := Lib.hid (bT L3.out hb)
      clear hb c0 c1
      have hb := bA (bR w4) (.cells #[.int .i64 x, .int .i64 y] 32)
      have V5 := Lib.hid (V4.out.keep hb)
      have GA := Lib.hid (G9.out.keep hb)
      have L5 := Lib.hid (bT L4.out hb)
      clear hb
      obtain ⟨y0, y1, y2, y3, y4⟩ := GA.out
      go_wp2_with fail
      generalize w4.alloc (.cells #[.int .i64 x, .int .i64 y] 32) = W4 at *
      refine (eqRatio_same _ _ _).mono ?_
      rintro e w5 ⟨rfl, hb⟩
      have V6 := Lib.hid (V5.out.keep hb)
      have L6 := Lib.hid (bT L5.out hb)
      clear hb
      go_wp2_with fail
      refine (HT0.out _ (HA0.out.keep L6.out)).mono ?_
      rintro e w6 ⟨rfl, hr, hb⟩
      have T7 := Lib.hid (slP_of hr)
      have V7 := Lib.hid (V6.out.keep hb)
      have L7 := Lib.hid (bT L6.out hb)
      clear hb hr
      go_wp2_with fail
      refine (eqPairS_same ps0 _ _ _ V7.out T7.out hmax0).mono ?_
      rintro e w7 ⟨rfl, hb⟩
      have L8 := Lib.hid (bT L7.out hb)
      clear hb
      go_wp2_with fail
      go_ret
      exact ⟨rfl, L8.out⟩
end Go.Proofs.YtnndjbngcaafhaaDoor

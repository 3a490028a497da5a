/-
  MirrorPlate and TurnPlate, both sides.
-/
import Derived.Test.YtmhheecjpalajaaPlF
import Derived.Test.YtmhheecjpalajaaPlV
namespace Go.Proofs.Ytmhheecjpalajaa
open Go.RowKit Go.Joins

set_option maxRecDepth 100000 in
set_option maxHeartbeats 800000 in
theorem MirrorPlateI_any (p : Pl4) (ss : List Sit) (g cap : Nat) (w : World) (ha : SlSi w (.slice (some ⟨g, 0, none⟩) ss.length cap) ss) (hg : g < w.heap.size) (hat : SitesAt w g ss) :
    Calls Try.prog 10 #[plV p (.slice (some ⟨g, 0, none⟩) ss.length cap)] w (MpRet p 1 ss w) := by
  obtain ⟨W, H, M, G⟩ := p
  have R0 := Lib.hid (BoxL.at_ (w := w.alloc (.cells #[.int .i64 W, .int .i64 H, .int .i64 M, .int .i64 G, .slice (some ⟨g, 0, none⟩) ss.length cap] 28)) (b := w.heap.size + 1) (vs := [.int .i64 0, .int .i64 0, .int .i64 0, .int .i64 0, .slice none 0 0]) (T := 28) (by simp))
  have L0 := Lib.hid (bA (bA (bR w) (.cells #[.int .i64 W, .int .i64 H, .int .i64 M, .int .i64 G, .slice (some ⟨g, 0, none⟩) ss.length cap] 28)) (.cells #[.int .i64 0, .int .i64 0, .int .i64 0, .int .i64 0, .slice none 0 0] 28))
  have hW0 : ((w.alloc (.cells #[.int .i64 W, .int .i64 H, .int .i64 M, .int .i64 G, .slice (some ⟨g, 0, none⟩) ss.length cap] 28)).alloc (.cells #[.int .i64 0, .int .i64 0, .int .i64 0, .int .i64 0, .slice none 0 0] 28)).heap.size = w.heap.size + 1 + 1 := by simp
  have MV := Lib.hid (movedPlate0_any ⟨W, H, M, G⟩ ss g cap ((w.alloc (.cells #[.int .i64 W, .int .i64 H, .int .i64 M, .int .i64 G, .slice (some ⟨g, 0, none⟩) ss.length cap] 28)).alloc (.cells #[.int .i64 0, .int .i64 0, .int .i64 0, .int .i64 0, .slice none 0 0] 28)) (ha.keep L0.out) (by omega) (hat.keep hg L0.out))
  clear ha hat
  unfold plV at MV ⊢
  go_enter Try.func10, Try.ntmps10
  go_wp2_with fail
  generalize (w.alloc (.cells #[.int .i64 W, .int .i64 H, .int .i64 M, .int .i64 G, .slice (some ⟨g, 0, none⟩) ss.length cap] 28)).alloc (.cells #[.int .i64 0, .int .i64 0, .int .i64 0, .int .i64 0, .slice none 0 0] 28) = W0 at *
  refine MV.out.mono ?_
  clear MV
  generalize hb4 : w.heap.size + 1 = b4 at *
  have hw4 : w.heap.size ≤ b4 := by omega
  have h4l : b4 < W0.heap.size := by omega
  rintro e w1 (⟨ho, u, rfl, hs, hb⟩ | ⟨ho, rfl, hb⟩)
  · replace hs : OwSi W0.heap.size w1 u (ss.map (mvS W H 1)) := hs
    have S := Lib.hid (((((hs.other (o := 0) (x := .int .i64 W) h4l).other (o := 1) (x := .int .i64 H) h4l).other (o := 2) (x := .int .i64 M) h4l).other (o := 3) (x := .int .i64 G) h4l).other (o := 4) (x := u) h4l)
    have L1 := Lib.hid (bT L0.out hb)
    obtain ⟨ao, cp, rfl⟩ := own_slice hs.2.2
    obtain ⟨q0, q1, q2, q3, q4, q5⟩ := (R0.out.keep hb).c5
    obtain ⟨r0, r1, r2, r3, r4⟩ := (R0.out.keep hb).f5
    clear hs hb
    generalize hln : (ss.map (mvS W H 1)).length = ln at *
    have PF := Lib.hid (S.out.low (show w.heap.size ≤ W0.heap.size by omega))
    have LF := Lib.hid (bsetB (o := 4) (v := .slice ao ln cp) (bsetB (o := 3) (v := .int .i64 G) (bsetB (o := 2) (v := .int .i64 M) (bsetB (o := 1) (v := .int .i64 H) (bsetB (o := 0) (v := .int .i64 W) L1.out hw4) hw4) hw4) hw4) hw4)
    clear S L1
    unfold mvP plV
    simp only [if_true]
    go_wp2_with fail
    refine bodyPost_ret (v := .tuple #[.agg #[.int .i64 W, .int .i64 H, .int .i64 M, .int .i64 G, .slice ao ln cp], .int .i64 0]) ?_ rfl (.inl ⟨ho, _, rfl, PF.out, LF.out⟩)
    simp [results, Try.results10, go_sem, q0, q1, q2, q3, q4]
  · have L1 := Lib.hid (bT L0.out hb)
    obtain ⟨q0, q1, q2, q3, q4, q5⟩ := (R0.out.keep hb).c5
    obtain ⟨r0, r1, r2, r3, r4⟩ := (R0.out.keep hb).f5
    clear hb
    unfold plV
    go_wp2_with fail
    refine bodyPost_ret (v := .tuple #[.agg #[.int .i64 0, .int .i64 0, .int .i64 0, .int .i64 0, .slice none 0 0], .int .i64 1]) ?_ rfl (.inr ⟨ho, rfl, bsetB (bsetB (bsetB (bsetB (bsetB L1.out hw4) hw4) hw4) hw4) hw4⟩)
    simp [results, Try.results10, go_sem, q0, q1, q2, q3, q4]
end Go.Proofs.Ytmhheecjpalajaa
namespace Go.Proofs.Ytmhheecjpalajaa
open Go.RowKit Go.Joins

set_option maxRecDepth 100000 in
set_option maxHeartbeats 800000 in
theorem MirrorPlateS_any (p : Pl4) (ss : List Sit) (g cap : Nat) (w : World) (ha : SlSi w (.slice (some ⟨g, 0, none⟩) ss.length cap) ss) :
    Calls Try.prog 8 #[plV p (.slice (some ⟨g, 0, none⟩) ss.length cap)] w (MpRet p 1 ss w) := by
  obtain ⟨W, H, M, G⟩ := p
  have X0 := Lib.hid ((BoxL.new w [.int .i64 W, .int .i64 H, .int .i64 M, .int .i64 G, .slice (some ⟨g, 0, none⟩) ss.length cap] 28).alloc (.cells #[.int .i64 0, .int .i64 0, .int .i64 0, .int .i64 0, .slice none 0 0] 28))
  have R0 := Lib.hid (BoxL.at_ (w := w.alloc (.cells #[.int .i64 W, .int .i64 H, .int .i64 M, .int .i64 G, .slice (some ⟨g, 0, none⟩) ss.length cap] 28)) (b := w.heap.size + 1) (vs := [.int .i64 0, .int .i64 0, .int .i64 0, .int .i64 0, .slice none 0 0]) (T := 28) (by simp))
  have L0 := Lib.hid (bA (bA (bR w) (.cells #[.int .i64 W, .int .i64 H, .int .i64 M, .int .i64 G, .slice (some ⟨g, 0, none⟩) ss.length cap] 28)) (.cells #[.int .i64 0, .int .i64 0, .int .i64 0, .int .i64 0, .slice none 0 0] 28))
  have hW0 : ((w.alloc (.cells #[.int .i64 W, .int .i64 H, .int .i64 M, .int .i64 G, .slice (some ⟨g, 0, none⟩) ss.length cap] 28)).alloc (.cells #[.int .i64 0, .int .i64 0, .int .i64 0, .int .i64 0, .slice none 0 0] 28)).heap.size = w.heap.size + 1 + 1 := by simp
  have A0 := Lib.hid (ha.keep L0.out)
  have VP := Lib.hid (fun W' (h : SlSi W' (.slice (some ⟨g, 0, none⟩) ss.length cap) ss) => l09Plate_any ⟨W, H, M, G⟩ ss (.slice (some ⟨g, 0, none⟩) ss.length cap) W' h)
  have MV := Lib.hid (fun W' (h : SlSi W' (.slice (some ⟨g, 0, none⟩) ss.length cap) ss) (ho : okPl W H M G ss = true) => l09MoveM_any ⟨W, H, M, G⟩ ss (.slice (some ⟨g, 0, none⟩) ss.length cap) W' h ho)
  clear ha
  unfold plV at VP MV ⊢
  cases ho : okPl W H M G ss
  · go_enter Try.func8, Try.ntmps8
    go_wp2_with fail
    generalize (w.alloc (.cells #[.int .i64 W, .int .i64 H, .int .i64 M, .int .i64 G, .slice (some ⟨g, 0, none⟩) ss.length cap] 28)).alloc (.cells #[.int .i64 0, .int .i64 0, .int .i64 0, .int .i64 0, .slice none 0 0] 28) = W0 at *
    refine (VP.out _ A0.out).mono ?_
    rw [ho]
    rintro e w1 ⟨rfl, hb⟩
    have L1 := Lib.hid (bT L0.out hb)
    obtain ⟨q0, q1, q2, q3, q4, q5⟩ := (R0.out.keep hb).c5
    obtain ⟨r0, r1, r2, r3, r4⟩ := (R0.out.keep hb).f5
    clear hb
    generalize hb4 : w.heap.size + 1 = b4 at *
    have hw4 : w.heap.size ≤ b4 := by omega
    go_wp2_with fail
    refine bodyPost_ret (v := .tuple #[.agg #[.int .i64 0, .int .i64 0, .int .i64 0, .int .i64 0, .slice none 0 0], .int .i64 1]) ?_ rfl (.inr ⟨ho, rfl, bsetB (bsetB (bsetB (bsetB (bsetB L1.out hw4) hw4) hw4) hw4) hw4⟩)
    simp [results, Try.results8, go_sem, q0, q1, q2, q3, q4]
  · have HOK := Lib.hid ho
    go_enter Try.func8, Try.ntmps8
    go_wp2_with fail
    generalize (w.alloc (.cells #[.int .i64 W, .int .i64 H, .int .i64 M, .int .i64 G, .slice (some ⟨g, 0, none⟩) ss.length cap] 28)).alloc (.cells #[.int .i64 0, .int .i64 0, .int .i64 0, .int .i64 0, .slice none 0 0] 28) = W0 at *
    refine (VP.out _ A0.out).mono ?_
    rw [ho]
    rintro e w1 ⟨rfl, hb⟩
    have L1 := Lib.hid (bT L0.out hb)
    have A1 := Lib.hid (A0.out.keep hb)
    have R1 := Lib.hid (R0.out.keep hb)
    obtain ⟨x0, x1, x2, x3, x4, x5⟩ := (X0.out.keep hb).c5
    have hs1 := hb.size
    clear hb ho
    go_wp2_with fail
    refine (MV.out _ A1.out HOK.out).mono ?_
    generalize hb4 : w.heap.size + 1 = b4 at *
    have hw4 : w.heap.size ≤ b4 := by omega
    rintro e w2 ⟨u, rfl, hs, hb⟩
    have h4l : b4 < w1.heap.size := by omega
    have S := Lib.hid (((((hs.other (o := 0) (x := .int .i64 W) h4l).other (o := 1) (x := .int .i64 H) h4l).other (o := 2) (x := .int .i64 M) h4l).other (o := 3) (x := .int .i64 G) h4l).other (o := 4) (x := u) h4l)
    have L2 := Lib.hid (bT L1.out hb)
    obtain ⟨ao, cp, rfl⟩ := own_slice hs.2.2
    obtain ⟨q0, q1, q2, q3, q4, q5⟩ := (R1.out.keep hb).c5
    obtain ⟨r0, r1, r2, r3, r4⟩ := (R1.out.keep hb).f5
    clear hs hb x0 x1 x2 x3 x4 x5
    generalize hln : (mvL W H 1 ss ss.length).length = ln at *
    rw [mvL_all] at S
    have PF := Lib.hid (S.out.low (show w.heap.size ≤ w1.heap.size by omega))
    have LF := Lib.hid (bsetB (o := 4) (v := .slice ao ln cp) (bsetB (o := 3) (v := .int .i64 G) (bsetB (o := 2) (v := .int .i64 M) (bsetB (o := 1) (v := .int .i64 H) (bsetB (o := 0) (v := .int .i64 W) L2.out hw4) hw4) hw4) hw4) hw4)
    clear S L2
    unfold mvP plV
    simp only [if_true]
    go_wp2_with fail
    refine bodyPost_ret (v := .tuple #[.agg #[.int .i64 W, .int .i64 H, .int .i64 M, .int .i64 G, .slice ao ln cp], .int .i64 0]) ?_ rfl (.inl ⟨HOK.out, _, rfl, PF.out, LF.out⟩)
    simp [results, Try.results8, go_sem, q0, q1, q2, q3, q4]
end Go.Proofs.Ytmhheecjpalajaa

/-
  The walk of laws.FnExactSwing.
-/
import Derived.Test.YtlgbkkbaiamapaaEsW
import Derived.Test.YtlgbkkbaiamapaaEsC
namespace Go.Proofs.Ytlgbkkbaiamapaa
open Go.RowKit

set_option maxRecDepth 100000 in
set_option maxHeartbeats 8000000 in
theorem FnExactSwing_walk (t u i l m : Int) (q : Int) (e k : Int) (w : World) (_hq : -9223372036854775808 ≤ q ∧ q ≤ 9223372036854775807) :
    Calls Try.prog 5 #[.agg #[.int .i64 t, .int .i64 u, .int .i64 i, .int .i64 l, .int .i64 m], .int .i64 q, .agg #[.int .i64 e, .int .i64 k]] w fun e w' => e = .returned (.bool true) ∧ Below w.heap.size w w' := by
  have CS := Lib.hid (fun W => SwingS_any t u i l m q e k W)
  have CI := Lib.hid (fun W => SwingI_any t u i l m q e k W)
  generalize swE t u i l m q e k = R at *
  obtain ⟨x, y, r0, r1⟩ := R
  unfold SgP at CS CI
  simp only at CS CI
  have n0 : (r0 != r0) = false := by simp
  have n1 : (r1 != r1) = false := by simp
  have H0 := Lib.hid (EbH.new w t u i l m e k 23 29)
  go_enter Try.func5, Try.ntmps5
  go_upto_region 1 with fail
  generalize (w.alloc (.cells #[.int .i64 t, .int .i64 u, .int .i64 i, .int .i64 l, .int .i64 m] 23)).alloc (.cells #[.int .i64 e, .int .i64 k] 29) = W0 at *
  generalize w.heap.size + 1 = b2 at *
  have HK := Lib.hid (fun (w' : World) (hb : Below W0.heap.size W0 w') => show EbC W0 w.heap.size b2 t u i l m e k w' from EbC.of ⟨H0.out.1.keep hb, H0.out.2.1.keep hb, hb⟩)
  go_cut [7, 8, 9] (fun s7 s8 s9 wx => ∃ kk : Nat, s7 = .pointer (some ⟨kk, 0, none⟩) ∧ s8 = .bool r0 ∧ s9 = .int .i64 r1 ∧ BoxL wx kk [.int .i64 x, .int .i64 y] ∧ W0.heap.size ≤ kk ∧ Below W0.heap.size W0 wx)
  case first =>
    go_region_held3 (fun w' => w'.cell? ⟨w.heap.size, 0, none⟩ = some (.int .i64 t) ∧ w'.cell? ⟨w.heap.size, 1, none⟩ = some (.int .i64 u) ∧ w'.cell? ⟨w.heap.size, 2, none⟩ = some (.int .i64 i) ∧ w'.cell? ⟨w.heap.size, 3, none⟩ = some (.int .i64 l) ∧ w'.cell? ⟨w.heap.size, 4, none⟩ = some (.int .i64 m) ∧ w'.cell? ⟨b2, 0, none⟩ = some (.int .i64 e) ∧ w'.cell? ⟨b2, 1, none⟩ = some (.int .i64 k) ∧ w.heap.size < w'.heap.size ∧ b2 < w'.heap.size ∧ Below W0.heap.size W0 w') (first | exact HK.out _ (bR _).drew | exact HK.out _ (bT (EbC.bel (b := w.heap.size) (c := b2) (t := t) (u := u) (i := i) (l := l) (m := m) (e := e) (k := k) (by assumption)) hb) | exact HK.out _ (bA (EbC.bel (b := w.heap.size) (c := b2) (t := t) (u := u) (i := i) (l := l) (m := m) (e := e) (k := k) (by assumption)) _) | exact HK.out _ (bA (Hid.out (by assumption)) _) | ((refine HK.out _ (Below.setCell (Below.setCell (EbC.bel (b := w.heap.size) (c := b2) (t := t) (u := u) (i := i) (l := l) (m := m) (e := e) (k := k) (by assumption)) ?_ _) ?_ _)) <;> (first | omega | (simp; omega) | (simp; done))))
      (first
        | (go_at_call 12; refine (toEscapement_any _ _ _ _ _ _).mono ?_; rintro en x5 ⟨rfl, hb⟩; have hTw := Lib.hid (show Below W0.heap.size W0 x5 from bT (EbC.bel (b := w.heap.size) (c := b2) (t := t) (u := u) (i := i) (l := l) (m := m) (e := e) (k := k) (by assumption)) hb); have hszw := hTw.out.size; first | (have ZB : Hid (BoxL x5 W0.heap.size [.int .i64 0, .int .i64 0]) := Lib.hid (BoxL.keep (BoxL.new W0.drew [.int .i64 0, .int .i64 0] 31) hb); obtain ⟨o0, o1, o2⟩ := ZB.out.c2; obtain ⟨p0, p1⟩ := ZB.out.f2) | (have ZB : Hid (BoxL x5 W0.heap.size [.int .i64 0, .int .i64 0]) := Lib.hid (BoxL.keep (BoxL.keep (BoxL.new W0 [.int .i64 0, .int .i64 0] 31) (bR _).drew) hb); obtain ⟨o0, o1, o2⟩ := ZB.out.c2; obtain ⟨p0, p1⟩ := ZB.out.f2) | (have ZB := Lib.hid (BoxL.keep ZB.out hb); obtain ⟨o0, o1, o2⟩ := ZB.out.c2; obtain ⟨p0, p1⟩ := ZB.out.f2) | (have ZB := Lib.hid (BoxL.keep (BoxL.new _ [.int .i64 0, .int .i64 0] 31) hb); obtain ⟨o0, o1, o2⟩ := ZB.out.c2; obtain ⟨p0, p1⟩ := ZB.out.f2) | skip)
        | (go_at_call 15; refine (toBeat_any _ _ _).mono ?_; rintro en x5 ⟨rfl, hb⟩; have hTw := Lib.hid (show Below W0.heap.size W0 x5 from bT (EbC.bel (b := w.heap.size) (c := b2) (t := t) (u := u) (i := i) (l := l) (m := m) (e := e) (k := k) (by assumption)) hb); have hszw := hTw.out.size; first | (have ZB : Hid (BoxL x5 W0.heap.size [.int .i64 0, .int .i64 0]) := Lib.hid (BoxL.keep (BoxL.new W0.drew [.int .i64 0, .int .i64 0] 31) hb); obtain ⟨o0, o1, o2⟩ := ZB.out.c2; obtain ⟨p0, p1⟩ := ZB.out.f2) | (have ZB : Hid (BoxL x5 W0.heap.size [.int .i64 0, .int .i64 0]) := Lib.hid (BoxL.keep (BoxL.keep (BoxL.new W0 [.int .i64 0, .int .i64 0] 31) (bR _).drew) hb); obtain ⟨o0, o1, o2⟩ := ZB.out.c2; obtain ⟨p0, p1⟩ := ZB.out.f2) | (have ZB := Lib.hid (BoxL.keep ZB.out hb); obtain ⟨o0, o1, o2⟩ := ZB.out.c2; obtain ⟨p0, p1⟩ := ZB.out.f2) | (have ZB := Lib.hid (BoxL.keep (BoxL.new _ [.int .i64 0, .int .i64 0] 31) hb); obtain ⟨o0, o1, o2⟩ := ZB.out.c2; obtain ⟨p0, p1⟩ := ZB.out.f2) | skip)
        | (go_at_call 17; refine (CS.out _).mono ?_; rintro en x5 ⟨rfl, hb⟩; have hTw := Lib.hid (show Below W0.heap.size W0 x5 from bT (EbC.bel (b := w.heap.size) (c := b2) (t := t) (u := u) (i := i) (l := l) (m := m) (e := e) (k := k) (by assumption)) hb); have hszw := hTw.out.size; first | (have ZB : Hid (BoxL x5 W0.heap.size [.int .i64 0, .int .i64 0]) := Lib.hid (BoxL.keep (BoxL.new W0.drew [.int .i64 0, .int .i64 0] 31) hb); obtain ⟨o0, o1, o2⟩ := ZB.out.c2; obtain ⟨p0, p1⟩ := ZB.out.f2) | (have ZB : Hid (BoxL x5 W0.heap.size [.int .i64 0, .int .i64 0]) := Lib.hid (BoxL.keep (BoxL.keep (BoxL.new W0 [.int .i64 0, .int .i64 0] 31) (bR _).drew) hb); obtain ⟨o0, o1, o2⟩ := ZB.out.c2; obtain ⟨p0, p1⟩ := ZB.out.f2) | (have ZB := Lib.hid (BoxL.keep ZB.out hb); obtain ⟨o0, o1, o2⟩ := ZB.out.c2; obtain ⟨p0, p1⟩ := ZB.out.f2) | (have ZB := Lib.hid (BoxL.keep (BoxL.new _ [.int .i64 0, .int .i64 0] 31) hb); obtain ⟨o0, o1, o2⟩ := ZB.out.c2; obtain ⟨p0, p1⟩ := ZB.out.f2) | skip))
    all_goals (go_wp2_with fail; go_meet; refine ⟨_, rfl, rfl, rfl, ?_, ?_, ?_⟩)
    all_goals first
      | exact BoxL.new _ [.int .i64 x, .int .i64 y] _
      | exact bA hTw.out _
      | exact hszw
      | exact (ZB.out.setE (i := 0) (v := .int .i64 x) rfl).setE (i := 1) (v := .int .i64 y) rfl
      | exact Nat.le_refl _
      | omega
      | (refine (hTw.out.setCell (p := ⟨_, 0, none⟩) ?_ _).setCell (p := ⟨_, 1, none⟩) ?_ _ <;> first | exact Nat.le_refl _ | (dsimp only; omega))
  case rest =>
    obtain ⟨k1, rfl, rfl, rfl, hX, hkk, hB⟩ := hcut
    have H1 := Lib.hid (H0.out.keep hB)
    have X1 := Lib.hid hX
    clear hX hB HK CS H0 hkk
    generalize wc = W1 at *
    go_upto_region 2 with fail
    have HK := Lib.hid (fun (w' : World) (hb : Below W1.heap.size W1 w') => show EbC W1 w.heap.size b2 t u i l m e k w' from EbC.of ⟨H1.out.1.keep hb, H1.out.2.1.keep hb, hb⟩)
    go_cut [10, 11, 12] (fun s10 s11 s12 wx => ∃ kk : Nat, s10 = .pointer (some ⟨kk, 0, none⟩) ∧ s11 = .bool r0 ∧ s12 = .int .i64 r1 ∧ BoxL wx kk [.int .i64 x, .int .i64 y] ∧ W1.heap.size ≤ kk ∧ Below W1.heap.size W1 wx)
    case first =>
      go_region_held3 (fun w' => w'.cell? ⟨w.heap.size, 0, none⟩ = some (.int .i64 t) ∧ w'.cell? ⟨w.heap.size, 1, none⟩ = some (.int .i64 u) ∧ w'.cell? ⟨w.heap.size, 2, none⟩ = some (.int .i64 i) ∧ w'.cell? ⟨w.heap.size, 3, none⟩ = some (.int .i64 l) ∧ w'.cell? ⟨w.heap.size, 4, none⟩ = some (.int .i64 m) ∧ w'.cell? ⟨b2, 0, none⟩ = some (.int .i64 e) ∧ w'.cell? ⟨b2, 1, none⟩ = some (.int .i64 k) ∧ w.heap.size < w'.heap.size ∧ b2 < w'.heap.size ∧ Below W1.heap.size W1 w') (first | exact HK.out _ (bR _).drew | exact HK.out _ (bT (EbC.bel (b := w.heap.size) (c := b2) (t := t) (u := u) (i := i) (l := l) (m := m) (e := e) (k := k) (by assumption)) hb) | exact HK.out _ (bA (EbC.bel (b := w.heap.size) (c := b2) (t := t) (u := u) (i := i) (l := l) (m := m) (e := e) (k := k) (by assumption)) _) | exact HK.out _ (bA (Hid.out (by assumption)) _) | ((refine HK.out _ (Below.setCell (Below.setCell (EbC.bel (b := w.heap.size) (c := b2) (t := t) (u := u) (i := i) (l := l) (m := m) (e := e) (k := k) (by assumption)) ?_ _) ?_ _)) <;> (first | omega | (simp; omega) | (simp; done))))
        (first
          | (go_at_call 12; refine (toEscapement_any _ _ _ _ _ _).mono ?_; rintro en x5 ⟨rfl, hb⟩; have hTw := Lib.hid (show Below W1.heap.size W1 x5 from bT (EbC.bel (b := w.heap.size) (c := b2) (t := t) (u := u) (i := i) (l := l) (m := m) (e := e) (k := k) (by assumption)) hb); have hszw := hTw.out.size; first | (have ZB : Hid (BoxL x5 W1.heap.size [.int .i64 0, .int .i64 0]) := Lib.hid (BoxL.keep (BoxL.new W1.drew [.int .i64 0, .int .i64 0] 31) hb); obtain ⟨o0, o1, o2⟩ := ZB.out.c2; obtain ⟨p0, p1⟩ := ZB.out.f2) | (have ZB : Hid (BoxL x5 W1.heap.size [.int .i64 0, .int .i64 0]) := Lib.hid (BoxL.keep (BoxL.keep (BoxL.new W1 [.int .i64 0, .int .i64 0] 31) (bR _).drew) hb); obtain ⟨o0, o1, o2⟩ := ZB.out.c2; obtain ⟨p0, p1⟩ := ZB.out.f2) | (have ZB := Lib.hid (BoxL.keep ZB.out hb); obtain ⟨o0, o1, o2⟩ := ZB.out.c2; obtain ⟨p0, p1⟩ := ZB.out.f2) | (have ZB := Lib.hid (BoxL.keep (BoxL.new _ [.int .i64 0, .int .i64 0] 31) hb); obtain ⟨o0, o1, o2⟩ := ZB.out.c2; obtain ⟨p0, p1⟩ := ZB.out.f2) | skip)
          | (go_at_call 15; refine (toBeat_any _ _ _).mono ?_; rintro en x5 ⟨rfl, hb⟩; have hTw := Lib.hid (show Below W1.heap.size W1 x5 from bT (EbC.bel (b := w.heap.size) (c := b2) (t := t) (u := u) (i := i) (l := l) (m := m) (e := e) (k := k) (by assumption)) hb); have hszw := hTw.out.size; first | (have ZB : Hid (BoxL x5 W1.heap.size [.int .i64 0, .int .i64 0]) := Lib.hid (BoxL.keep (BoxL.new W1.drew [.int .i64 0, .int .i64 0] 31) hb); obtain ⟨o0, o1, o2⟩ := ZB.out.c2; obtain ⟨p0, p1⟩ := ZB.out.f2) | (have ZB : Hid (BoxL x5 W1.heap.size [.int .i64 0, .int .i64 0]) := Lib.hid (BoxL.keep (BoxL.keep (BoxL.new W1 [.int .i64 0, .int .i64 0] 31) (bR _).drew) hb); obtain ⟨o0, o1, o2⟩ := ZB.out.c2; obtain ⟨p0, p1⟩ := ZB.out.f2) | (have ZB := Lib.hid (BoxL.keep ZB.out hb); obtain ⟨o0, o1, o2⟩ := ZB.out.c2; obtain ⟨p0, p1⟩ := ZB.out.f2) | (have ZB := Lib.hid (BoxL.keep (BoxL.new _ [.int .i64 0, .int .i64 0] 31) hb); obtain ⟨o0, o1, o2⟩ := ZB.out.c2; obtain ⟨p0, p1⟩ := ZB.out.f2) | skip)
          | (go_at_call 18; refine (CI.out _).mono ?_; rintro en x5 ⟨rfl, hb⟩; have hTw := Lib.hid (show Below W1.heap.size W1 x5 from bT (EbC.bel (b := w.heap.size) (c := b2) (t := t) (u := u) (i := i) (l := l) (m := m) (e := e) (k := k) (by assumption)) hb); have hszw := hTw.out.size; first | (have ZB : Hid (BoxL x5 W1.heap.size [.int .i64 0, .int .i64 0]) := Lib.hid (BoxL.keep (BoxL.new W1.drew [.int .i64 0, .int .i64 0] 31) hb); obtain ⟨o0, o1, o2⟩ := ZB.out.c2; obtain ⟨p0, p1⟩ := ZB.out.f2) | (have ZB : Hid (BoxL x5 W1.heap.size [.int .i64 0, .int .i64 0]) := Lib.hid (BoxL.keep (BoxL.keep (BoxL.new W1 [.int .i64 0, .int .i64 0] 31) (bR _).drew) hb); obtain ⟨o0, o1, o2⟩ := ZB.out.c2; obtain ⟨p0, p1⟩ := ZB.out.f2) | (have ZB := Lib.hid (BoxL.keep ZB.out hb); obtain ⟨o0, o1, o2⟩ := ZB.out.c2; obtain ⟨p0, p1⟩ := ZB.out.f2) | (have ZB := Lib.hid (BoxL.keep (BoxL.new _ [.int .i64 0, .int .i64 0] 31) hb); obtain ⟨o0, o1, o2⟩ := ZB.out.c2; obtain ⟨p0, p1⟩ := ZB.out.f2) | skip))
      all_goals (go_wp2_with fail; go_meet; refine ⟨_, rfl, rfl, rfl, ?_, ?_, ?_⟩)
      all_goals first
        | exact BoxL.new _ [.int .i64 x, .int .i64 y] _
        | exact bA hTw.out _
        | exact hszw
        | exact (ZB.out.setE (i := 0) (v := .int .i64 x) rfl).setE (i := 1) (v := .int .i64 y) rfl
        | exact Nat.le_refl _
        | omega
        | (refine (hTw.out.setCell (p := ⟨_, 0, none⟩) ?_ _).setCell (p := ⟨_, 1, none⟩) ?_ _ <;> first | exact Nat.le_refl _ | (dsimp only; omega))
    case rest =>
      obtain ⟨k2, rfl, rfl, rfl, hX, hkk, hB⟩ := hcut
      have X2 := Lib.hid (X1.out.keep hB)
      have L2 := Lib.hid (bT H1.out.bel hB)
      clear hB HK CI H1 X1
      generalize wc = W2 at *
      obtain ⟨c0, c1, c2⟩ := X2.out.c2
      obtain ⟨d0, d1, d2⟩ := hX.c2
      clear hX
      go_wp2_with fail
      refine (eqBeat_same _ _ _).mono ?_
      rintro en w3 ⟨rfl, hb⟩
      have L3 := Lib.hid (bT L2.out hb)
      clear hb
      go_wp2_with fail
      go_ret
      exact ⟨rfl, L3.out⟩
end Go.Proofs.Ytlgbkkbaiamapaa

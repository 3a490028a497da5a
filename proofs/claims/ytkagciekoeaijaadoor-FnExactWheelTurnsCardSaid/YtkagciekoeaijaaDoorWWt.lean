/-
  The walk of laws.FnExactWheelTurns.
-/
import Derived.Test.YtkagciekoeaijaaDoorEsZ
import Derived.Test.YtkagciekoeaijaaDoorCarry
namespace Go.Proofs.YtkagciekoeaijaaDoor
open Go.RowKit

theorem BoxL.setE {w : World} {b i : Nat} {vs : List Value} {v u : Value} (h : BoxL w b vs) (hi : vs[i]? = some u) : BoxL (w.setCell ⟨b, i, none⟩ v) b (vs.set i v) := by
  have hl : i < vs.length := by
    by_cases hl : i < vs.length
    · exact hl
    · rw [List.getElem?_eq_none (by omega)] at hi; cases hi
  have c0 := h.c i u hi
  refine ⟨fun j y e => ?_, fun j y e => ?_, by simpa [World.setCell] using h.lt⟩
  · by_cases hj : j = i
    · subst hj
      rw [List.getElem?_set_self hl] at e
      cases e
      simp [go_sem, c0]
    · rw [List.getElem?_set_ne (Ne.symm hj)] at e
      have := h.c j y e
      simp [go_sem, this]
  · by_cases hj : j = i
    · subst hj
      have := h.f j u hi
      simp [go_sem, this]
    · rw [List.getElem?_set_ne (Ne.symm hj)] at e
      have := h.f j y e
      simp [go_sem, this]
set_option maxRecDepth 100000 in
set_option maxHeartbeats 16000000 in
theorem FnExactWheelTurns_walk (t u i l m e k : Int) (w : World) (a0 a1 : Addr) (hS : Sent w a0 a1) :
    Calls Tryd.prog 4 #[.agg #[.int .i64 t, .int .i64 u, .int .i64 i, .int .i64 l, .int .i64 m], .agg #[.int .i64 e, .int .i64 k]] w fun e w' => e = .returned (.bool true) ∧ Below w.heap.size w w' := by
  have HS := Lib.hid hS
  clear hS
  have H0 := Lib.hid (EbH.new w t u i l m e k 45 46)
  have AS := Lib.hid (fun W => WheelTurnsS_any t u i l m e k W)
  have AI := Lib.hid (fun W h => WheelTurnsI_any t u i l m e k W a0 a1 h)
  unfold WtBl at AS AI
  generalize wtE t u i l m e k = R at *
  obtain ⟨x, y, c⟩ := R
  simp only at AS AI
  have n1 : (c != c) = false := by simp
  go_enter Tryd.func4, Tryd.ntmps4
  go_upto_region 1 with fail
  have H0B := H0
  generalize (w.alloc (.cells #[.int .i64 t, .int .i64 u, .int .i64 i, .int .i64 l, .int .i64 m] 45)).alloc (.cells #[.int .i64 e, .int .i64 k] 46) = W0 at *
  generalize w.heap.size + 1 = b2 at *
  have CS := Lib.hid (fun W (_ : Below W0.heap.size W0 W) => AS.out W)
  have HK := Lib.hid (fun (w' : World) (hb : Below W0.heap.size W0 w') => show EbC W0 w.heap.size b2 t u i l m e k w' from EbC.of ⟨H0.out.1.keep hb, H0.out.2.1.keep hb, hb⟩)
  go_cut [5, 6] (fun s5 s6 wx => ∃ kk : Nat, s5 = .pointer (some ⟨kk, 0, none⟩) ∧ s6 = .int .i64 c ∧ BoxL wx kk [.int .i64 x, .int .i64 y] ∧ W0.heap.size ≤ kk ∧ Below W0.heap.size W0 wx)
  case first =>
    go_region_held3 (fun w' => w'.cell? ⟨w.heap.size, 0, none⟩ = some (.int .i64 t) ∧ w'.cell? ⟨w.heap.size, 1, none⟩ = some (.int .i64 u) ∧ w'.cell? ⟨w.heap.size, 2, none⟩ = some (.int .i64 i) ∧ w'.cell? ⟨w.heap.size, 3, none⟩ = some (.int .i64 l) ∧ w'.cell? ⟨w.heap.size, 4, none⟩ = some (.int .i64 m) ∧ w'.cell? ⟨b2, 0, none⟩ = some (.int .i64 e) ∧ w'.cell? ⟨b2, 1, none⟩ = some (.int .i64 k) ∧ w.heap.size < w'.heap.size ∧ b2 < w'.heap.size ∧ Below W0.heap.size W0 w') (first | exact HK.out _ (bR _).drew | exact HK.out _ (bA (bR _) _).drew | exact HK.out _ (bT (EbC.bel (w := W0) (b := w.heap.size) (c := b2) (t := t) (u := u) (i := i) (l := l) (m := m) (e := e) (k := k) (by assumption)) hb) | exact HK.out _ (bA (EbC.bel (w := W0) (b := w.heap.size) (c := b2) (t := t) (u := u) (i := i) (l := l) (m := m) (e := e) (k := k) (by assumption)) _) | exact HK.out _ (bA (Hid.out (by assumption)) _) | ((refine HK.out _ (Below.setCell (Below.setCell (EbC.bel (w := W0) (b := w.heap.size) (c := b2) (t := t) (u := u) (i := i) (l := l) (m := m) (e := e) (k := k) (by assumption)) ?_ _) ?_ _)) <;> (first | omega | (simp; omega) | (simp; done))))
      (first
        | (go_at_call 17; refine (toEscapement_any _ _ _ _ _ _).mono ?_; rintro en x5 ⟨rfl, hb⟩; have hTw := Lib.hid (show Below W0.heap.size W0 x5 from bT (EbC.bel (w := W0) (b := w.heap.size) (c := b2) (t := t) (u := u) (i := i) (l := l) (m := m) (e := e) (k := k) (by assumption)) hb); have hszw := hTw.out.size; first | (have ZB : Hid (BoxL x5 W0.heap.size [.int .i64 0, .int .i64 0]) := Lib.hid (BoxL.keep (BoxL.new W0.drew [.int .i64 0, .int .i64 0] 41) hb); obtain ⟨o0, o1, o2⟩ := ZB.out.c2; obtain ⟨p0, p1⟩ := ZB.out.f2) | (have ZB : Hid (BoxL x5 W0.heap.size [.int .i64 0, .int .i64 0]) := Lib.hid (BoxL.keep (BoxL.keep (BoxL.new W0 [.int .i64 0, .int .i64 0] 41) (bR _).drew) hb); obtain ⟨o0, o1, o2⟩ := ZB.out.c2; obtain ⟨p0, p1⟩ := ZB.out.f2) | (have ZB := Lib.hid (BoxL.keep ZB.out hb); obtain ⟨o0, o1, o2⟩ := ZB.out.c2; obtain ⟨p0, p1⟩ := ZB.out.f2) | (have ZB := Lib.hid (BoxL.keep (BoxL.new _ [.int .i64 0, .int .i64 0] 41) hb); obtain ⟨o0, o1, o2⟩ := ZB.out.c2; obtain ⟨p0, p1⟩ := ZB.out.f2) | skip)
        | (go_at_call 18; refine (toBeat_any _ _ _).mono ?_; rintro en x5 ⟨rfl, hb⟩; have hTw := Lib.hid (show Below W0.heap.size W0 x5 from bT (EbC.bel (w := W0) (b := w.heap.size) (c := b2) (t := t) (u := u) (i := i) (l := l) (m := m) (e := e) (k := k) (by assumption)) hb); have hszw := hTw.out.size; first | (have ZB : Hid (BoxL x5 W0.heap.size [.int .i64 0, .int .i64 0]) := Lib.hid (BoxL.keep (BoxL.new W0.drew [.int .i64 0, .int .i64 0] 41) hb); obtain ⟨o0, o1, o2⟩ := ZB.out.c2; obtain ⟨p0, p1⟩ := ZB.out.f2) | (have ZB : Hid (BoxL x5 W0.heap.size [.int .i64 0, .int .i64 0]) := Lib.hid (BoxL.keep (BoxL.keep (BoxL.new W0 [.int .i64 0, .int .i64 0] 41) (bR _).drew) hb); obtain ⟨o0, o1, o2⟩ := ZB.out.c2; obtain ⟨p0, p1⟩ := ZB.out.f2) | (have ZB := Lib.hid (BoxL.keep ZB.out hb); obtain ⟨o0, o1, o2⟩ := ZB.out.c2; obtain ⟨p0, p1⟩ := ZB.out.f2) | (have ZB := Lib.hid (BoxL.keep (BoxL.new _ [.int .i64 0, .int .i64 0] 41) hb); obtain ⟨o0, o1, o2⟩ := ZB.out.c2; obtain ⟨p0, p1⟩ := ZB.out.f2) | skip)
        | (go_at_call 15; refine (CS.out _ (by first | exact (EbC.bel (w := W0) (b := w.heap.size) (c := b2) (t := t) (u := u) (i := i) (l := l) (m := m) (e := e) (k := k) (by assumption)) | exact bA (bR _) _ | exact (bR _).drew | exact bA (EbC.bel (w := W0) (b := w.heap.size) (c := b2) (t := t) (u := u) (i := i) (l := l) (m := m) (e := e) (k := k) (by assumption)) _ | exact bA (bR _).drew _ | exact (bA (bR _) _).drew)).mono ?_; rintro en x5 ⟨rfl, hb⟩; have hTw := Lib.hid (show Below W0.heap.size W0 x5 from bT (EbC.bel (w := W0) (b := w.heap.size) (c := b2) (t := t) (u := u) (i := i) (l := l) (m := m) (e := e) (k := k) (by assumption)) hb); have hszw := hTw.out.size; first | (have ZB : Hid (BoxL x5 W0.heap.size [.int .i64 0, .int .i64 0]) := Lib.hid (BoxL.keep (BoxL.new W0.drew [.int .i64 0, .int .i64 0] 41) hb); obtain ⟨o0, o1, o2⟩ := ZB.out.c2; obtain ⟨p0, p1⟩ := ZB.out.f2) | (have ZB : Hid (BoxL x5 W0.heap.size [.int .i64 0, .int .i64 0]) := Lib.hid (BoxL.keep (BoxL.keep (BoxL.new W0 [.int .i64 0, .int .i64 0] 41) (bR _).drew) hb); obtain ⟨o0, o1, o2⟩ := ZB.out.c2; obtain ⟨p0, p1⟩ := ZB.out.f2) | (have ZB := Lib.hid (BoxL.keep ZB.out hb); obtain ⟨o0, o1, o2⟩ := ZB.out.c2; obtain ⟨p0, p1⟩ := ZB.out.f2) | (have ZB := Lib.hid (BoxL.keep (BoxL.new _ [.int .i64 0, .int .i64 0] 41) hb); obtain ⟨o0, o1, o2⟩ := ZB.out.c2; obtain ⟨p0, p1⟩ := ZB.out.f2) | skip))
    all_goals (go_wp2_with fail; go_meet; refine ⟨_, rfl, rfl, ?_, ?_, ?_⟩)
    all_goals first
      | exact BoxL.new _ [.int .i64 x, .int .i64 y] _
      | exact bA hTw.out _
      | exact hszw
      | exact (ZB.out.setE (i := 0) (v := .int .i64 x) rfl).setE (i := 1) (v := .int .i64 y) rfl
      | exact Nat.le_refl _
      | omega
      | (refine (hTw.out.setCell (p := ⟨_, 0, none⟩) ?_ _).setCell (p := ⟨_, 1, none⟩) ?_ _ <;> first | exact Nat.le_refl _ | (dsimp only; omega))
  case rest =>
    obtain ⟨k5, rfl, rfl, hX, hkk, hB⟩ := hcut
    have X1 := Lib.hid hX
    have H1 := Lib.hid (H0.out.keep hB)
    clear hX hB HK CS H0 H0B hkk
    generalize wc = w1 at *
    have CI := Lib.hid (fun W (hb : Below w1.heap.size w1 W) => AI.out W (HS.out.keep (bT H1.out.bel hb)))
    go_upto_region 2 with fail
    have HK := Lib.hid (fun (w' : World) (hb : Below w1.heap.size w1 w') => show EbC w1 w.heap.size b2 t u i l m e k w' from EbC.of ⟨H1.out.1.keep hb, H1.out.2.1.keep hb, hb⟩)
    go_cut [7, 8] (fun s7 s8 wx => ∃ kk : Nat, s7 = .pointer (some ⟨kk, 0, none⟩) ∧ s8 = .int .i64 c ∧ BoxL wx kk [.int .i64 x, .int .i64 y] ∧ w1.heap.size ≤ kk ∧ Below w1.heap.size w1 wx)
    case first =>
      go_region_held3 (fun w' => w'.cell? ⟨w.heap.size, 0, none⟩ = some (.int .i64 t) ∧ w'.cell? ⟨w.heap.size, 1, none⟩ = some (.int .i64 u) ∧ w'.cell? ⟨w.heap.size, 2, none⟩ = some (.int .i64 i) ∧ w'.cell? ⟨w.heap.size, 3, none⟩ = some (.int .i64 l) ∧ w'.cell? ⟨w.heap.size, 4, none⟩ = some (.int .i64 m) ∧ w'.cell? ⟨b2, 0, none⟩ = some (.int .i64 e) ∧ w'.cell? ⟨b2, 1, none⟩ = some (.int .i64 k) ∧ w.heap.size < w'.heap.size ∧ b2 < w'.heap.size ∧ Below w1.heap.size w1 w') (first | exact HK.out _ (bR _).drew | exact HK.out _ (bA (bR _) _).drew | exact HK.out _ (bT (EbC.bel (w := w1) (b := w.heap.size) (c := b2) (t := t) (u := u) (i := i) (l := l) (m := m) (e := e) (k := k) (by assumption)) hb) | exact HK.out _ (bA (EbC.bel (w := w1) (b := w.heap.size) (c := b2) (t := t) (u := u) (i := i) (l := l) (m := m) (e := e) (k := k) (by assumption)) _) | exact HK.out _ (bA (Hid.out (by assumption)) _) | ((refine HK.out _ (Below.setCell (Below.setCell (EbC.bel (w := w1) (b := w.heap.size) (c := b2) (t := t) (u := u) (i := i) (l := l) (m := m) (e := e) (k := k) (by assumption)) ?_ _) ?_ _)) <;> (first | omega | (simp; omega) | (simp; done))))
        (first
          | (go_at_call 17; refine (toEscapement_any _ _ _ _ _ _).mono ?_; rintro en x5 ⟨rfl, hb⟩; have hTw := Lib.hid (show Below w1.heap.size w1 x5 from bT (EbC.bel (w := w1) (b := w.heap.size) (c := b2) (t := t) (u := u) (i := i) (l := l) (m := m) (e := e) (k := k) (by assumption)) hb); have hszw := hTw.out.size; first | (have ZB : Hid (BoxL x5 w1.heap.size [.int .i64 0, .int .i64 0]) := Lib.hid (BoxL.keep (BoxL.new w1.drew [.int .i64 0, .int .i64 0] 41) hb); obtain ⟨o0, o1, o2⟩ := ZB.out.c2; obtain ⟨p0, p1⟩ := ZB.out.f2) | (have ZB : Hid (BoxL x5 w1.heap.size [.int .i64 0, .int .i64 0]) := Lib.hid (BoxL.keep (BoxL.keep (BoxL.new w1 [.int .i64 0, .int .i64 0] 41) (bR _).drew) hb); obtain ⟨o0, o1, o2⟩ := ZB.out.c2; obtain ⟨p0, p1⟩ := ZB.out.f2) | (have ZB := Lib.hid (BoxL.keep ZB.out hb); obtain ⟨o0, o1, o2⟩ := ZB.out.c2; obtain ⟨p0, p1⟩ := ZB.out.f2) | (have ZB := Lib.hid (BoxL.keep (BoxL.new _ [.int .i64 0, .int .i64 0] 41) hb); obtain ⟨o0, o1, o2⟩ := ZB.out.c2; obtain ⟨p0, p1⟩ := ZB.out.f2) | skip)
          | (go_at_call 18; refine (toBeat_any _ _ _).mono ?_; rintro en x5 ⟨rfl, hb⟩; have hTw := Lib.hid (show Below w1.heap.size w1 x5 from bT (EbC.bel (w := w1) (b := w.heap.size) (c := b2) (t := t) (u := u) (i := i) (l := l) (m := m) (e := e) (k := k) (by assumption)) hb); have hszw := hTw.out.size; first | (have ZB : Hid (BoxL x5 w1.heap.size [.int .i64 0, .int .i64 0]) := Lib.hid (BoxL.keep (BoxL.new w1.drew [.int .i64 0, .int .i64 0] 41) hb); obtain ⟨o0, o1, o2⟩ := ZB.out.c2; obtain ⟨p0, p1⟩ := ZB.out.f2) | (have ZB : Hid (BoxL x5 w1.heap.size [.int .i64 0, .int .i64 0]) := Lib.hid (BoxL.keep (BoxL.keep (BoxL.new w1 [.int .i64 0, .int .i64 0] 41) (bR _).drew) hb); obtain ⟨o0, o1, o2⟩ := ZB.out.c2; obtain ⟨p0, p1⟩ := ZB.out.f2) | (have ZB := Lib.hid (BoxL.keep ZB.out hb); obtain ⟨o0, o1, o2⟩ := ZB.out.c2; obtain ⟨p0, p1⟩ := ZB.out.f2) | (have ZB := Lib.hid (BoxL.keep (BoxL.new _ [.int .i64 0, .int .i64 0] 41) hb); obtain ⟨o0, o1, o2⟩ := ZB.out.c2; obtain ⟨p0, p1⟩ := ZB.out.f2) | skip)
          | (go_at_call 14; refine (CI.out _ (by first | exact (EbC.bel (w := w1) (b := w.heap.size) (c := b2) (t := t) (u := u) (i := i) (l := l) (m := m) (e := e) (k := k) (by assumption)) | exact bA (bR _) _ | exact (bR _).drew | exact bA (EbC.bel (w := w1) (b := w.heap.size) (c := b2) (t := t) (u := u) (i := i) (l := l) (m := m) (e := e) (k := k) (by assumption)) _ | exact bA (bR _).drew _ | exact (bA (bR _) _).drew)).mono ?_; rintro en x5 ⟨rfl, hb⟩; have hTw := Lib.hid (show Below w1.heap.size w1 x5 from bT (EbC.bel (w := w1) (b := w.heap.size) (c := b2) (t := t) (u := u) (i := i) (l := l) (m := m) (e := e) (k := k) (by assumption)) hb); have hszw := hTw.out.size; first | (have ZB : Hid (BoxL x5 w1.heap.size [.int .i64 0, .int .i64 0]) := Lib.hid (BoxL.keep (BoxL.new w1.drew [.int .i64 0, .int .i64 0] 41) hb); obtain ⟨o0, o1, o2⟩ := ZB.out.c2; obtain ⟨p0, p1⟩ := ZB.out.f2) | (have ZB : Hid (BoxL x5 w1.heap.size [.int .i64 0, .int .i64 0]) := Lib.hid (BoxL.keep (BoxL.keep (BoxL.new w1 [.int .i64 0, .int .i64 0] 41) (bR _).drew) hb); obtain ⟨o0, o1, o2⟩ := ZB.out.c2; obtain ⟨p0, p1⟩ := ZB.out.f2) | (have ZB := Lib.hid (BoxL.keep ZB.out hb); obtain ⟨o0, o1, o2⟩ := ZB.out.c2; obtain ⟨p0, p1⟩ := ZB.out.f2) | (have ZB := Lib.hid (BoxL.keep (BoxL.new _ [.int .i64 0, .int .i64 0] 41) hb); obtain ⟨o0, o1, o2⟩ := ZB.out.c2; obtain ⟨p0, p1⟩ := ZB.out.f2) | skip))
      all_goals (go_wp2_with fail; go_meet; refine ⟨_, rfl, rfl, ?_, ?_, ?_⟩)
      all_goals first
        | exact BoxL.new _ [.int .i64 x, .int .i64 y] _
        | exact bA hTw.out _
        | exact hszw
        | exact (ZB.out.setE (i := 0) (v := .int .i64 x) rfl).setE (i := 1) (v := .int .i64 y) rfl
        | exact Nat.le_refl _
        | omega
        | (refine (hTw.out.setCell (p := ⟨_, 0, none⟩) ?_ _).setCell (p := ⟨_, 1, none⟩) ?_ _ <;> first | exact Nat.le_refl _ | (dsimp only; omega))
    case rest =>
      obtain ⟨k7, rfl, rfl, hY, hkk, hB⟩ := hcut
      have X2 := Lib.hid (X1.out.keep hB)
      have L2 := Lib.hid (bT H1.out.bel hB)
      obtain ⟨x0, x1, x2⟩ := X2.out.c2
      obtain ⟨y0, y1, y2⟩ := hY.c2
      clear hB HK CI X1 H1 hkk
      go_wp2_with fail
      refine (eqRatio_same _ _ _).mono ?_
      rintro en w4 ⟨rfl, hb⟩
      go_wp2_with fail
      go_ret
      exact ⟨rfl, bT L2.out hb⟩
end Go.Proofs.YtkagciekoeaijaaDoor

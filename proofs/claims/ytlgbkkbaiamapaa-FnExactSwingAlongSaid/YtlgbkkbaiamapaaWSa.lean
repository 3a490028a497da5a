/-
  The walk of laws.FnExactSwingAlong.
-/
import Derived.Test.YtlgbkkbaiamapaaEsAS
import Derived.Test.YtlgbkkbaiamapaaEsC
import Derived.Test.YtlgbkkbaiamapaaTo64
namespace Go.Proofs.Ytlgbkkbaiamapaa
open Go.RowKit

theorem BoxL.grownL {w w' : World} {b : Nat} {vs : List Value} {row : Option Nat} (h : BoxL w b vs) (g : w.grownBy w' row) (hn : some b ≠ row) : BoxL w' b vs := by
  have e := g.block b h.lt hn
  refine ⟨fun i x hi => ?_, fun i x hi => ?_, Nat.lt_of_lt_of_le h.lt g.size⟩
  · have := h.c i x hi
    unfold World.cell? at this ⊢
    simpa [e] using this
  · have := h.f i x hi
    unfold World.frozen? at this ⊢
    simpa [e] using this
theorem Sl64.grownL {W W' : World} {v : Value} {ts : List Int} {row : Option Nat} (h : Sl64 W v ts) (g : W.grownBy W' row) (hn : ∀ k, v.ownBlock = some k → some k ≠ row) : Sl64 W' v ts := by
  obtain ⟨ao, cap, e, h1⟩ := h
  refine ⟨ao, cap, e, fun hl => ?_⟩
  obtain ⟨b, eg, hg, hc⟩ := h1 hl
  have e2 := g.block b hg (hn b (by rw [e, eg]; rfl))
  refine ⟨b, eg, Nat.lt_of_lt_of_le hg g.size, fun i hi => ?_⟩
  have := hc i hi
  unfold World.cell? at this ⊢
  simpa [e2] using this
theorem ownL {W W' : World} {B : Nat} {t : TypeId} {sz n : Nat} {v : Value} {xs : List Value} {row : Option Nat} (h : W.ownsRow B t sz v n xs) (g : W.grownBy W' row) (hne : ∀ k, v.ownBlock = some k → some k ≠ row) : W'.ownsRow B t sz v n xs := by
  refine ⟨h.1, ?_⟩
  rcases h.2 with h0 | ⟨g', cap, cur, h0, hB, hh, r⟩
  · exact .inl h0
  · exact .inr ⟨g', cap, cur, h0, hB, (g.block g' (Array.getElem?_eq_some_iff.1 hh).1 (fun e => hne g' (by rw [h0]; rfl) e)).trans hh, r⟩
theorem belL {a b c : World} {row : Option Nat} (h : Below a.heap.size a b) (g : b.grownBy c row) (hr : ∀ r, row = some r → a.heap.size ≤ r) : Below a.heap.size a c :=
  ⟨g.os.trans h.os, g.tape.trans h.tape, g.output.trans h.output, Nat.le_trans h.size g.size, fun k hk => (g.block k (Nat.lt_of_lt_of_le hk h.size) (fun e => by have := hr k e.symm; omega)).trans (h.block k hk)⟩
theorem IsRow.keepL {k : IntKind} {w w' : World} {a : Option Addr} {len cap : Nat} {zs : List Int} (h : IsRow k w a len cap zs) (hb : Below w.heap.size w w') : IsRow k w' a len cap zs := IsRow.keep h hb
theorem toInt_ex (a : Option Addr) (len cap : Nat) (zs : List Int) (w : World) (h : IsRow .i64 w a len cap zs) (hlen : len ≤ 1048576) :
    Calls Try.prog 23 #[.slice a len cap] w fun en w' => ∃ v, en = .returned v ∧ Sl64 w' v (zs.take len) ∧ Below w.heap.size w w' :=
  (toInt64S_any a len cap zs w h hlen).mono fun _ _ ⟨he, hr, hb⟩ => ⟨_, he, sl64_of hr, hb⟩
theorem toInt_own (a : Option Addr) (len cap : Nat) (zs : List Int) (w : World) (h : IsRow .i64 w a len cap zs) (hlen : len ≤ 1048576) :
    Calls Try.prog 23 #[.slice a len cap] w fun en w' => ∃ v, en = .returned v ∧ w'.ownsRow w.heap.size 2 1 v (zs.take len).length (intC (zs.take len)) ∧ Below w.heap.size w w' :=
  (toInt64S_any a len cap zs w h hlen).mono fun _ _ ⟨he, hr, hb⟩ => ⟨_, he, hr, hb⟩
theorem alF_len {u i l m : Int} : ∀ {qs : List Int} {e k j : Int} {ms : List Int} {r : Int × Int × List Int}, alF u i l m qs e k j ms = some r → r.2.2.length ≤ ms.length + qs.length
  | [], e, k, j, ms, r, h => by cases h; simp
  | q :: qs, e, k, j, ms, r, h => by
    cases ht : tkS u l q e
    · rw [alF_miss ht] at h
      have := alF_len h
      simp at this ⊢; omega
    · by_cases hk : k = 1000000000
      · rw [alF_full ht hk] at h; cases h
      · rw [alF_tick ht hk] at h
        have := alF_len h
        simp; omega
theorem saE_len (t u i l m : Int) (qs : List Int) (e k : Int) : (saE t u i l m qs e k).2.2.1.length ≤ qs.length := by
  unfold saE
  split
  · split
    · cases h : alF u i l m qs e k 0 [] with
      | none => simp
      | some r => have := alF_len h; simpa using this
    · simp
  · simp
set_option maxRecDepth 100000 in
set_option maxHeartbeats 16000000 in
theorem FnExactSwingAlong_walk (t u i l m : Int) (a : Option Addr) (len cap : Nat) (zs : List Int) (e k : Int) (w : World) (h : IsRow .i64 w a len cap zs) :
    Calls Try.prog 7 #[.agg #[.int .i64 t, .int .i64 u, .int .i64 i, .int .i64 l, .int .i64 m], .slice a len cap, .agg #[.int .i64 e, .int .i64 k]] w fun e w' => e = .returned (.bool true) ∧ Below w.heap.size w w' := by
  have HI := Lib.hid h
  have H0 := Lib.hid (EbH.new w t u i l m e k 23 29)
  have l3 := (row64_of h).2.1
  clear h
  by_cases hlen : len ≤ 1048576
  case neg =>
    have hgt : (1048576 : Int) < (len : Int) := by omega
    go_enter Try.func7, Try.ntmps7
    go_wp2_with fail
    go_ret
    exact ⟨rfl, H0.out.bel⟩
  have hgt : ¬ (1048576 : Int) < (len : Int) := by omega
  have CS := Lib.hid (fun v W (h : Sl64 W v (zs.take len)) => SwingAlongS_any t u i l m e k (zs.take len) v W h (by omega))
  have CI := Lib.hid (fun v W (h : Sl64 W v (zs.take len)) => SwingAlongI_any t u i l m e k (zs.take len) v W h (by omega))
  have hml := saE_len t u i l m (zs.take len) e k
  rw [l3] at hml
  unfold SaP at CS CI
  generalize saE t u i l m (zs.take len) e k = R at *
  obtain ⟨x, y, ms, c⟩ := R
  simp only at CS CI hml
  have n1 : (c != c) = false := by simp
  have hne2 : ((1 : Int) + (ms.length : Int) != 1 + (ms.length : Int)) = false := by simp
  have hn1 : ¬ (1 : Int) + (ms.length : Int) < 0 := by omega
  have hn2 : ¬ (1 : Int) + (len : Int) < 0 := by omega
  go_enter Try.func7, Try.ntmps7
  go_upto_region 3 with fail
  have H0B := H0
  generalize (w.alloc (.cells #[.int .i64 t, .int .i64 u, .int .i64 i, .int .i64 l, .int .i64 m] 23)).alloc (.cells #[.int .i64 e, .int .i64 k] 29) = W0 at *
  generalize w.heap.size + 1 = b2 at *
  have HK := Lib.hid (fun (w' : World) (hb : Below W0.heap.size W0 w') => show EbC W0 w.heap.size b2 t u i l m e k w' from EbC.of ⟨H0.out.1.keep hb, H0.out.2.1.keep hb, hb⟩)
  go_cut [7, 8, 9] (fun s7 s8 s9 wx => ∃ (kk : Nat) (vv : Value), s7 = .pointer (some ⟨kk, 0, none⟩) ∧ vv = s8 ∧ s9 = .int .i64 c ∧ BoxL wx kk [.int .i64 x, .int .i64 y] ∧ wx.ownsRow W0.heap.size 2 1 vv ms.length (intC ms) ∧ W0.heap.size ≤ kk ∧ Below W0.heap.size W0 wx)
  case first =>
    go_region_held3 (fun w' => w'.cell? ⟨w.heap.size, 0, none⟩ = some (.int .i64 t) ∧ w'.cell? ⟨w.heap.size, 1, none⟩ = some (.int .i64 u) ∧ w'.cell? ⟨w.heap.size, 2, none⟩ = some (.int .i64 i) ∧ w'.cell? ⟨w.heap.size, 3, none⟩ = some (.int .i64 l) ∧ w'.cell? ⟨w.heap.size, 4, none⟩ = some (.int .i64 m) ∧ w'.cell? ⟨b2, 0, none⟩ = some (.int .i64 e) ∧ w'.cell? ⟨b2, 1, none⟩ = some (.int .i64 k) ∧ w.heap.size < w'.heap.size ∧ b2 < w'.heap.size ∧ Below W0.heap.size W0 w') (first | exact HK.out _ (bR _).drew | exact HK.out _ (bA (bR _) _).drew | exact HK.out _ (bT (EbC.bel (w := W0) (b := w.heap.size) (c := b2) (t := t) (u := u) (i := i) (l := l) (m := m) (e := e) (k := k) (by assumption)) hb) | exact HK.out _ (bA (EbC.bel (w := W0) (b := w.heap.size) (c := b2) (t := t) (u := u) (i := i) (l := l) (m := m) (e := e) (k := k) (by assumption)) _) | exact HK.out _ (bA (Hid.out (by assumption)) _) | ((refine HK.out _ (Below.setCell (Below.setCell (EbC.bel (w := W0) (b := w.heap.size) (c := b2) (t := t) (u := u) (i := i) (l := l) (m := m) (e := e) (k := k) (by assumption)) ?_ _) ?_ _)) <;> (first | omega | (simp; omega) | (simp; done))))
      (first
        | (go_at_call 12; refine (toEscapement_any _ _ _ _ _ _).mono ?_; rintro en x5 ⟨rfl, hb⟩; have hTw := Lib.hid (show Below W0.heap.size W0 x5 from bT (EbC.bel (w := W0) (b := w.heap.size) (c := b2) (t := t) (u := u) (i := i) (l := l) (m := m) (e := e) (k := k) (by assumption)) hb); have hszw := hTw.out.size; first | (have ZB : Hid (BoxL x5 W0.heap.size [.int .i64 0, .int .i64 0]) := Lib.hid (BoxL.keep (BoxL.new W0.drew [.int .i64 0, .int .i64 0] 31) hb); obtain ⟨o0, o1, o2⟩ := ZB.out.c2; obtain ⟨p0, p1⟩ := ZB.out.f2) | (have ZB : Hid (BoxL x5 W0.heap.size [.int .i64 0, .int .i64 0]) := Lib.hid (BoxL.keep (BoxL.keep (BoxL.new W0 [.int .i64 0, .int .i64 0] 31) (bR _).drew) hb); obtain ⟨o0, o1, o2⟩ := ZB.out.c2; obtain ⟨p0, p1⟩ := ZB.out.f2) | (have ZB := Lib.hid (BoxL.keep ZB.out hb); obtain ⟨o0, o1, o2⟩ := ZB.out.c2; obtain ⟨p0, p1⟩ := ZB.out.f2) | (have ZB := Lib.hid (BoxL.keep (BoxL.new _ [.int .i64 0, .int .i64 0] 31) hb); obtain ⟨o0, o1, o2⟩ := ZB.out.c2; obtain ⟨p0, p1⟩ := ZB.out.f2) | skip)
        | (go_at_call 23; refine (toInt_ex a len cap zs _ (IsRow.keep HI.out (bT H0B.out.2.2 (EbC.bel (w := W0) (b := w.heap.size) (c := b2) (t := t) (u := u) (i := i) (l := l) (m := m) (e := e) (k := k) (by assumption)))) hlen).mono ?_; rintro en x5 ⟨vr, rfl, hsl, hb⟩; have HSL := Lib.hid hsl; have hTw := Lib.hid (show Below W0.heap.size W0 x5 from bT (EbC.bel (w := W0) (b := w.heap.size) (c := b2) (t := t) (u := u) (i := i) (l := l) (m := m) (e := e) (k := k) (by assumption)) hb); have hszw := hTw.out.size; first | (have ZB : Hid (BoxL x5 W0.heap.size [.int .i64 0, .int .i64 0]) := Lib.hid (BoxL.keep (BoxL.new W0.drew [.int .i64 0, .int .i64 0] 31) hb); obtain ⟨o0, o1, o2⟩ := ZB.out.c2; obtain ⟨p0, p1⟩ := ZB.out.f2) | (have ZB : Hid (BoxL x5 W0.heap.size [.int .i64 0, .int .i64 0]) := Lib.hid (BoxL.keep (BoxL.keep (BoxL.new W0 [.int .i64 0, .int .i64 0] 31) (bR _).drew) hb); obtain ⟨o0, o1, o2⟩ := ZB.out.c2; obtain ⟨p0, p1⟩ := ZB.out.f2) | (have ZB := Lib.hid (BoxL.keep ZB.out hb); obtain ⟨o0, o1, o2⟩ := ZB.out.c2; obtain ⟨p0, p1⟩ := ZB.out.f2) | (have ZB := Lib.hid (BoxL.keep (BoxL.new _ [.int .i64 0, .int .i64 0] 31) hb); obtain ⟨o0, o1, o2⟩ := ZB.out.c2; obtain ⟨p0, p1⟩ := ZB.out.f2) | skip)
        | (go_at_call 15; refine (toBeat_any _ _ _).mono ?_; rintro en x5 ⟨rfl, hb⟩; (first | (have HSL := Lib.hid (HSL.out.keep hb)) | (have HSL := Lib.hid ((HSL.out.keep (bA (bR _) _)).keep hb)) | skip); have hTw := Lib.hid (show Below W0.heap.size W0 x5 from bT (EbC.bel (w := W0) (b := w.heap.size) (c := b2) (t := t) (u := u) (i := i) (l := l) (m := m) (e := e) (k := k) (by assumption)) hb); have hszw := hTw.out.size; first | (have ZB : Hid (BoxL x5 W0.heap.size [.int .i64 0, .int .i64 0]) := Lib.hid (BoxL.keep (BoxL.new W0.drew [.int .i64 0, .int .i64 0] 31) hb); obtain ⟨o0, o1, o2⟩ := ZB.out.c2; obtain ⟨p0, p1⟩ := ZB.out.f2) | (have ZB : Hid (BoxL x5 W0.heap.size [.int .i64 0, .int .i64 0]) := Lib.hid (BoxL.keep (BoxL.keep (BoxL.new W0 [.int .i64 0, .int .i64 0] 31) (bR _).drew) hb); obtain ⟨o0, o1, o2⟩ := ZB.out.c2; obtain ⟨p0, p1⟩ := ZB.out.f2) | (have ZB := Lib.hid (BoxL.keep ZB.out hb); obtain ⟨o0, o1, o2⟩ := ZB.out.c2; obtain ⟨p0, p1⟩ := ZB.out.f2) | (have ZB := Lib.hid (BoxL.keep (BoxL.new _ [.int .i64 0, .int .i64 0] 31) hb); obtain ⟨o0, o1, o2⟩ := ZB.out.c2; obtain ⟨p0, p1⟩ := ZB.out.f2) | skip)
        | (go_at_call 22; refine (CS.out _ _ (by first | exact HSL.out | exact (HSL.out).keep (bA (bR _) _))).mono ?_; rintro en x5 ⟨vms, rfl, hrw, hb⟩; have HNB := Lib.hid (fun (r : Nat) (e : vms.ownBlock = some r) => (own_blk hrw r e).1); have HRW := Lib.hid (own_lower hrw (Below.size (EbC.bel (w := W0) (b := w.heap.size) (c := b2) (t := t) (u := u) (i := i) (l := l) (m := m) (e := e) (k := k) (by assumption)))); have hTw := Lib.hid (show Below W0.heap.size W0 x5 from bT (EbC.bel (w := W0) (b := w.heap.size) (c := b2) (t := t) (u := u) (i := i) (l := l) (m := m) (e := e) (k := k) (by assumption)) hb); have hszw := hTw.out.size; first | (have ZB : Hid (BoxL x5 W0.heap.size [.int .i64 0, .int .i64 0]) := Lib.hid (BoxL.keep (BoxL.new W0.drew [.int .i64 0, .int .i64 0] 31) hb); obtain ⟨o0, o1, o2⟩ := ZB.out.c2; obtain ⟨p0, p1⟩ := ZB.out.f2) | (have ZB : Hid (BoxL x5 W0.heap.size [.int .i64 0, .int .i64 0]) := Lib.hid (BoxL.keep (BoxL.keep (BoxL.new W0 [.int .i64 0, .int .i64 0] 31) (bR _).drew) hb); obtain ⟨o0, o1, o2⟩ := ZB.out.c2; obtain ⟨p0, p1⟩ := ZB.out.f2) | (have ZB := Lib.hid (BoxL.keep ZB.out hb); obtain ⟨o0, o1, o2⟩ := ZB.out.c2; obtain ⟨p0, p1⟩ := ZB.out.f2) | (have ZB := Lib.hid (BoxL.keep (BoxL.new _ [.int .i64 0, .int .i64 0] 31) hb); obtain ⟨o0, o1, o2⟩ := ZB.out.c2; obtain ⟨p0, p1⟩ := ZB.out.f2) | skip))
    all_goals (go_wp2_with fail; go_meet; refine ⟨_, _, rfl, rfl, rfl, ?_, ?_, ?_, ?_⟩)
    all_goals first
      | exact BoxL.new _ [.int .i64 x, .int .i64 y] _
      | exact own_keep HRW.out (bA (bR _) _)
      | exact ownsRow_setCell_other (ownsRow_setCell_other HRW.out (fun e => by have h1 := HNB.out _ e; (try simp at h1); omega) _) (fun e => by have h1 := HNB.out _ e; (try simp at h1); omega) _
      | exact bA hTw.out _
      | exact hszw
      | exact (ZB.out.setE (i := 0) (v := .int .i64 x) rfl).setE (i := 1) (v := .int .i64 y) rfl
      | exact Nat.le_refl _
      | omega
      | (refine (hTw.out.setCell (p := ⟨_, 0, none⟩) ?_ _).setCell (p := ⟨_, 1, none⟩) ?_ _ <;> first | exact Nat.le_refl _ | (dsimp only; omega))
  case rest =>
    obtain ⟨k7, vw, rfl, rfl, rfl, hX, hR, hkk, hB⟩ := hcut
    have X1 := Lib.hid hX
    have W1 := Lib.hid (sl64_of hR)
    have FW := Lib.hid (fun (r : Nat) (e : vw.ownBlock = some r) => (own_blk hR r e).2)
    have H1 := Lib.hid (H0.out.keep hB)
    clear hX hR hB HK CS H0 H0B hkk
    generalize wc = w1 at *
    go_wp2_with fail
    refine (toInt_own a len cap zs _ (IsRow.keep HI.out H1.out.bel) hlen).mono ?_
    rintro en w2 ⟨vx, rfl, hr, hb⟩
    have V2 := Lib.hid hr
    have HX := Lib.hid (sl64_of hr)
    have FX := Lib.hid (fun (r : Nat) (e : vx.ownBlock = some r) => own_blk hr r e)
    have X2 := Lib.hid (X1.out.keep hb)
    have W2 := Lib.hid (W1.out.keep hb)
    have H2 := Lib.hid (H1.out.keep hb)
    have hX1 := X1.out.lt
    have h12 := hb.size
    have h1a := H1.out.1.lt
    have h1b := H1.out.2.1.lt
    have h1s := H1.out.bel.size
    clear hr hb X1 W1 H1
    go_upto_region 5 with fail
    have HK := Lib.hid (fun (w' : World) (hb : Below w2.heap.size w2 w') => show EbC w2 w.heap.size b2 t u i l m e k w' from EbC.of ⟨H2.out.1.keep hb, H2.out.2.1.keep hb, hb⟩)
    go_cut [11, 12, 13] (fun s11 s12 s13 wx => ∃ (kk : Nat) (vv : Value), s11 = .pointer (some ⟨kk, 0, none⟩) ∧ vv = s12 ∧ s13 = .int .i64 c ∧ BoxL wx kk [.int .i64 x, .int .i64 y] ∧ wx.ownsRow w2.heap.size 2 1 vv ms.length (intC ms) ∧ w2.heap.size ≤ kk ∧ Below w2.heap.size w2 wx)
    case first =>
      go_region_held3 (fun w' => w'.cell? ⟨w.heap.size, 0, none⟩ = some (.int .i64 t) ∧ w'.cell? ⟨w.heap.size, 1, none⟩ = some (.int .i64 u) ∧ w'.cell? ⟨w.heap.size, 2, none⟩ = some (.int .i64 i) ∧ w'.cell? ⟨w.heap.size, 3, none⟩ = some (.int .i64 l) ∧ w'.cell? ⟨w.heap.size, 4, none⟩ = some (.int .i64 m) ∧ w'.cell? ⟨b2, 0, none⟩ = some (.int .i64 e) ∧ w'.cell? ⟨b2, 1, none⟩ = some (.int .i64 k) ∧ w.heap.size < w'.heap.size ∧ b2 < w'.heap.size ∧ Below w2.heap.size w2 w') (first | exact HK.out _ (bR _).drew | exact HK.out _ (bA (bR _) _).drew | exact HK.out _ (bT (EbC.bel (w := w2) (b := w.heap.size) (c := b2) (t := t) (u := u) (i := i) (l := l) (m := m) (e := e) (k := k) (by assumption)) hb) | exact HK.out _ (bA (EbC.bel (w := w2) (b := w.heap.size) (c := b2) (t := t) (u := u) (i := i) (l := l) (m := m) (e := e) (k := k) (by assumption)) _) | exact HK.out _ (bA (Hid.out (by assumption)) _) | ((refine HK.out _ (Below.setCell (Below.setCell (EbC.bel (w := w2) (b := w.heap.size) (c := b2) (t := t) (u := u) (i := i) (l := l) (m := m) (e := e) (k := k) (by assumption)) ?_ _) ?_ _)) <;> (first | omega | (simp; omega) | (simp; done))))
        (first
          | (go_at_call 12; refine (toEscapement_any _ _ _ _ _ _).mono ?_; rintro en x5 ⟨rfl, hb⟩; have hTw := Lib.hid (show Below w2.heap.size w2 x5 from bT (EbC.bel (w := w2) (b := w.heap.size) (c := b2) (t := t) (u := u) (i := i) (l := l) (m := m) (e := e) (k := k) (by assumption)) hb); have hszw := hTw.out.size; first | (have ZB : Hid (BoxL x5 w2.heap.size [.int .i64 0, .int .i64 0]) := Lib.hid (BoxL.keep (BoxL.new w2.drew [.int .i64 0, .int .i64 0] 31) hb); obtain ⟨o0, o1, o2⟩ := ZB.out.c2; obtain ⟨p0, p1⟩ := ZB.out.f2) | (have ZB : Hid (BoxL x5 w2.heap.size [.int .i64 0, .int .i64 0]) := Lib.hid (BoxL.keep (BoxL.keep (BoxL.new w2 [.int .i64 0, .int .i64 0] 31) (bR _).drew) hb); obtain ⟨o0, o1, o2⟩ := ZB.out.c2; obtain ⟨p0, p1⟩ := ZB.out.f2) | (have ZB := Lib.hid (BoxL.keep ZB.out hb); obtain ⟨o0, o1, o2⟩ := ZB.out.c2; obtain ⟨p0, p1⟩ := ZB.out.f2) | (have ZB := Lib.hid (BoxL.keep (BoxL.new _ [.int .i64 0, .int .i64 0] 31) hb); obtain ⟨o0, o1, o2⟩ := ZB.out.c2; obtain ⟨p0, p1⟩ := ZB.out.f2) | skip)
          | (go_at_call 15; refine (toBeat_any _ _ _).mono ?_; rintro en x5 ⟨rfl, hb⟩; have hTw := Lib.hid (show Below w2.heap.size w2 x5 from bT (EbC.bel (w := w2) (b := w.heap.size) (c := b2) (t := t) (u := u) (i := i) (l := l) (m := m) (e := e) (k := k) (by assumption)) hb); have hszw := hTw.out.size; first | (have ZB : Hid (BoxL x5 w2.heap.size [.int .i64 0, .int .i64 0]) := Lib.hid (BoxL.keep (BoxL.new w2.drew [.int .i64 0, .int .i64 0] 31) hb); obtain ⟨o0, o1, o2⟩ := ZB.out.c2; obtain ⟨p0, p1⟩ := ZB.out.f2) | (have ZB : Hid (BoxL x5 w2.heap.size [.int .i64 0, .int .i64 0]) := Lib.hid (BoxL.keep (BoxL.keep (BoxL.new w2 [.int .i64 0, .int .i64 0] 31) (bR _).drew) hb); obtain ⟨o0, o1, o2⟩ := ZB.out.c2; obtain ⟨p0, p1⟩ := ZB.out.f2) | (have ZB := Lib.hid (BoxL.keep ZB.out hb); obtain ⟨o0, o1, o2⟩ := ZB.out.c2; obtain ⟨p0, p1⟩ := ZB.out.f2) | (have ZB := Lib.hid (BoxL.keep (BoxL.new _ [.int .i64 0, .int .i64 0] 31) hb); obtain ⟨o0, o1, o2⟩ := ZB.out.c2; obtain ⟨p0, p1⟩ := ZB.out.f2) | skip)
          | (go_at_call 24; refine (CI.out _ _ (by first | exact (HX.out.keep (EbC.bel (w := w2) (b := w.heap.size) (c := b2) (t := t) (u := u) (i := i) (l := l) (m := m) (e := e) (k := k) (by assumption))) | exact ((HX.out.keep (EbC.bel (w := w2) (b := w.heap.size) (c := b2) (t := t) (u := u) (i := i) (l := l) (m := m) (e := e) (k := k) (by assumption)))).keep (bA (bR _) _))).mono ?_; rintro en x5 ⟨vms, rfl, hrw, hb⟩; have HNB := Lib.hid (fun (r : Nat) (e : vms.ownBlock = some r) => (own_blk hrw r e).1); have HRW := Lib.hid (own_lower hrw (Below.size (EbC.bel (w := w2) (b := w.heap.size) (c := b2) (t := t) (u := u) (i := i) (l := l) (m := m) (e := e) (k := k) (by assumption)))); have hTw := Lib.hid (show Below w2.heap.size w2 x5 from bT (EbC.bel (w := w2) (b := w.heap.size) (c := b2) (t := t) (u := u) (i := i) (l := l) (m := m) (e := e) (k := k) (by assumption)) hb); have hszw := hTw.out.size; first | (have ZB : Hid (BoxL x5 w2.heap.size [.int .i64 0, .int .i64 0]) := Lib.hid (BoxL.keep (BoxL.new w2.drew [.int .i64 0, .int .i64 0] 31) hb); obtain ⟨o0, o1, o2⟩ := ZB.out.c2; obtain ⟨p0, p1⟩ := ZB.out.f2) | (have ZB : Hid (BoxL x5 w2.heap.size [.int .i64 0, .int .i64 0]) := Lib.hid (BoxL.keep (BoxL.keep (BoxL.new w2 [.int .i64 0, .int .i64 0] 31) (bR _).drew) hb); obtain ⟨o0, o1, o2⟩ := ZB.out.c2; obtain ⟨p0, p1⟩ := ZB.out.f2) | (have ZB := Lib.hid (BoxL.keep ZB.out hb); obtain ⟨o0, o1, o2⟩ := ZB.out.c2; obtain ⟨p0, p1⟩ := ZB.out.f2) | (have ZB := Lib.hid (BoxL.keep (BoxL.new _ [.int .i64 0, .int .i64 0] 31) hb); obtain ⟨o0, o1, o2⟩ := ZB.out.c2; obtain ⟨p0, p1⟩ := ZB.out.f2) | skip))
      all_goals (go_wp2_with fail; go_meet; refine ⟨_, _, rfl, rfl, rfl, ?_, ?_, ?_, ?_⟩)
      all_goals first
        | exact BoxL.new _ [.int .i64 x, .int .i64 y] _
        | exact own_keep HRW.out (bA (bR _) _)
        | exact ownsRow_setCell_other (ownsRow_setCell_other HRW.out (fun e => by have h1 := HNB.out _ e; (try simp at h1); omega) _) (fun e => by have h1 := HNB.out _ e; (try simp at h1); omega) _
        | exact bA hTw.out _
        | exact hszw
        | exact (ZB.out.setE (i := 0) (v := .int .i64 x) rfl).setE (i := 1) (v := .int .i64 y) rfl
        | exact Nat.le_refl _
        | omega
        | (refine (hTw.out.setCell (p := ⟨_, 0, none⟩) ?_ _).setCell (p := ⟨_, 1, none⟩) ?_ _ <;> first | exact Nat.le_refl _ | (dsimp only; omega))
    case rest =>
      obtain ⟨k11, vg, rfl, rfl, rfl, hX, hR, hkk, hB⟩ := hcut
      have G3 := Lib.hid hR
      have Y3 := Lib.hid hX
      have FG := Lib.hid (fun (r : Nat) (e : vg.ownBlock = some r) => own_blk hR r e)
      have V3 := Lib.hid (own_keep V2.out hB)
      have X3 := Lib.hid (X2.out.keep hB)
      have W3 := Lib.hid (W2.out.keep hB)
      have H3 := Lib.hid (H2.out.keep hB)
      have hX2 := X2.out.lt
      have hs2 := H2.out.bel.size
      have h2a := H2.out.1.lt
      have h2b := H2.out.2.1.lt
      clear hX hR hB HK V2 HX X2 W2 H2
      generalize wc = w3 at *
      obtain ⟨x0, x1, x2⟩ := X3.out.c2
      obtain ⟨y0, y1, y2⟩ := Y3.out.c2
      go_wp2_with fail
      refine (eqBeat_same _ _ _).mono ?_
      rintro en w4 ⟨rfl, hb⟩
      have G4 := Lib.hid (own_keep G3.out hb)
      have Y4 := Lib.hid (Y3.out.keep hb)
      have V4 := Lib.hid (own_keep V3.out hb)
      have X4 := Lib.hid (X3.out.keep hb)
      have W4 := Lib.hid (W3.out.keep hb)
      have H4 := Lib.hid (H3.out.keep hb)
      clear hb G3 Y3 V3 X3 W3 H3 x0 x1 x2 y0 y1 y2
      go_wp2_with fail
      refine (eq64_same ms _ _ _ (sl64_of G4.out) W4.out (by omega)).mono ?_
      rintro en w5' ⟨rfl, nq, rfl⟩
      have hb : Below w4.heap.size w4 (w4.drewN nq) := bD (bR _) _
      generalize w4.drewN nq = w5 at *
      have G5 := Lib.hid (own_keep G4.out hb)
      have Y5 := Lib.hid (Y4.out.keep hb)
      have V5 := Lib.hid (own_keep V4.out hb)
      have X5 := Lib.hid (X4.out.keep hb)
      have W5 := Lib.hid (W4.out.keep hb)
      have H5 := Lib.hid (H4.out.keep hb)
      clear hb G4 Y4 V4 X4 W4 H4
      go_wp2_with fail
      refine (toInt_own a len cap zs _ (IsRow.keep HI.out H5.out.bel) hlen).mono ?_
      rintro en w6 ⟨vz, rfl, hr, hb⟩
      have G6 := Lib.hid (own_keep G5.out hb)
      have Y6 := Lib.hid (Y5.out.keep hb)
      have V6 := Lib.hid (own_keep V5.out hb)
      have X6 := Lib.hid (X5.out.keep hb)
      have W6 := Lib.hid (W5.out.keep hb)
      have H6 := Lib.hid (H5.out.keep hb)
      have Z6 := Lib.hid (sl64_of hr)
      clear hb hr G5 Y5 V5 X5 W5 H5
      go_wp2_with fail
      refine (eq64_same (zs.take len) _ _ _ (sl64_of V6.out) Z6.out (by omega)).mono ?_
      rintro en w7' ⟨rfl, nq, rfl⟩
      have hb : Below w6.heap.size w6 (w6.drewN nq) := bD (bR _) _
      generalize w6.drewN nq = w7 at *
      have G7 := Lib.hid (own_keep G6.out hb)
      have Y7 := Lib.hid (Y6.out.keep hb)
      have V7 := Lib.hid (own_keep V6.out hb)
      have X7 := Lib.hid (X6.out.keep hb)
      have W7 := Lib.hid (W6.out.keep hb)
      have H7 := Lib.hid (H6.out.keep hb)
      clear hb G6 Y6 V6 X6 W6 H6 Z6
      go_wp2_with fail
      refine (mark64_any 1 (zs.take len) _ _ _ V7.out (by omega) (by omega) (by omega)).mono ?_
      rintro en w8 ⟨rfl, _, hg⟩
      rw [l3]
      have hw01 := H7.out.1.lt
      have hw02 := H7.out.2.1.lt
      have G8 := Lib.hid (ownL G7.out hg (fun r e e2 => by have := FX.out r e2.symm; have := FG.out r e; omega))
      have Y8 := Lib.hid (Y7.out.grownL hg (fun e2 => by have := FX.out _ e2.symm; omega))
      have X8 := Lib.hid (X7.out.grownL hg (fun e2 => by have := FX.out _ e2.symm; omega))
      have W8 := Lib.hid (W7.out.grownL hg (fun r e e2 => by have := FX.out r e2.symm; have := FW.out r e; omega))
      have H8 := Lib.hid (show EbH w w.heap.size b2 t u i l m e k w8 from ⟨H7.out.1.grownL hg (fun e2 => by have := FX.out _ e2.symm; omega), H7.out.2.1.grownL hg (fun e2 => by have := FX.out _ e2.symm; omega), belL H7.out.bel hg (fun r e2 => by have := FX.out _ e2; omega)⟩)
      clear hg G7 Y7 V7 X7 W7 H7
      obtain ⟨x0, x1, x2⟩ := X8.out.c2
      obtain ⟨y0, y1, y2⟩ := Y8.out.c2
      go_wp2_with fail
      refine (eqBeat_same _ _ _).mono ?_
      rintro en w9 ⟨rfl, hb⟩
      have G9 := Lib.hid (own_keep G8.out hb)
      have X9 := Lib.hid (X8.out.keep hb)
      have W9 := Lib.hid (W8.out.keep hb)
      have H9 := Lib.hid (H8.out.keep hb)
      clear hb G8 Y8 X8 W8 H8 x0 x1 x2 y0 y1 y2
      go_wp2_with fail
      refine (eq64_same ms _ _ _ (sl64_of G9.out) W9.out (by omega)).mono ?_
      rintro en wa' ⟨rfl, nq, rfl⟩
      have hb : Below w9.heap.size w9 (w9.drewN nq) := bD (bR _) _
      generalize w9.drewN nq = wa at *
      have Ga := Lib.hid (own_keep G9.out hb)
      have Xa := Lib.hid (X9.out.keep hb)
      have Wa := Lib.hid (W9.out.keep hb)
      have Ha := Lib.hid (H9.out.keep hb)
      clear hb G9 X9 W9 H9
      go_wp2_with fail
      refine (mark64_any 1 ms _ _ _ Ga.out (by omega) (by omega) (by omega)).mono ?_
      rintro en wb ⟨rfl, hv, hg⟩
      have Mb := Lib.hid (sl64_of hv)
      have Xb := Lib.hid (Xa.out.grownL hg (fun e2 => by have := FG.out _ e2.symm; omega))
      have Wb := Lib.hid (Wa.out.grownL hg (fun r e e2 => by have := FG.out r e2.symm; have := FW.out r e; omega))
      have Hb := Lib.hid (show EbH w w.heap.size b2 t u i l m e k wb from ⟨Ha.out.1.grownL hg (fun e2 => by have := FG.out _ e2.symm; omega), Ha.out.2.1.grownL hg (fun e2 => by have := FG.out _ e2.symm; omega), belL Ha.out.bel hg (fun r e2 => by have := FG.out _ e2; omega)⟩)
      clear hv hg Ga Xa Wa Ha
      go_wp2_with fail
      refine (held64_same 1 ms.length vg wb Mb.out (by omega) (by omega) (by omega)).mono ?_
      rintro en wb' ⟨rfl, rfl⟩
      have HbB := Hb
      go_upto_region 22 with fail
      have HK := Lib.hid (fun (w' : World) (hb : Below wb.heap.size wb w') => show EbC wb w.heap.size b2 t u i l m e k w' from EbC.of ⟨Hb.out.1.keep hb, Hb.out.2.1.keep hb, hb⟩)
      go_cut [17, 18, 19] (fun s17 s18 s19 wx => ∃ (kk : Nat) (vv : Value), s17 = .pointer (some ⟨kk, 0, none⟩) ∧ vv = s18 ∧ s19 = .int .i64 c ∧ BoxL wx kk [.int .i64 x, .int .i64 y] ∧ wx.ownsRow wb.heap.size 2 1 vv ms.length (intC ms) ∧ wb.heap.size ≤ kk ∧ Below wb.heap.size wb wx)
      case first =>
        go_region_held3 (fun w' => w'.cell? ⟨w.heap.size, 0, none⟩ = some (.int .i64 t) ∧ w'.cell? ⟨w.heap.size, 1, none⟩ = some (.int .i64 u) ∧ w'.cell? ⟨w.heap.size, 2, none⟩ = some (.int .i64 i) ∧ w'.cell? ⟨w.heap.size, 3, none⟩ = some (.int .i64 l) ∧ w'.cell? ⟨w.heap.size, 4, none⟩ = some (.int .i64 m) ∧ w'.cell? ⟨b2, 0, none⟩ = some (.int .i64 e) ∧ w'.cell? ⟨b2, 1, none⟩ = some (.int .i64 k) ∧ w.heap.size < w'.heap.size ∧ b2 < w'.heap.size ∧ Below wb.heap.size wb w') (first | exact HK.out _ (bR _).drew | exact HK.out _ (bA (bR _) _).drew | exact HK.out _ (bT (EbC.bel (w := wb) (b := w.heap.size) (c := b2) (t := t) (u := u) (i := i) (l := l) (m := m) (e := e) (k := k) (by assumption)) hb) | exact HK.out _ (bA (EbC.bel (w := wb) (b := w.heap.size) (c := b2) (t := t) (u := u) (i := i) (l := l) (m := m) (e := e) (k := k) (by assumption)) _) | exact HK.out _ (bA (Hid.out (by assumption)) _) | ((refine HK.out _ (Below.setCell (Below.setCell (EbC.bel (w := wb) (b := w.heap.size) (c := b2) (t := t) (u := u) (i := i) (l := l) (m := m) (e := e) (k := k) (by assumption)) ?_ _) ?_ _)) <;> (first | omega | (simp; omega) | (simp; done))))
          (first
            | (go_at_call 12; refine (toEscapement_any _ _ _ _ _ _).mono ?_; rintro en x5 ⟨rfl, hb⟩; have hTw := Lib.hid (show Below wb.heap.size wb x5 from bT (EbC.bel (w := wb) (b := w.heap.size) (c := b2) (t := t) (u := u) (i := i) (l := l) (m := m) (e := e) (k := k) (by assumption)) hb); have hszw := hTw.out.size; first | (have ZB : Hid (BoxL x5 wb.heap.size [.int .i64 0, .int .i64 0]) := Lib.hid (BoxL.keep (BoxL.new wb.drew [.int .i64 0, .int .i64 0] 31) hb); obtain ⟨o0, o1, o2⟩ := ZB.out.c2; obtain ⟨p0, p1⟩ := ZB.out.f2) | (have ZB : Hid (BoxL x5 wb.heap.size [.int .i64 0, .int .i64 0]) := Lib.hid (BoxL.keep (BoxL.keep (BoxL.new wb [.int .i64 0, .int .i64 0] 31) (bR _).drew) hb); obtain ⟨o0, o1, o2⟩ := ZB.out.c2; obtain ⟨p0, p1⟩ := ZB.out.f2) | (have ZB := Lib.hid (BoxL.keep ZB.out hb); obtain ⟨o0, o1, o2⟩ := ZB.out.c2; obtain ⟨p0, p1⟩ := ZB.out.f2) | (have ZB := Lib.hid (BoxL.keep (BoxL.new _ [.int .i64 0, .int .i64 0] 31) hb); obtain ⟨o0, o1, o2⟩ := ZB.out.c2; obtain ⟨p0, p1⟩ := ZB.out.f2) | skip)
            | (go_at_call 23; refine (toInt_ex a len cap zs _ (IsRow.keep HI.out (bT HbB.out.2.2 (EbC.bel (w := wb) (b := w.heap.size) (c := b2) (t := t) (u := u) (i := i) (l := l) (m := m) (e := e) (k := k) (by assumption)))) hlen).mono ?_; rintro en x5 ⟨vr, rfl, hsl, hb⟩; have HSL := Lib.hid hsl; have hTw := Lib.hid (show Below wb.heap.size wb x5 from bT (EbC.bel (w := wb) (b := w.heap.size) (c := b2) (t := t) (u := u) (i := i) (l := l) (m := m) (e := e) (k := k) (by assumption)) hb); have hszw := hTw.out.size; first | (have ZB : Hid (BoxL x5 wb.heap.size [.int .i64 0, .int .i64 0]) := Lib.hid (BoxL.keep (BoxL.new wb.drew [.int .i64 0, .int .i64 0] 31) hb); obtain ⟨o0, o1, o2⟩ := ZB.out.c2; obtain ⟨p0, p1⟩ := ZB.out.f2) | (have ZB : Hid (BoxL x5 wb.heap.size [.int .i64 0, .int .i64 0]) := Lib.hid (BoxL.keep (BoxL.keep (BoxL.new wb [.int .i64 0, .int .i64 0] 31) (bR _).drew) hb); obtain ⟨o0, o1, o2⟩ := ZB.out.c2; obtain ⟨p0, p1⟩ := ZB.out.f2) | (have ZB := Lib.hid (BoxL.keep ZB.out hb); obtain ⟨o0, o1, o2⟩ := ZB.out.c2; obtain ⟨p0, p1⟩ := ZB.out.f2) | (have ZB := Lib.hid (BoxL.keep (BoxL.new _ [.int .i64 0, .int .i64 0] 31) hb); obtain ⟨o0, o1, o2⟩ := ZB.out.c2; obtain ⟨p0, p1⟩ := ZB.out.f2) | skip)
            | (go_at_call 15; refine (toBeat_any _ _ _).mono ?_; rintro en x5 ⟨rfl, hb⟩; (first | (have HSL := Lib.hid (HSL.out.keep hb)) | (have HSL := Lib.hid ((HSL.out.keep (bA (bR _) _)).keep hb)) | skip); have hTw := Lib.hid (show Below wb.heap.size wb x5 from bT (EbC.bel (w := wb) (b := w.heap.size) (c := b2) (t := t) (u := u) (i := i) (l := l) (m := m) (e := e) (k := k) (by assumption)) hb); have hszw := hTw.out.size; first | (have ZB : Hid (BoxL x5 wb.heap.size [.int .i64 0, .int .i64 0]) := Lib.hid (BoxL.keep (BoxL.new wb.drew [.int .i64 0, .int .i64 0] 31) hb); obtain ⟨o0, o1, o2⟩ := ZB.out.c2; obtain ⟨p0, p1⟩ := ZB.out.f2) | (have ZB : Hid (BoxL x5 wb.heap.size [.int .i64 0, .int .i64 0]) := Lib.hid (BoxL.keep (BoxL.keep (BoxL.new wb [.int .i64 0, .int .i64 0] 31) (bR _).drew) hb); obtain ⟨o0, o1, o2⟩ := ZB.out.c2; obtain ⟨p0, p1⟩ := ZB.out.f2) | (have ZB := Lib.hid (BoxL.keep ZB.out hb); obtain ⟨o0, o1, o2⟩ := ZB.out.c2; obtain ⟨p0, p1⟩ := ZB.out.f2) | (have ZB := Lib.hid (BoxL.keep (BoxL.new _ [.int .i64 0, .int .i64 0] 31) hb); obtain ⟨o0, o1, o2⟩ := ZB.out.c2; obtain ⟨p0, p1⟩ := ZB.out.f2) | skip)
            | (go_at_call 24; refine (CI.out _ _ (by first | exact HSL.out | exact (HSL.out).keep (bA (bR _) _))).mono ?_; rintro en x5 ⟨vms, rfl, hrw, hb⟩; have HNB := Lib.hid (fun (r : Nat) (e : vms.ownBlock = some r) => (own_blk hrw r e).1); have HRW := Lib.hid (own_lower hrw (Below.size (EbC.bel (w := wb) (b := w.heap.size) (c := b2) (t := t) (u := u) (i := i) (l := l) (m := m) (e := e) (k := k) (by assumption)))); have hTw := Lib.hid (show Below wb.heap.size wb x5 from bT (EbC.bel (w := wb) (b := w.heap.size) (c := b2) (t := t) (u := u) (i := i) (l := l) (m := m) (e := e) (k := k) (by assumption)) hb); have hszw := hTw.out.size; first | (have ZB : Hid (BoxL x5 wb.heap.size [.int .i64 0, .int .i64 0]) := Lib.hid (BoxL.keep (BoxL.new wb.drew [.int .i64 0, .int .i64 0] 31) hb); obtain ⟨o0, o1, o2⟩ := ZB.out.c2; obtain ⟨p0, p1⟩ := ZB.out.f2) | (have ZB : Hid (BoxL x5 wb.heap.size [.int .i64 0, .int .i64 0]) := Lib.hid (BoxL.keep (BoxL.keep (BoxL.new wb [.int .i64 0, .int .i64 0] 31) (bR _).drew) hb); obtain ⟨o0, o1, o2⟩ := ZB.out.c2; obtain ⟨p0, p1⟩ := ZB.out.f2) | (have ZB := Lib.hid (BoxL.keep ZB.out hb); obtain ⟨o0, o1, o2⟩ := ZB.out.c2; obtain ⟨p0, p1⟩ := ZB.out.f2) | (have ZB := Lib.hid (BoxL.keep (BoxL.new _ [.int .i64 0, .int .i64 0] 31) hb); obtain ⟨o0, o1, o2⟩ := ZB.out.c2; obtain ⟨p0, p1⟩ := ZB.out.f2) | skip))
        all_goals (go_wp2_with fail; go_meet; refine ⟨_, _, rfl, rfl, rfl, ?_, ?_, ?_, ?_⟩)
        all_goals first
          | exact BoxL.new _ [.int .i64 x, .int .i64 y] _
          | exact own_keep HRW.out (bA (bR _) _)
          | exact ownsRow_setCell_other (ownsRow_setCell_other HRW.out (fun e => by have h1 := HNB.out _ e; (try simp at h1); omega) _) (fun e => by have h1 := HNB.out _ e; (try simp at h1); omega) _
          | exact bA hTw.out _
          | exact hszw
          | exact (ZB.out.setE (i := 0) (v := .int .i64 x) rfl).setE (i := 1) (v := .int .i64 y) rfl
          | exact Nat.le_refl _
          | omega
          | (refine (hTw.out.setCell (p := ⟨_, 0, none⟩) ?_ _).setCell (p := ⟨_, 1, none⟩) ?_ _ <;> first | exact Nat.le_refl _ | (dsimp only; omega))
      case rest =>
        obtain ⟨k17, vh, rfl, rfl, rfl, hX, hR, hkk, hB⟩ := hcut
        have Yc := Lib.hid hX
        have Hc := Lib.hid (sl64_of hR)
        have Xc := Lib.hid (Xb.out.keep hB)
        have Wc := Lib.hid (Wb.out.keep hB)
        have Mc := Lib.hid (Mb.out.keep hB)
        have Lc := Lib.hid (bT Hb.out.bel hB)
        clear hX hR hB HK CI Xb Wb Mb Hb HbB
        generalize wc = wd at *
        obtain ⟨x0, x1, x2⟩ := Xc.out.c2
        obtain ⟨y0, y1, y2⟩ := Yc.out.c2
        go_wp2_with fail
        refine (eqBeat_same _ _ _).mono ?_
        rintro en we ⟨rfl, hb⟩
        have He := Lib.hid (Hc.out.keep hb)
        have We := Lib.hid (Wc.out.keep hb)
        have Me := Lib.hid (Mc.out.keep hb)
        have Le := Lib.hid (bT Lc.out hb)
        clear hb Yc Hc Xc Wc Mc Lc x0 x1 x2 y0 y1 y2
        go_wp2_with fail
        refine (eq64_same ms _ _ _ He.out We.out (by omega)).mono ?_
        rintro en wf' ⟨rfl, nq, rfl⟩
        have hb : Below we.heap.size we (we.drewN nq) := bD (bR _) _
        generalize we.drewN nq = wf at *
        have Mf := Lib.hid (Me.out.keep hb)
        have Lf := Lib.hid (bT Le.out hb)
        clear hb He We Me Le
        go_wp2_with fail
        refine (held64_same 1 ms.length vg wf Mf.out (by omega) (by omega) (by omega)).mono ?_
        rintro en wf' ⟨rfl, rfl⟩
        go_wp2_with fail
        go_ret
        exact ⟨rfl, Lf.out⟩
end Go.Proofs.Ytlgbkkbaiamapaa

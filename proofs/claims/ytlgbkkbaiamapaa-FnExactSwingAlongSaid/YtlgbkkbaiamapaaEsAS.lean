/-
  SwingAlong, the document's side.
-/
import Derived.Test.YtlgbkkbaiamapaaEsAJ
import Derived.Test.YtlgbkkbaiamapaaEsB
namespace Go.Proofs.Ytlgbkkbaiamapaa
open Go.RowKit

/-- What stands in the round of the document's SwingAlong. -/
def AsC (w : World) (b3 b5 g j : Nat) (t u i l m e k q : Int) (w' : World) : Prop :=
  w'.cell? ⟨b3, 0, none⟩ = some (.int .i64 t) ∧ w'.cell? ⟨b3, 1, none⟩ = some (.int .i64 u) ∧ w'.cell? ⟨b3, 2, none⟩ = some (.int .i64 i) ∧ w'.cell? ⟨b3, 3, none⟩ = some (.int .i64 l) ∧ w'.cell? ⟨b3, 4, none⟩ = some (.int .i64 m) ∧ w'.cell? ⟨b5, 0, none⟩ = some (.int .i64 e) ∧ w'.cell? ⟨b5, 1, none⟩ = some (.int .i64 k) ∧ w'.cell? ⟨g, j, none⟩ = some (.int .i64 q) ∧ Below w.heap.size w w'
theorem AsC.of {w : World} {b3 b5 g j : Nat} {t u i l m e k q : Int} (h3 : BoxL w b3 [.int .i64 t, .int .i64 u, .int .i64 i, .int .i64 l, .int .i64 m]) (h5 : BoxL w b5 [.int .i64 e, .int .i64 k]) (hc : w.cell? ⟨g, j, none⟩ = some (.int .i64 q)) (hg : g < w.heap.size) {w' : World} (hb : Below w.heap.size w w') : AsC w b3 b5 g j t u i l m e k q w' := by
  obtain ⟨c0, c1, c2, c3, c4, _⟩ := (h3.keep hb).c5
  obtain ⟨d0, d1, _⟩ := (h5.keep hb).c2
  exact ⟨c0, c1, c2, c3, c4, d0, d1, (hb.cell (p := ⟨g, j, none⟩) hg).trans hc, hb⟩
theorem AsC.bel {w : World} {b3 b5 g j : Nat} {t u i l m e k q : Int} {w' : World} (H : AsC w b3 b5 g j t u i l m e k q w') : Below w.heap.size w w' := H.2.2.2.2.2.2.2.2
set_option maxRecDepth 100000 in
set_option maxHeartbeats 8000000 in
theorem SwingAlongS_any (t u i l m e k : Int) (qs : List Int) (v : Value) (w : World) (ha : Sl64 w v qs) (hmax : qs.length ≤ 1000000000000) :
    Calls Try.prog 22 #[.agg #[.int .i64 t, .int .i64 u, .int .i64 i, .int .i64 l, .int .i64 m], v, .agg #[.int .i64 e, .int .i64 k]] w (SaP (saE t u i l m qs e k) w) := by
  have CO := Lib.hid (fun W => l11Beat_any t u i l m e k W)
  have HA := Lib.hid ha
  obtain ⟨ao, cap, rfl, ha2⟩ := ha
  have HC := Lib.hid ha2
  clear ha2
  have T0 := Lib.hid (show TrB w w.heap.size (w.heap.size + 1) (w.heap.size + 1 + 1) t u i l m e k (((w.alloc (.cells #[.int .i64 t, .int .i64 u, .int .i64 i, .int .i64 l, .int .i64 m] 25)).alloc (.cells #[.int .i64 e, .int .i64 k] 31)).alloc (.cells #[.int .i64 0, .int .i64 0] 31)) from
    ⟨((BoxL.new w [.int .i64 t, .int .i64 u, .int .i64 i, .int .i64 l, .int .i64 m] 25).alloc _).alloc _, (BoxL.at_ (w := w.alloc (.cells #[.int .i64 t, .int .i64 u, .int .i64 i, .int .i64 l, .int .i64 m] 25)) (b := w.heap.size + 1) (vs := [.int .i64 e, .int .i64 k]) (by simp)).alloc _, BoxL.at_ (vs := [.int .i64 0, .int .i64 0]) (by simp), bA (bA (bA (bR w) _) _) _⟩)
  have n35 : ¬ w.heap.size = w.heap.size + 1 := by omega
  have n36 : ¬ w.heap.size = w.heap.size + 1 + 1 := by omega
  have n56 : ¬ w.heap.size + 1 = w.heap.size + 1 + 1 := by omega
  have lw5 : w.heap.size ≤ w.heap.size + 1 := by omega
  have lw6 : w.heap.size ≤ w.heap.size + 1 + 1 := by omega
  cases h1 : okBt t u i l m e k
  · rw [saE_1 h1]
    rw [h1] at CO
    go_enter Try.func22, Try.ntmps22
    go_wp2_with fail
    generalize ((w.alloc (.cells #[.int .i64 t, .int .i64 u, .int .i64 i, .int .i64 l, .int .i64 m] 25)).alloc (.cells #[.int .i64 e, .int .i64 k] 31)).alloc (.cells #[.int .i64 0, .int .i64 0] 31) = W0 at *
    generalize w.heap.size + 1 + 1 = b6 at *
    generalize w.heap.size + 1 = b5 at *
    refine (CO.out _).mono ?_
    rintro en w1 ⟨rfl, hb⟩
    have T1 := Lib.hid (T0.out.keep hb)
    clear hb T0
    obtain ⟨z0, z1, z2⟩ := T1.out.2.2.1.c2
    obtain ⟨f0, f1⟩ := T1.out.2.2.1.f2
    go_wp2_with fail
    refine bodyPost_ret (v := .tuple #[.agg #[.int .i64 0, .int .i64 0], .slice none 0 0, .int .i64 1]) ?_ rfl ⟨_, rfl, World.ownsRow_nil _ _ _ _, ?_⟩
    · simp [results, Try.results22, go_sem, z0, z1]
    · exact (bsetE (bsetE T1.out.2.2.2 lw6) lw6)
  rw [h1] at CO
  have HOK := Lib.hid (show okBt t u i l m e k = true from h1)
  obtain ⟨hE, he, hk⟩ := okBt_bd h1
  have HE := Lib.hid hE
  have HOQ2 := Lib.hid (okBt_es h1)
  have HI := Lib.hid (And.intro he hk)
  have S5 := Lib.hid (fun h2 => saE_5 (qs := qs) h1 h2)
  have S2 := Lib.hid (fun h2 => saE_2 (qs := qs) h1 h2)
  have S0 := Lib.hid (fun h2 a b ms => saE_0 (qs := qs) (a := a) (b := b) (ms := ms) h1 h2)
  clear h1 hE he hk
  generalize saE t u i l m qs e k = R at *
  go_enter Try.func22, Try.ntmps22
  go_wp2_with fail
  generalize ((w.alloc (.cells #[.int .i64 t, .int .i64 u, .int .i64 i, .int .i64 l, .int .i64 m] 25)).alloc (.cells #[.int .i64 e, .int .i64 k] 31)).alloc (.cells #[.int .i64 0, .int .i64 0] 31) = W0 at *
  have hb6 : w.heap.size + 1 + 1 < W0.heap.size := T0.out.2.2.1.lt
  have hb5 : w.heap.size + 1 < W0.heap.size := T0.out.2.1.lt
  have hb3 : w.heap.size < W0.heap.size := T0.out.1.lt
  generalize w.heap.size + 1 + 1 = b6 at *
  generalize w.heap.size + 1 = b5 at *
  refine (CO.out _).mono ?_
  rintro en w1 ⟨rfl, hb⟩
  have hz := hb.size
  have T1 := Lib.hid (T0.out.keep hb)
  clear hb T0
  go_wp2_with fail
  go_loopw [9, 10] (fun v9 v10 wr => ∃ j : Nat, j ≤ qs.length ∧ v10 = .int .i64 j ∧ v9 = .bool (!(decide (qs.length ≤ 2000) && (qs.take j).all (fun q => inB q 0 1000))) ∧ Below w1.heap.size w1 wr) (fun _ v10 _ => qs.length - (intOf v10).toNat)
  case atStart => exact ⟨0, Nat.zero_le _, rfl, congrArg Value.bool (by rw [List.take_zero, List.all_nil, Bool.and_true]; by_cases h : qs.length ≤ 2000 <;> simp [h] <;> omega), bR _⟩
  case round =>
    obtain ⟨j, hj, rfl, rfl, hb⟩ := hrel
    have HB := Lib.hid hb
    clear hb
    by_cases hlt : j < qs.length
    · obtain ⟨g, rfl, hg, hc⟩ := HC.out (by omega)
      have c9 : wr.cell? ⟨g, j, none⟩ = some (.int .i64 (at0 qs j)) := ((bT T1.out.2.2.2 HB.out).cell (p := ⟨g, j, none⟩) hg).trans (hc j hlt)
      have HX := Lib.hid (show (qs.take (j + 1)).all (fun q => inB q 0 1000) = ((qs.take j).all (fun q => inB q 0 1000) && inB (at0 qs j) 0 1000) from by
        rw [List.take_succ_eq_append_getElem hlt, List.all_append]
        unfold at0
        rw [List.getElem?_eq_getElem hlt]; simp)
      clear hc HC
      generalize at0 qs j = q at *
      generalize (qs.take j).all (fun q => inB q 0 1000) = x at *
      generalize decide (qs.length ≤ 2000) = d at *
      cases hd : (d && x)
      · have h0 := Lib.hid (show (!(d && (qs.take (j + 1)).all (fun q => inB q 0 1000))) = true by rw [HX.out, ← Bool.and_assoc, hd]; rfl)
        go_wp2_with fail
        go_roundw
        case rel => exact ⟨j + 1, by omega, by go_num, by rw [h0.out], by first | exact HB.out | exact HB.out.drew⟩
        case measure => simp [intOf]; omega
      · have h0 := Lib.hid (show (!(d && (qs.take (j + 1)).all (fun q => inB q 0 1000))) = !inB q 0 1000 by rw [HX.out, ← Bool.and_assoc, hd]; rfl)
        go_wp2_with (go_at_call 39; refine (l00In_any _ _ _ _).mono ?_; rintro e w1 ⟨rfl, rfl⟩)
        go_roundw
        case rel => exact ⟨j + 1, by omega, by go_num, by rw [h0.out], by first | exact HB.out | exact HB.out.drew⟩
        case measure => simp [intOf]; omega
    · obtain rfl : j = qs.length := by omega
      have T2 := Lib.hid (T1.out.keep HB.out)
      have hz2 := HB.out.size
      rw [List.take_of_length_le (Nat.le_refl _)]
      have HOQ := Lib.hid (show okQs qs = (decide (qs.length ≤ 2000) && qs.all (fun q => inB q 0 1000)) from rfl)
      cases hok : okQs qs
      · have h0 : (!(decide (qs.length ≤ 2000) && qs.all (fun q => inB q 0 1000))) = true := by rw [← HOQ.out, hok]; rfl
        have HN := Lib.hid (S2.out hok)
        obtain ⟨z0, z1, z2⟩ := T2.out.2.2.1.c2
        obtain ⟨f0, f1⟩ := T2.out.2.2.1.f2
        rw [h0]
        go_wp2_with fail
        refine bodyPost_ret (v := .tuple #[.agg #[.int .i64 0, .int .i64 0], .slice none 0 0, .int .i64 2]) ?_ rfl ⟨_, by rw [HN.out], by rw [HN.out]; exact World.ownsRow_nil _ _ _ _, ?_⟩
        · simp [results, Try.results22, go_sem, z0, z1]
        · exact (bsetE (bsetE T2.out.2.2.2 lw6) lw6)
      · have h0 : (!(decide (qs.length ≤ 2000) && qs.all (fun q => inB q 0 1000))) = false := by rw [← HOQ.out, hok]; rfl
        rw [h0]
        obtain ⟨hl, hq⟩ := okQs_parts hok
        have S5' := Lib.hid (S5.out hok)
        have S0' := Lib.hid (S0.out hok)
        have HQ := Lib.hid hq
        clear S5 S0 S2 hok h0 HOQ hq
        go_wp2_with fail
        have SW := Lib.hid (fun q e k W => SwingS_any t u i l m q e k W)
        have hb6w := T2.out.2.2.1.lt
        have hb5w := T2.out.2.1.lt
        have hb3w := T2.out.1.lt
        have T3 := Lib.hid (T2.out.keep (bA (bR wr) (.cells #[] 2)))
        have RS := Lib.hid (show AlR w wr.heap.size w.heap.size b5 b6 t u i l m e k qs (.slice (some ⟨wr.heap.size, 0, none⟩) 0 0) (.int .i64 0) (wr.alloc (.cells #[] 2)) from ⟨0, e, k, [], rfl, Nat.zero_le _, Nat.zero_le _, HI.out.1, HI.out.2, rfl, row0 _ _, T3.out.1, T3.out.2.1, T3.out.2.2.1, T3.out.2.2.2, by simp⟩)
        clear T2 T3 T1 HB HI hz hz2 hb3 hb5 hb6
        have hlw : w.heap.size ≤ wr.heap.size := by omega
        generalize wr.alloc (.cells #[] 2) = W2 at *
        generalize wr.heap.size = B at *
        clear wr
        go_loopw [11, 12] (fun v11 v12 wr => AlR w B w.heap.size b5 b6 t u i l m e k qs v11 v12 wr) (fun _ v12 _ => qs.length - (intOf v12).toNat)
        case atStart => exact RS.out
        case round =>
          obtain ⟨j, e1, k1, ms, rfl, hj, hms, he1, hk1, hs, hJ⟩ := hrel
          have J := Lib.hid hJ
          have HS := Lib.hid hs
          clear hJ hs RS
          by_cases hlt : j < qs.length
          · obtain ⟨g, rfl, hg, hc⟩ := HC.out (by omega)
            have hgw : g < wr.heap.size := Nat.lt_of_lt_of_le hg J.out.2.2.2.2.1.size
            have c9 : wr.cell? ⟨g, j, none⟩ = some (.int .i64 (at0 qs j)) := (J.out.2.2.2.2.1.cell (p := ⟨g, j, none⟩) hg).trans (hc j hlt)
            have HD := Lib.hid (drop_at hlt)
            have SW1 := Lib.hid (fun W => SW.out (at0 qs j) e1 k1 W)
            have hqj := HQ.out j hlt
            have HV := Lib.hid (okBt_yes (HOQ2.out) (inB_true.2 he1) (inB_true.2 hk1))
            clear hc HC
            generalize at0 qs j = q at *
            have HC0 := Lib.hid (cdE_0 (q := q) HV.out (inB_true.2 hqj))
            have HK := Lib.hid (fun (w' : World) (hb : Below wr.heap.size wr w') => AsC.of J.out.2.1 J.out.2.2.1 c9 hgw hb)
            generalize hR1 : swE t u i l m q e1 k1 = R1 at *
            have HR1 := Lib.hid hR1
            clear hR1 c9
            obtain ⟨x, y, tk, c⟩ := R1
            unfold SgP at SW1
            simp only at SW1
            go_upto_region 14 with fail
            go_cut [13, 14, 15] (fun s13 s14 s15 wx => ∃ kk : Nat, s13 = .pointer (some ⟨kk, 0, none⟩) ∧ s14 = .bool tk ∧ s15 = .int .i64 c ∧ BoxL wx kk [.int .i64 x, .int .i64 y] ∧ wr.heap.size ≤ kk ∧ Below wr.heap.size wr wx)
            case first =>
              go_region_held3 (fun w' => w'.cell? ⟨w.heap.size, 0, none⟩ = some (.int .i64 t) ∧ w'.cell? ⟨w.heap.size, 1, none⟩ = some (.int .i64 u) ∧ w'.cell? ⟨w.heap.size, 2, none⟩ = some (.int .i64 i) ∧ w'.cell? ⟨w.heap.size, 3, none⟩ = some (.int .i64 l) ∧ w'.cell? ⟨w.heap.size, 4, none⟩ = some (.int .i64 m) ∧ w'.cell? ⟨b5, 0, none⟩ = some (.int .i64 e1) ∧ w'.cell? ⟨b5, 1, none⟩ = some (.int .i64 k1) ∧ w'.cell? ⟨g, j, none⟩ = some (.int .i64 q) ∧ Below wr.heap.size wr w') (first | exact HK.out _ (bR _).drew | exact HK.out _ (bT (AsC.bel (b3 := w.heap.size) (b5 := b5) (g := g) (j := j) (t := t) (u := u) (i := i) (l := l) (m := m) (e := e1) (k := k1) (q := q) (by assumption)) hb) | exact HK.out _ (bA (AsC.bel (b3 := w.heap.size) (b5 := b5) (g := g) (j := j) (t := t) (u := u) (i := i) (l := l) (m := m) (e := e1) (k := k1) (q := q) (by assumption)) _) | exact HK.out _ (bA (Hid.out (by assumption)) _) | ((refine HK.out _ (Below.setCell (Below.setCell (AsC.bel (b3 := w.heap.size) (b5 := b5) (g := g) (j := j) (t := t) (u := u) (i := i) (l := l) (m := m) (e := e1) (k := k1) (q := q) (by assumption)) ?_ _) ?_ _)) <;> (first | omega | (simp; omega) | (simp; done))))
                (first
                  | (go_at_call 17; refine (SW1.out _).mono ?_; rintro en x5 ⟨rfl, hb⟩; have hTw := Lib.hid (show Below wr.heap.size wr x5 from bT (AsC.bel (b3 := w.heap.size) (b5 := b5) (g := g) (j := j) (t := t) (u := u) (i := i) (l := l) (m := m) (e := e1) (k := k1) (q := q) (by assumption)) hb); have hszw := hTw.out.size; first | (have ZB : Hid (BoxL x5 wr.heap.size [.int .i64 0, .int .i64 0]) := Lib.hid (BoxL.keep (BoxL.new wr.drew [.int .i64 0, .int .i64 0] 31) hb); obtain ⟨o0, o1, o2⟩ := ZB.out.c2; obtain ⟨p0, p1⟩ := ZB.out.f2) | (have ZB : Hid (BoxL x5 wr.heap.size [.int .i64 0, .int .i64 0]) := Lib.hid (BoxL.keep (BoxL.keep (BoxL.new wr [.int .i64 0, .int .i64 0] 31) (bR _).drew) hb); obtain ⟨o0, o1, o2⟩ := ZB.out.c2; obtain ⟨p0, p1⟩ := ZB.out.f2) | (have ZB := Lib.hid (BoxL.keep (BoxL.new _ [.int .i64 0, .int .i64 0] 31) hb); obtain ⟨o0, o1, o2⟩ := ZB.out.c2; obtain ⟨p0, p1⟩ := ZB.out.f2) | skip))
              all_goals (go_wp2_with fail; go_meet; refine ⟨_, rfl, rfl, rfl, ?_, ?_, ?_⟩)
              all_goals first
                | exact BoxL.new _ [.int .i64 x, .int .i64 y] _
                | exact bA hTw.out _
                | exact hszw
                | exact (ZB.out.setE (i := 0) (v := .int .i64 x) rfl).setE (i := 1) (v := .int .i64 y) rfl
                | exact Nat.le_refl _
                | exact (hTw.out.setCell (p := ⟨wr.heap.size, 0, none⟩) (Nat.le_refl _) _).setCell (p := ⟨wr.heap.size, 1, none⟩) (Nat.le_refl _) _
            case rest =>
              obtain ⟨kk, rfl, rfl, rfl, hX, hkk, hB⟩ := hcut
              have J2 := Lib.hid (J.out.keep hB)
              have F12 := Lib.hid (show u11.ownBlock ≠ some kk from fun e => by have := (own_blk J.out.1 _ e).2; omega)
              have g5 : b5 < B := hb5w
              have g6 : b6 < B := hb6w
              have g3 : w.heap.size < B := hb3w
              have hBw := J.out.2.2.2.2.2
              clear hB HK J SW1 SW
              generalize wc = w3 at *
              have HJ1 := J2.out
              obtain ⟨f0, f1⟩ := HJ1.2.2.1.f2
              obtain ⟨d0, d1, d2⟩ := HJ1.2.2.1.c2
              obtain ⟨z0, z1, z2⟩ := HJ1.2.2.2.1.c2
              obtain ⟨y0, y1⟩ := HJ1.2.2.2.1.f2
              obtain ⟨x0, x1, x2⟩ := hX.c2
              clear HJ1
              have n5 : ¬ b5 = kk := by omega
              have n6 : ¬ b6 = kk := by omega
              have N2 := Lib.hid (nxS_bd HE.out hqj he1)
              cases ht : tkS u l q e1
              · have hsw := HR1.out
                rw [swE_miss HC0.out ht] at hsw
                have q1 := congrArg Prod.fst hsw
                have q2 := congrArg (fun r : Int × Int × Bool × Int => r.2.1) hsw
                have q3 := congrArg (fun r : Int × Int × Bool × Int => r.2.2.1) hsw
                have q4 := congrArg (fun r : Int × Int × Bool × Int => r.2.2.2) hsw
                simp only at q1 q2 q3 q4
                clear hsw HR1
                subst q2 q3 q4
                have HN := Lib.hid (show alF u i l m (qs.drop (j + 1)) x k1 (j + 1) (ms ++ [(j : Int)]) = alF u i l m qs e k 0 [] by rw [← HS.out, HD.out, alF_miss ht, q1])
                rw [q1] at N2
                clear q1
                have hlm : ms.length ≤ 2000 := by omega
                go_wp2_with (at_builtin; refine app64 rfl _ _ rfl _ _ (j : Int) rfl J2.out.1 J2.out.2.2.2.2.2 (by show Value.slice (some ⟨w3.heap.size, 0, none⟩) 1 1 = _; rfl) hlm ?_)
                intro v' w' hrow hbl hbx
                have X13 := hbx _ _ hX F12.out
                have J4 := Lib.hid (J2.out.row (ms' := ms ++ [(j : Int)]) g3 g5 g6 (by omega) (by rw [List.length_append]; exact hrow) hbl)
                clear hrow hbl hbx x0 x1 x2 f0 f1 d0 d1 d2 z0 z1 z2 y0 y1
                obtain ⟨x0, x1, x2⟩ := X13.c2
                have J5 := Lib.hid (J4.out.put g5 lw5 n35 (Ne.symm n56) x k1)
                have HJ1 := J4.out
                obtain ⟨f0, f1⟩ := HJ1.2.2.1.f2
                obtain ⟨d0, d1, d2⟩ := HJ1.2.2.1.c2
                clear HJ1 J4 X13
                go_wp2_with fail
                go_roundw
                case rel => exact ⟨j + 1, _, _, _, by go_num, by omega, by simp; omega, N2.out, hk1, HN.out, J5.out⟩
                case measure => simp [intOf]; omega
              · by_cases hk2 : k1 = 1000000000
                · have hsw := HR1.out
                  rw [swE_full HC0.out ht hk2] at hsw
                  have q3 := congrArg (fun r : Int × Int × Bool × Int => r.2.2.1) hsw
                  have q4 := congrArg (fun r : Int × Int × Bool × Int => r.2.2.2) hsw
                  simp only at q3 q4
                  clear hsw HR1
                  subst q3 q4
                  have HN := Lib.hid (S5'.out (by rw [← HS.out, HD.out, alF_full ht hk2]))
                  have Z := Lib.hid ((J2.out.2.2.2.1.setE (i := 0) (v := .int .i64 0) rfl).setE (i := 1) (v := .int .i64 0) rfl).c2
                  go_wp2_with fail
                  refine bodyPost_ret (v := .tuple #[.agg #[.int .i64 0, .int .i64 0], .slice none 0 0, .int .i64 5]) ?_ rfl ⟨_, by rw [HN.out], by rw [HN.out]; exact World.ownsRow_nil _ _ _ _, ?_⟩
                  · have z := Z.out
                    simp [results, Try.results22, go_sem, z.1, z.2.1]
                  · exact bsetE (bsetE J2.out.2.2.2.2.1 lw6) lw6
                · have hsw := HR1.out
                  rw [swE_tick HC0.out ht hk2] at hsw
                  have q1 := congrArg Prod.fst hsw
                  have q2 := congrArg (fun r : Int × Int × Bool × Int => r.2.1) hsw
                  have q3 := congrArg (fun r : Int × Int × Bool × Int => r.2.2.1) hsw
                  have q4 := congrArg (fun r : Int × Int × Bool × Int => r.2.2.2) hsw
                  simp only at q1 q2 q3 q4
                  clear hsw HR1
                  subst q3 q4
                  have HN := Lib.hid (show alF u i l m (qs.drop (j + 1)) x y (j + 1) ms = alF u i l m qs e k 0 [] by rw [← HS.out, HD.out, alF_tick ht hk2, q1, q2])
                  rw [q1] at N2
                  have hy1 : 0 ≤ y ∧ y ≤ 1000000000 := by omega
                  clear q1 q2
                  have J5 := Lib.hid (J2.out.put g5 lw5 n35 (Ne.symm n56) x y)
                  go_wp2_with fail
                  go_roundw
                  case rel => exact ⟨j + 1, _, _, _, by go_num, by omega, by omega, N2.out, hy1, HN.out, J5.out⟩
                  case measure => simp [intOf]; omega
          · obtain rfl : j = qs.length := by omega
            have g6 : b6 < B := hb6w
            have HN := Lib.hid (S0'.out e1 k1 ms (by rw [← HS.out, List.drop_of_length_le (Nat.le_refl _)]; rfl))
            have HJ1 := J.out
            obtain ⟨d0, d1, d2⟩ := HJ1.2.2.1.c2
            obtain ⟨z0, z1, z2⟩ := HJ1.2.2.2.1.c2
            obtain ⟨y0, y1⟩ := HJ1.2.2.2.1.f2
            clear HJ1
            have Z := Lib.hid ((J.out.2.2.2.1.setE (i := 0) (v := .int .i64 e1) rfl).setE (i := 1) (v := .int .i64 k1) rfl).c2
            have hO := Lib.hid (own_lower (ownsRow_setCell_other (a := ⟨b6, 1, none⟩) (ownsRow_setCell_other (a := ⟨b6, 0, none⟩) J.out.1 (fun e => by have := (own_blk J.out.1 b6 e).1; omega) (.int .i64 e1)) (fun e => by have := (own_blk J.out.1 b6 e).1; omega) (.int .i64 k1)) hlw)
            go_wp2_with fail
            refine bodyPost_ret (v := .tuple #[.agg #[.int .i64 e1, .int .i64 k1], u11, .int .i64 0]) ?_ rfl ⟨_, by rw [HN.out], by rw [HN.out]; exact hO.out, ?_⟩
            · have z := Z.out
              simp [results, Try.results22, go_sem, z.1, z.2.1]
            · exact bsetE (bsetE J.out.2.2.2.2.1 lw6) lw6
end Go.Proofs.Ytlgbkkbaiamapaa

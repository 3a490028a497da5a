/-
  The canonical train: spec.l05Canon and spec.CanonTrain.
-/
import Derived.Test.YtnndjbngcaafhaaCnT
import Derived.Test.YtnndjbngcaafhaaTrS
namespace Go.Proofs.Ytnndjbngcaafhaa
open Go.RowKit

theorem at0_rev {a : List Int} {k : Nat} (h : k < a.length) : at0 a.reverse k = at0 a (a.length - 1 - k) := by
  unfold at0
  rw [List.getElem?_reverse h]
theorem rowP0 (w : World) (t : TypeId) : (w.alloc (.cells #[] t)).ownsRow w.heap.size t 2 (.slice (some ⟨w.heap.size, 0, none⟩) 0 0) 0 [] :=
  ⟨rfl, .inr ⟨w.heap.size, 0, #[], rfl, Nat.le_refl _, (MapKept.heap_alloc w _).1, Nat.le_refl _, Nat.zero_le _, rfl, rfl⟩⟩
theorem own_heapC {W W' : World} {B : Nat} {t : TypeId} {sz n : Nat} {v : Value} {xs : List Value} (h : W.ownsRow B t sz v n xs) (e : W'.heap = W.heap) : W'.ownsRow B t sz v n xs := by
  unfold World.ownsRow at h ⊢; rw [e]; exact h
/-- Pairs so far. -/
def CoRel (w1 : World) (a b : List Int) (v i : Value) (wr : World) : Prop :=
  ∃ k : Nat, k ≤ a.length ∧ i = .int .i64 k ∧ wr.ownsRow w1.heap.size 71 2 v k (pairC ((a.zip b).take k)) ∧ Below w1.heap.size w1 wr
theorem co_next {w1 w' : World} {a b : List Int} {k : Nat} {v : Value} {x y : Int} (hk : k < a.length) (hz : (a.zip b).take (k + 1) = (a.zip b).take k ++ [(x, y)]) (ho : w'.ownsRow w1.heap.size 71 2 v (k + 1) (pairC ((a.zip b).take k) ++ [.int .i64 x, .int .i64 y])) (hb : Below w1.heap.size w1 w') :
    CoRel w1 a b v (.int .i64 ((k : Int) + 1)) w' := ⟨k + 1, hk, by go_num, by rw [hz, pairC_snoc]; exact ho, hb⟩
set_option maxRecDepth 100000 in
set_option maxHeartbeats 8000000 in
theorem l05Canon_any (a b : List Int) (v1 v2 : Value) (w : World) (h1 : SlI w v1 a) (h2 : SlI w v2 b) (hl : b.length = a.length) (hmax : a.length ≤ 900) :
    Calls Try.prog 39 #[v1, v2] w fun e w' => ∃ v, e = .returned v ∧ w'.ownsRow w.heap.size 71 2 v ((srtL a).reverse.zip (srtL b)).length (pairC ((srtL a).reverse.zip (srtL b))) ∧ Below w.heap.size w w' := by
  obtain ⟨i0, hi, hz0, hz1, hz2⟩ := info_parts infoPrC
  have S1 := Lib.hid (l05Sort_any a v1 w h1 hmax)
  have S2 := Lib.hid (fun W (hs : SlI W v2 b) => l05Sort_any b v2 W hs (by omega))
  have H2 := Lib.hid h2
  have LA := srt_len a
  have LB := srt_len b
  clear h1 h2
  generalize srtL a = sa at *
  generalize srtL b = sb at *
  go_enter Try.func39, Try.ntmps39
  go_wp2_with fail
  refine S1.out.mono ?_
  rintro e w1 ⟨va, rfl, ho, hb⟩
  have L1 := Lib.hid hb
  have A1 := Lib.hid (slI_of (by rw [LA]; exact ho))
  have H3 := Lib.hid (H2.out.keep hb)
  clear ho hb S1 H2
  go_wp2_with fail
  refine (S2.out _ H3.out).mono ?_
  rintro e w2 ⟨vb, rfl, ho, hb⟩
  have L2 := Lib.hid (bT L1.out hb)
  have A2 := Lib.hid (A1.out.keep hb)
  have B2 := Lib.hid (slI_of (by rw [LB]; exact ho))
  clear ho hb S2 H3 L1 A1
  obtain ⟨ao, ca, ea, hA⟩ := A2.out
  obtain ⟨bo, cb, eb, hB⟩ := B2.out
  subst ea
  subst eb
  have HA := Lib.hid (fun (hn : 1 ≤ sa.length) => (show ∃ g, ao = some ⟨g, 0, none⟩ ∧ g < w2.heap.size ∧ IntsAt w2 g sa from hA hn))
  have HB := Lib.hid (fun (hn : 1 ≤ sb.length) => (show ∃ g, bo = some ⟨g, 0, none⟩ ∧ g < w2.heap.size ∧ IntsAt w2 g sb from hB hn))
  clear hA hB A2 B2
  have hn : sb.length = sa.length := by omega
  have hms : sa.length ≤ 900 := by omega
  clear LA LB hl
  rw [hn]
  have RS := Lib.hid (show CoRel w2 sa.reverse sb (.slice (some ⟨w2.heap.size, 0, none⟩) 0 0) (.int .i64 0) (w2.alloc (.cells #[] 71)) from
    ⟨0, by omega, rfl, by simpa [pairC] using rowP0 w2 71, bA (bR _) _⟩)
  go_wp2_with fail
  go_loopw [7, 8] (fun v i wr => CoRel w2 sa.reverse sb v i wr) (fun _ i _ => sa.length - (intOf i).toNat)
  case atStart => exact RS.out
  case round =>
    obtain ⟨k, hk, rfl, hO, hbw⟩ := hrel
    have hk' : k ≤ sa.length := by simpa using hk
    have HO := Lib.hid hO
    have HBW := Lib.hid hbw
    have HOB := Lib.hid (own_blk hO)
    have hws := hbw.size
    clear hO hbw hk
    by_cases hlt : k < sa.length
    · obtain ⟨g1, rfl, hg1, hc1⟩ := HA.out (by omega)
      obtain ⟨g2, rfl, hg2, hc2⟩ := HB.out (by omega)
      obtain ⟨r, hr⟩ : ∃ r, r = sa.length - 1 - k := ⟨_, rfl⟩
      have c1 := (hc1.keep hg1 HBW.out) r (by omega)
      have c2 := (hc2.keep hg2 HBW.out) k (by omega)
      have HZ := Lib.hid (zip_take (a := sa.reverse) (b := sb) (k := k) (by simpa using hlt) (by omega))
      rw [at0_rev hlt, ← hr] at HZ
      have hix : (sa.length : Int) - 1 - (k : Int) = (r : Int) := by omega
      have hiw : IntKind.i64.wrap (r : Int) = (r : Int) := by rw [IntKind.wrap_i64]; omega
      have hi0 : (0 : Int) ≤ (r : Int) := by omega
      have hi1 : (r : Int) < (sa.length : Int) := by omega
      have hi2 : (k : Int) < (sa.length : Int) := by omega
      have hw0 : IntKind.i64.wrap ((sa.length : Int) - 1) = (sa.length : Int) - 1 := by rw [IntKind.wrap_i64]; omega
      clear hc1 hc2 hr
      generalize at0 sa r = x at *
      generalize at0 sb k = y at *
      go_wp2_with fail
      go_region_law ((refine step_append_lies _ (by rfl) _ _ 44 (by rfl) w2.heap.size 71 i0 (.agg #[.int .i64 0, .int .i64 0]) 2 16 Try.underlying44 hi hz0 hz1 hz2 (by rfl) (by decide) _ k (pairC ((sa.reverse.zip sb).take k)) (by rfl) ((own_heapC (W' := wr.drew) HO.out rfl).alloc _) ⟨wr.heap.size, 0, none⟩ 1 1 [.int .i64 x, .int .i64 y] (by rfl) (by rfl) (row_srcP _ _ _ _ _ (by rfl)) (by intro u hu; simp at hu; rcases hu with rfl | rfl <;> rfl) (by omega) (by unfold maxLen; omega) (by omega) (by simp; omega) _ (by rfl) ?_); intro g' cap' w5 hown5 hg5 hat5 hlt5; have N5 := Lib.hid hown5; have G5 := Lib.hid hg5; clear hown5 hg5 hat5 hlt5)
      all_goals go_wp2_with fail
      all_goals exact ⟨co_next (by simpa using hlt) HZ.out N5.out (bel_grown2 (bA HBW.out.drew _) G5.out (by simp; omega) (fun r e => (HOB.out r e).1)), by simp [intOf]; omega⟩
    · obtain rfl : k = sa.length := by omega
      go_wp2_with fail
      go_ret
      have := HO.out
      rw [show (sa.reverse.zip sb).take sa.length = sa.reverse.zip sb from List.take_of_length_le (by rw [List.length_zip]; simp; omega)] at this
      refine ⟨_, rfl, ?_, L2.out.trans (HBW.out.mono L2.out.size)⟩
      rw [show (sa.reverse.zip sb).length = sa.length by rw [List.length_zip]; simp; omega]
      exact own_lower this L2.out.size
theorem two_start (w1 : World) (t : TypeId) : TwoW w1 t [] [] (.slice (some ⟨w1.heap.size, 0, none⟩) 0 0) (.slice (some ⟨w1.heap.size + 1, 0, none⟩) 0 0) ((w1.alloc (.cells #[] t)).alloc (.cells #[] t)) := by
  refine ⟨own_keep (rowI0 w1 t) (bA (bR _) _), ?_, fun k h h2 => by cases h; have := Option.some.inj h2; simp at this, bA (bA (bR _) _) _⟩
  have := own_lower (rowI0 (w1.alloc (.cells #[] t)) t) (B' := w1.heap.size) (by simp)
  simpa [intC] using this
set_option maxRecDepth 100000 in
set_option maxHeartbeats 4000000 in
theorem CanonTrainS_any (ps : List (Int × Int)) (v : Value) (w : World) (ha : SlP w v ps) (hmax : ps.length ≤ 1000000000000) :
    Calls Try.prog 18 #[v] w (PairsCn w (cnL ps) (cnC ps)) := by
  obtain ⟨i0, hi, hz0, hz1, hz2⟩ := info_parts infoI8
  cases h : okT ps
  · rw [(cn_no h).1, (cn_no h).2]
    have OK := Lib.hid (l05Ok_any ps v w ha hmax)
    rw [h] at OK
    clear h ha
    go_enter Try.func18, Try.ntmps18
    go_wp2_with fail
    refine OK.out.mono ?_
    rintro e w1 ⟨rfl, hb⟩
    go_wp2_with fail
    go_ret2
    exact ⟨_, rfl, World.ownsRow_nil _ _ _ _, hb⟩
  · rw [(cn_yes h).1, (cn_yes h).2]
    have h5 := (okT_iff.1 h).1
    have OK := Lib.hid (l05Ok_any ps v w ha hmax)
    rw [h] at OK
    have HV0 := Lib.hid ha
    clear h ha
    have CN := Lib.hid (fun (va vb : Value) (W : World) (h1 : SlI W va (drv ps)) (h2 : SlI W vb (drn ps)) => l05Canon_any (drv ps) (drn ps) va vb W h1 h2 (by rw [drv_len, drn_len]) (by rw [drv_len]; omega))
    obtain ⟨ao0, cap0, ev, _⟩ := HV0.out
    subst ev
    go_enter Try.func18, Try.ntmps18
    go_wp2_with fail
    refine OK.out.mono ?_
    rintro e w1 ⟨rfl, hb⟩
    have L1 := Lib.hid hb
    have HV := Lib.hid (HV0.out.keep hb)
    have T0 := Lib.hid (two_start w1 2)
    clear hb HV0
    go_wp2_with fail
    go_loopw [4, 5, 6] (fun v1 v2 i wr => WhRel w1 2 ps v1 v2 i wr) (fun _ _ i _ => ps.length - (intOf i).toNat)
    case atStart => exact ⟨0, by omega, rfl, T0.out⟩
    case round =>
      obtain ⟨k, hk, rfl, hT⟩ := hrel
      have HT := Lib.hid hT
      by_cases hlt : k < ps.length
      · obtain ⟨ao', cap', e', ha'⟩ := HV.out
        injection e' with e1 e2 e3
        subst e1 e3
        obtain ⟨g, rfl, hg, hc⟩ := ha' (by omega)
        obtain ⟨c1, c2⟩ := (hc.keep hg hT.bel) k hlt
        obtain ⟨l1, l2⟩ := takeT_len (Nat.le_of_lt hlt)
        have HA := Lib.hid (drv_take hlt)
        have HB := Lib.hid (drn_take hlt)
        have hws := hT.bel.size
        have hgw : g < wr.heap.size := by omega
        have hC2 := fun (W : World) (hb : Below w1.heap.size w1 W) => ((hc.keep hg hb) k hlt).2
        clear e2 ha' hc hT
        generalize drv (ps.take k) = a at *
        generalize drn (ps.take k) = b at *
        generalize (pat ps k).1 = x at *
        generalize (pat ps k).2 = y at *
        have HC2 := Lib.hid hC2
        clear hC2
        have hxA := Lib.hid (bA (bR wr) (.cells #[.int .i64 x] 2))
        go_wp2_with (at_builtin; refine wpList_append_own_at _ rfl _ _ 28 rfl w1.heap.size 2 i0 (.int .i64 0) 1 8 Try.underlying28 hi hz0 hz1 hz2 rfl (by decide) _ a.length (intC a) rfl (own_keep HT.out.oa hxA.out) ⟨wr.heap.size, 0, none⟩ 1 1 [.int .i64 x] rfl rfl (row_srcN _ _ _ _ rfl) ?c3 ?c4 ?c5 ?c6 ?_)
        case c3 => intro u hu; simp at hu; subst hu; rfl
        case c4 => unfold maxLen; omega
        case c5 => omega
        case c6 => simp; omega
        intro v1' wa hown1 hg1 _ hb1
        have T1 := Lib.hid (TwoW.a (v' := v1') (w' := wa) (x := x) HT.out hxA.out (by rw [l1]; exact hown1) hg1 (by simpa using hb1))
        have hga : g < wa.heap.size := Nat.lt_of_lt_of_le hgw (Nat.le_trans hxA.out.size hg1.size)
        have c2' : wa.cell? ⟨g, k * 2 + 1, none⟩ = some (.int .i64 y) := HC2.out wa T1.out.bel
        clear hown1 hg1 hb1
        have hxB := Lib.hid (bA (bR wa) (.cells #[.int .i64 y] 2))
        have hws1 := T1.out.bel.size
        go_wp2_with (at_builtin; refine wpList_append_own_at _ rfl _ _ 28 rfl w1.heap.size 2 i0 (.int .i64 0) 1 8 Try.underlying28 hi hz0 hz1 hz2 rfl (by decide) _ b.length (intC b) rfl (own_keep T1.out.ob hxB.out) ⟨wa.heap.size, 0, none⟩ 1 1 [.int .i64 y] rfl rfl (row_srcN _ _ _ _ rfl) ?c3 ?c4 ?c5 ?c6 ?_)
        case c3 => intro u hu; simp at hu; subst hu; rfl
        case c4 => unfold maxLen; omega
        case c5 => omega
        case c6 => simp; omega
        intro v2' wb hown1 hg1 _ hb1
        have T2 := Lib.hid (TwoW.b (v' := v2') (w' := wb) (x := y) T1.out hxB.out (by rw [l2]; exact hown1) hg1 (by simpa using hb1))
        clear hown1 hg1 hb1
        go_wp2_with fail
        exact ⟨wh_next hlt T2.out HA.out HB.out, by simp [intOf]; omega⟩
      · obtain rfl : k = ps.length := by omega
        have hT' := HT.out
        rw [List.take_length] at hT'
        have T := Lib.hid hT'
        clear hT hT' HT
        go_wp2_with fail
        refine (CN.out _ _ _ (slI_of T.out.oa) (slI_of T.out.ob)).mono ?_
        rintro e w5 ⟨vr, rfl, ho, hb⟩
        have L5 := Lib.hid (bT L1.out (T.out.bel.trans (hb.mono T.out.bel.size)))
        have O5 := Lib.hid (own_lower ho (Nat.le_trans L1.out.size T.out.bel.size))
        clear ho hb
        go_wp2_with fail
        go_ret2
        exact ⟨_, rfl, O5.out, L5.out⟩
end Go.Proofs.Ytnndjbngcaafhaa

/-
  SwingAlong, the program's side.
-/
import Derived.Test.YtlgbkkbaiamapaaEsAI
namespace Go.Proofs.Ytlgbkkbaiamapaa
open Go.RowKit

/-- What stands between two swings along a list. -/
def AlJ (w : World) (B b3 b5 b6 : Nat) (t u i l m e1 k1 : Int) (v : Value) (ms : List Int) (wr : World) : Prop :=
  wr.ownsRow B 2 1 v ms.length (intC ms) ∧ BoxL wr b3 [.int .i64 t, .int .i64 u, .int .i64 i, .int .i64 l, .int .i64 m] ∧ BoxL wr b5 [.int .i64 e1, .int .i64 k1] ∧ BoxL wr b6 [.int .i64 0, .int .i64 0] ∧ Below w.heap.size w wr ∧ B ≤ wr.heap.size
theorem AlJ.keep {w : World} {B b3 b5 b6 : Nat} {t u i l m e1 k1 : Int} {v : Value} {ms : List Int} {wr w2 : World} (h : AlJ w B b3 b5 b6 t u i l m e1 k1 v ms wr) (hb : Below wr.heap.size wr w2) : AlJ w B b3 b5 b6 t u i l m e1 k1 v ms w2 :=
  ⟨own_keep h.1 hb, h.2.1.keep hb, h.2.2.1.keep hb, h.2.2.2.1.keep hb, bT h.2.2.2.2.1 hb, Nat.le_trans h.2.2.2.2.2 hb.size⟩
/-- The row has grown: nothing below B was touched. -/
theorem AlJ.row {w : World} {B b3 b5 b6 : Nat} {t u i l m e1 k1 : Int} {v v' : Value} {ms ms' : List Int} {wr w2 : World} (h : AlJ w B b3 b5 b6 t u i l m e1 k1 v ms wr) (h3 : b3 < B) (h5 : b5 < B) (h6 : b6 < B) (hw : w.heap.size ≤ B) (hr : w2.ownsRow B 2 1 v' ms'.length (intC ms')) (hb : Below B wr w2) : AlJ w B b3 b5 b6 t u i l m e1 k1 v' ms' w2 :=
  ⟨hr, h.2.1.low hb h3, h.2.2.1.low hb h5, h.2.2.2.1.low hb h6, h.2.2.2.2.1.trans (hb.mono hw), Nat.le_trans h.2.2.2.2.2 hb.size⟩
/-- The state's box is written. -/
theorem AlJ.put {w : World} {B b3 b5 b6 : Nat} {t u i l m e1 k1 : Int} {v : Value} {ms : List Int} {wr : World} (h : AlJ w B b3 b5 b6 t u i l m e1 k1 v ms wr) (h5 : b5 < B) (hw5 : w.heap.size ≤ b5) (n35 : ¬ b3 = b5) (n65 : ¬ b6 = b5) (x y : Int) : AlJ w B b3 b5 b6 t u i l m x y v ms ((wr.setCell ⟨b5, 0, none⟩ (.int .i64 x)).setCell ⟨b5, 1, none⟩ (.int .i64 y)) := by
  have hn : v.ownBlock ≠ some b5 := fun e => by have := (own_blk h.1 b5 e).1; omega
  exact ⟨ownsRow_setCell_other (a := ⟨b5, 1, none⟩) (ownsRow_setCell_other (a := ⟨b5, 0, none⟩) h.1 hn _) hn _, (h.2.1.other n35).other n35, (h.2.2.1.setE (i := 0) (v := .int .i64 x) rfl).setE (i := 1) (v := .int .i64 y) rfl, (h.2.2.2.1.other n65).other n65, bsetE (bsetE h.2.2.2.2.1 hw5) hw5, by simpa [World.setCell] using h.2.2.2.2.2⟩
def AlR (w : World) (B b3 b5 b6 : Nat) (t u i l m e k : Int) (qs : List Int) (v9 v31 : Value) (wr : World) : Prop :=
  ∃ (j : Nat) (e1 k1 : Int) (ms : List Int), v31 = .int .i64 j ∧ j ≤ qs.length ∧ ms.length ≤ j ∧ (0 ≤ e1 ∧ e1 ≤ m) ∧ (0 ≤ k1 ∧ k1 ≤ 1000000000) ∧ alF u i l m (qs.drop j) e1 k1 j ms = alF u i l m qs e k 0 [] ∧ AlJ w B b3 b5 b6 t u i l m e1 k1 v9 ms wr
set_option maxRecDepth 100000 in
set_option maxHeartbeats 8000000 in
theorem SwingAlongI_any (t u i l m e k : Int) (qs : List Int) (v : Value) (w : World) (ha : Sl64 w v qs) (hmax : qs.length ≤ 1000000000000) :
    Calls Try.prog 24 #[.agg #[.int .i64 t, .int .i64 u, .int .i64 i, .int .i64 l, .int .i64 m], v, .agg #[.int .i64 e, .int .i64 k]] w (SaP (saE t u i l m qs e k) w) := by
  have CO := Lib.hid (fun W => ValidBeatI_any t u i l m e k W)
  have CQ := Lib.hid (fun W (h : Below w.heap.size w W) => containsQ_any qs v W (ha.keep h) hmax)
  have HA := Lib.hid ha
  obtain ⟨ao, cap, rfl, ha2⟩ := ha
  have HC := Lib.hid ha2
  clear ha2
  have T0 := Lib.hid (show TrB w w.heap.size (w.heap.size + 1) (w.heap.size + 1 + 1) t u i l m e k (((w.alloc (.cells #[.int .i64 t, .int .i64 u, .int .i64 i, .int .i64 l, .int .i64 m] 25)).alloc (.cells #[.int .i64 e, .int .i64 k] 31)).alloc (.cells #[.int .i64 0, .int .i64 0] 31)) from
    ⟨((BoxL.new w [.int .i64 t, .int .i64 u, .int .i64 i, .int .i64 l, .int .i64 m] 25).alloc _).alloc _, (BoxL.at_ (w := w.alloc (.cells #[.int .i64 t, .int .i64 u, .int .i64 i, .int .i64 l, .int .i64 m] 25)) (b := w.heap.size + 1) (vs := [.int .i64 e, .int .i64 k]) (by simp)).alloc _, BoxL.at_ (vs := [.int .i64 0, .int .i64 0]) (by simp), bA (bA (bA (bR w) _) _) _⟩)
  have n35 : ¬ w.heap.size = w.heap.size + 1 := by omega
  have n36 : ¬ w.heap.size = w.heap.size + 1 + 1 := by omega
  have n56 : ¬ w.heap.size + 1 = w.heap.size + 1 + 1 := by omega
  have lw5 : w.heap.size ≤ w.heap.size + 1 := by omega
  have lw6 : w.heap.size ≤ w.heap.size + 1 + 1 := by omega
  cases h1 : okBt t u i l m e k
  · rw [saE_1 h1]
    rw [h1] at CO
    go_enter Try.func24, Try.ntmps24
    go_wp2_with fail
    generalize ((w.alloc (.cells #[.int .i64 t, .int .i64 u, .int .i64 i, .int .i64 l, .int .i64 m] 25)).alloc (.cells #[.int .i64 e, .int .i64 k] 31)).alloc (.cells #[.int .i64 0, .int .i64 0] 31) = W0 at *
    generalize w.heap.size + 1 + 1 = b6 at *
    generalize w.heap.size + 1 = b5 at *
    refine (CO.out _).mono ?_
    rintro en w1 ⟨rfl, hb⟩
    have T1 := Lib.hid (T0.out.keep hb)
    clear hb T0
    obtain ⟨z0, z1, z2⟩ := T1.out.2.2.1.c2
    obtain ⟨f0, f1⟩ := T1.out.2.2.1.f2
    go_wp2_with fail
    refine bodyPost_ret (v := .tuple #[.agg #[.int .i64 0, .int .i64 0], .slice none 0 0, .int .i64 1]) ?_ rfl ⟨_, rfl, World.ownsRow_nil _ _ _ _, ?_⟩
    · simp [results, Try.results24, go_sem, z0, z1]
    · exact (bsetE (bsetE T1.out.2.2.2 lw6) lw6)
  rw [h1] at CO
  cases h2 : okQs qs
  · rw [saE_2 h1 h2]
    by_cases hl : qs.length ≤ 2000
    · have h3 : (!qs.all (fun q => inB q 0 1000)) = true := by
        unfold okQs at h2
        rw [decide_eq_true hl, Bool.true_and] at h2
        rw [h2]; rfl
      rw [h3] at CQ
      clear h3 h2 h1
      go_enter Try.func24, Try.ntmps24
      go_wp2_with fail
      generalize ((w.alloc (.cells #[.int .i64 t, .int .i64 u, .int .i64 i, .int .i64 l, .int .i64 m] 25)).alloc (.cells #[.int .i64 e, .int .i64 k] 31)).alloc (.cells #[.int .i64 0, .int .i64 0] 31) = W0 at *
      generalize w.heap.size + 1 + 1 = b6 at *
      generalize w.heap.size + 1 = b5 at *
      refine (CO.out _).mono ?_
      rintro en w1 ⟨rfl, hb⟩
      have T1 := Lib.hid (T0.out.keep hb)
      clear hb T0
      have CQ1 := Lib.hid (CQ.out w1 T1.out.2.2.2)
      obtain ⟨z0, z1, z2⟩ := T1.out.2.2.1.c2
      obtain ⟨f0, f1⟩ := T1.out.2.2.1.f2
      go_wp2_with fail
      refine CQ1.out.mono ?_
      rintro en w2 ⟨rfl, nq, rfl⟩
      have DB := Lib.hid (below_drewN T1.out.2.2.2 nq)
      go_wp2_with fail
      refine bodyPost_ret (v := .tuple #[.agg #[.int .i64 0, .int .i64 0], .slice none 0 0, .int .i64 2]) ?_ rfl ⟨_, rfl, World.ownsRow_nil _ _ _ _, ?_⟩
      · simp [results, Try.results24, go_sem, z0, z1]
      · exact (bsetE (bsetE DB.out lw6) lw6)
    · clear h2 h1
      have hl2 : (2000 : Int) < (qs.length : Int) := by omega
      go_enter Try.func24, Try.ntmps24
      go_wp2_with fail
      generalize ((w.alloc (.cells #[.int .i64 t, .int .i64 u, .int .i64 i, .int .i64 l, .int .i64 m] 25)).alloc (.cells #[.int .i64 e, .int .i64 k] 31)).alloc (.cells #[.int .i64 0, .int .i64 0] 31) = W0 at *
      generalize w.heap.size + 1 + 1 = b6 at *
      generalize w.heap.size + 1 = b5 at *
      refine (CO.out _).mono ?_
      rintro en w1 ⟨rfl, hb⟩
      have T1 := Lib.hid (T0.out.keep hb)
      clear hb T0
      obtain ⟨z0, z1, z2⟩ := T1.out.2.2.1.c2
      obtain ⟨f0, f1⟩ := T1.out.2.2.1.f2
      go_wp2_with fail
      refine bodyPost_ret (v := .tuple #[.agg #[.int .i64 0, .int .i64 0], .slice none 0 0, .int .i64 2]) ?_ rfl ⟨_, rfl, World.ownsRow_nil _ _ _ _, ?_⟩
      · simp [results, Try.results24, go_sem, z0, z1]
      · exact (bsetE (bsetE T1.out.2.2.2 lw6) lw6)
  obtain ⟨hl, hq⟩ := okQs_parts h2
  have h3 : (!qs.all (fun q => inB q 0 1000)) = false := by
    unfold okQs at h2
    rw [Bool.and_eq_true] at h2
    rw [h2.2]; rfl
  rw [h3] at CQ
  have S5 := Lib.hid (saE_5 h1 h2)
  have S0 := Lib.hid (fun a b ms => saE_0 (a := a) (b := b) (ms := ms) h1 h2)
  obtain ⟨hE, he, hk⟩ := okBt_bd h1
  have NX := Lib.hid (fun q e k W (hq : 0 ≤ q ∧ q ≤ 1000) (he : 0 ≤ e ∧ e ≤ m) (hk : 0 ≤ k ∧ k ≤ 9000000000) => next_any t u i l m e k q W hE he hq hk)
  have NB := Lib.hid (fun q e (hq : 0 ≤ q ∧ q ≤ 1000) (he : 0 ≤ e ∧ e ≤ m) => nxS_bd hE hq he)
  have HQ := Lib.hid hq
  have HI := Lib.hid (And.intro he hk)
  clear h3 h2 h1 hE he hk hq
  generalize saE t u i l m qs e k = R at *
  go_enter Try.func24, Try.ntmps24
  go_wp2_with fail
  generalize ((w.alloc (.cells #[.int .i64 t, .int .i64 u, .int .i64 i, .int .i64 l, .int .i64 m] 25)).alloc (.cells #[.int .i64 e, .int .i64 k] 31)).alloc (.cells #[.int .i64 0, .int .i64 0] 31) = W0 at *
  have hb6 : w.heap.size + 1 + 1 < W0.heap.size := T0.out.2.2.1.lt
  have hb5 : w.heap.size + 1 < W0.heap.size := T0.out.2.1.lt
  have hb3 : w.heap.size < W0.heap.size := T0.out.1.lt
  generalize w.heap.size + 1 + 1 = b6 at *
  generalize w.heap.size + 1 = b5 at *
  refine (CO.out _).mono ?_
  rintro en w1 ⟨rfl, hb⟩
  have hz := hb.size
  have T1 := Lib.hid (T0.out.keep hb)
  clear hb T0
  have CQ1 := Lib.hid (CQ.out w1 T1.out.2.2.2)
  go_wp2_with fail
  refine CQ1.out.mono ?_
  rintro en w2 ⟨rfl, nq, rfl⟩
  have T2 := Lib.hid (T1.out.keep (below_drewN (bR w1) nq))
  clear CQ1 T1
  have RS := Lib.hid (show AlR w w1.heap.size w.heap.size b5 b6 t u i l m e k qs (.slice none 0 0) (.int .i64 0) (w1.drewN nq) from ⟨0, e, k, [], rfl, Nat.zero_le _, Nat.zero_le _, HI.out.1, HI.out.2, rfl, World.ownsRow_nil _ _ _ _, T2.out.1, T2.out.2.1, T2.out.2.2.1, T2.out.2.2.2, Nat.le_refl _⟩)
  clear T2
  have g3 : w.heap.size < w1.heap.size := by omega
  have g5 : b5 < w1.heap.size := by omega
  have g6 : b6 < w1.heap.size := by omega
  generalize w1.heap.size = B at *
  generalize w1.drewN nq = W1 at *
  clear hz hb3 hb5 hb6
  go_wp2_with fail
  go_loopw [9, 31] (fun v9 v31 wr => AlR w B w.heap.size b5 b6 t u i l m e k qs v9 v31 wr) (fun _ v31 _ => qs.length - (intOf v31).toNat)
  case atStart => exact RS.out
  case round =>
    obtain ⟨j, e1, k1, ms, rfl, hj, hms, he1, hk1, hs, hJ⟩ := hrel
    have J := Lib.hid hJ
    have HS := Lib.hid hs
    clear hJ hs RS
    by_cases hlt : j < qs.length
    · obtain ⟨g, rfl, hg, hc⟩ := HC.out (by omega)
      have c9 : wr.cell? ⟨g, j, none⟩ = some (.int .i64 (at0 qs j)) := (J.out.2.2.2.2.1.cell (p := ⟨g, j, none⟩) hg).trans (hc j hlt)
      have hqj := HQ.out j hlt
      have HD := Lib.hid (drop_at hlt)
      have N1 := Lib.hid (fun W => NX.out (at0 qs j) e1 k1 W hqj he1 (by omega))
      have N2 := Lib.hid (NB.out (at0 qs j) e1 hqj he1)
      clear hc HC HQ
      generalize at0 qs j = q at *
      have HJ1 := J.out
      obtain ⟨c0, c1, c2, c3, c4, c5⟩ := HJ1.2.1.c5
      obtain ⟨d0, d1, d2⟩ := HJ1.2.2.1.c2
      clear HJ1
      go_wp2_with fail
      refine (N1.out _).mono ?_
      rintro en w3 ⟨rfl, hb⟩
      have J2 := Lib.hid (J.out.keep (by first | exact hb | exact bT (bR _).drew hb))
      clear hb J c0 c1 c2 c3 c4 c5 d0 d1 d2 c9
      have HJ1 := J2.out
      obtain ⟨d0, d1, d2⟩ := HJ1.2.2.1.c2
      obtain ⟨f0, f1⟩ := HJ1.2.2.1.f2
      obtain ⟨z0, z1, z2⟩ := HJ1.2.2.2.1.c2
      obtain ⟨y0, y1⟩ := HJ1.2.2.2.1.f2
      clear HJ1
      have n5 : ¬ b5 = w3.heap.size := by omega
      have n6 : ¬ b6 = w3.heap.size := by omega
      cases ht : tkS u l q e1
      · have HN := Lib.hid (show alF u i l m (qs.drop (j + 1)) (nxS u i l m q e1) k1 (j + 1) (ms ++ [(j : Int)]) = alF u i l m qs e k 0 [] by rw [← HS.out, HD.out, alF_miss ht])
        have hlm : ms.length ≤ 2000 := by omega
        have J3 := Lib.hid (J2.out.keep (bA (bR w3) (.cells #[.int .i64 (nxS u i l m q e1), .int .i64 k1] 31)))
        have X12 := Lib.hid (BoxL.new w3 [.int .i64 (nxS u i l m q e1), .int .i64 k1] 31)
        have F12 := Lib.hid (show u9.ownBlock ≠ some w3.heap.size from fun e => by have := (own_blk J2.out.1 _ e).2; omega)
        go_wp2_with (at_builtin; refine app64 rfl _ _ rfl _ _ (j : Int) rfl J3.out.1 J3.out.2.2.2.2.2 (by show Value.slice (some ⟨w3.heap.size + 1, 0, none⟩) 1 1 = _; simp) hlm ?_)
        intro v' w' hrow hbl hbx
        have X13 := hbx _ _ X12.out F12.out
        have J4 := Lib.hid (J3.out.row (ms' := ms ++ [(j : Int)]) g3 g5 g6 (by omega) (by rw [List.length_append]; exact hrow) hbl)
        obtain ⟨x0, x1, x2⟩ := X13.c2
        have J5 := Lib.hid (J4.out.put g5 lw5 n35 (Ne.symm n56) (nxS u i l m q e1) k1)
        have HJ1 := J4.out
        clear hrow hbl hbx X13 J3 X12 F12 d0 d1 d2 f0 f1 z0 z1 z2 y0 y1
        obtain ⟨d0, d1, d2⟩ := HJ1.2.2.1.c2
        obtain ⟨f0, f1⟩ := HJ1.2.2.1.f2
        clear HJ1 J4
        go_wp2_with fail
        go_roundw
        case rel => exact ⟨j + 1, _, _, _, by go_num, by omega, by simp; omega, N2.out, hk1, HN.out, J5.out⟩
        case measure => simp [intOf]; omega
      · by_cases hk : k1 = 1000000000
        · have HN := Lib.hid (S5.out (by rw [← HS.out, HD.out, alF_full ht hk]))
          have Z := Lib.hid (((J2.out.2.2.2.1.setE (i := 0) (v := .int .i64 0) rfl).setE (i := 1) (v := .int .i64 0) rfl).alloc (.cells #[.int .i64 (nxS u i l m q e1), .int .i64 1000000001] 31)).c2
          go_wp2_with fail
          refine bodyPost_ret (v := .tuple #[.agg #[.int .i64 0, .int .i64 0], .slice none 0 0, .int .i64 5]) ?_ rfl ⟨_, by rw [HN.out], by rw [HN.out]; exact World.ownsRow_nil _ _ _ _, ?_⟩
          · have z := Z.out
            simp [results, Try.results24, go_sem, z.1, z.2.1]
          · exact bA (bsetE (bsetE J2.out.2.2.2.2.1 lw6) lw6) _
        · have HN := Lib.hid (show alF u i l m (qs.drop (j + 1)) (nxS u i l m q e1) (k1 + 1) (j + 1) ms = alF u i l m qs e k 0 [] by rw [← HS.out, HD.out, alF_tick ht hk])
          have J5 := Lib.hid ((J2.out.put g5 lw5 n35 (Ne.symm n56) (nxS u i l m q e1) (k1 + 1)).keep (bA (bR _) (.cells #[.int .i64 (nxS u i l m q e1), .int .i64 (k1 + 1)] 31)))
          go_wp2_with fail
          go_roundw
          case rel => exact ⟨j + 1, _, _, _, by go_num, by omega, by omega, N2.out, by omega, HN.out, J5.out⟩
          case measure => simp [intOf]; omega
    · obtain rfl : j = qs.length := by omega
      have HN := Lib.hid (S0.out e1 k1 ms (by rw [← HS.out, List.drop_of_length_le (Nat.le_refl _)]; rfl))
      have HJ1 := J.out
      obtain ⟨d0, d1, d2⟩ := HJ1.2.2.1.c2
      obtain ⟨z0, z1, z2⟩ := HJ1.2.2.2.1.c2
      obtain ⟨y0, y1⟩ := HJ1.2.2.2.1.f2
      clear HJ1
      have Z := Lib.hid ((J.out.2.2.2.1.setE (i := 0) (v := .int .i64 e1) rfl).setE (i := 1) (v := .int .i64 k1) rfl).c2
      have hO := Lib.hid (own_lower (ownsRow_setCell_other (a := ⟨b6, 1, none⟩) (ownsRow_setCell_other (a := ⟨b6, 0, none⟩) J.out.1 (fun e => by have := (own_blk J.out.1 b6 e).1; omega) (.int .i64 e1)) (fun e => by have := (own_blk J.out.1 b6 e).1; omega) (.int .i64 k1)) (show w.heap.size ≤ B by omega))
      go_wp2_with fail
      refine bodyPost_ret (v := .tuple #[.agg #[.int .i64 e1, .int .i64 k1], u9, .int .i64 0]) ?_ rfl ⟨_, by rw [HN.out], by rw [HN.out]; exact hO.out, ?_⟩
      · have z := Z.out
        simp [results, Try.results24, go_sem, z.1, z.2.1]
      · exact bsetE (bsetE J.out.2.2.2.2.1 lw6) lw6
end Go.Proofs.Ytlgbkkbaiamapaa

/-
  Swings with one torque, the program's side.
-/
import Derived.Test.YtkagciekoeaijaaEsX
import Derived.Test.YtkagciekoeaijaaEsAJ
import Derived.Test.YtkagciekoeaijaaEsR
import Derived.Test.YtkagciekoeaijaaEsC
namespace Go.Proofs.Ytkagciekoeaijaa
open Go.RowKit

theorem mn_al (u i l m q : Int) : ∀ (n : Nat) (e k j : Int) (ms : List Int), (alF u i l m (List.replicate n q) e k j ms).map (fun r => (r.1, r.2.1)) = mnF (nxS u i l m q) (tkS u l q) n e k
  | 0, e, k, j, ms => rfl
  | n + 1, e, k, j, ms => by
    rw [List.replicate_succ]
    cases ht : tkS u l q e
    · rw [alF_miss ht, mnF_miss ht]; exact mn_al u i l m q n _ _ _ _
    · by_cases hk : k = 1000000000
      · rw [alF_full ht hk, mnF_full ht hk]; rfl
      · rw [alF_tick ht hk, mnF_tick ht hk]; exact mn_al u i l m q n _ _ _ _
theorem okQs_rep {q : Int} {n : Nat} (hq : inB q 0 1000 = true) (hn : n ≤ 2000) : okQs (List.replicate n q) = true := by
  simp [okQs, hn, hq]
/-- Swings with one torque are a list of equal torques. -/
theorem smE_sa {t u i l m q e k : Int} {n : Nat} (h1 : okBt t u i l m e k = true) (h2 : inB q 0 1000 = true) (h3 : inB (n : Int) 0 2000 = true) : smE t u i l m q n e k = ((saE t u i l m (List.replicate n q) e k).1, (saE t u i l m (List.replicate n q) e k).2.1, (saE t u i l m (List.replicate n q) e k).2.2.2) := by
  have hn : n ≤ 2000 := by have := (inB_true.1 h3).2; omega
  have c := cdE_0 h1 h2
  have hm := mn_al u i l m q n e k 0 []
  cases ha : alF u i l m (List.replicate n q) e k 0 []
  · rw [ha] at hm
    rw [smE_5 c h3 hm.symm, saE_5 h1 (okQs_rep h2 hn) ha]
  · next r =>
    rw [ha] at hm
    obtain ⟨a, b, ms⟩ := r
    rw [smE_0 c h3 hm.symm, saE_0 h1 (okQs_rep h2 hn) ha]
theorem re_sl {w w' : World} {q : Int} {n : Nat} (h : w'.ownsRow w.heap.size 2 1 (.slice (some ⟨w.heap.size, 0, none⟩) n n) n (intC (List.replicate n q))) : Sl64 w' (.slice (some ⟨w.heap.size, 0, none⟩) n n) (List.replicate n q) := by
  have e : (List.replicate n q).length = n := List.length_replicate
  have h2 : w'.ownsRow w.heap.size 2 1 (.slice (some ⟨w.heap.size, 0, none⟩) n n) (List.replicate n q).length (intC (List.replicate n q)) := by rw [e]; exact h
  exact sl64_of h2
theorem repeat_ex (q : Int) (n b : Nat) (w : World) (hn : n ≤ 2000) (hc : w.cell? ⟨b, 0, none⟩ = some (.int .i64 q)) (hb : b < w.heap.size) :
    Calls Try.prog 50 #[.slice (some ⟨b, 0, none⟩) 1 1, .int .i64 n] w fun en w' => ∃ v, en = .returned v ∧ Sl64 w' v (List.replicate n q) ∧ Below w.heap.size w w' :=
  (repeat_any q n b w hn hc hb).mono fun _ _ ⟨he, hr, hl⟩ => ⟨_, he, re_sl hr, hl⟩
set_option maxRecDepth 100000 in
set_option maxHeartbeats 2000000 in
theorem SwingManyI_any (t u i l m q n e k : Int) (w : World) :
    Calls Try.prog 22 #[.agg #[.int .i64 t, .int .i64 u, .int .i64 i, .int .i64 l, .int .i64 m], .int .i64 q, .int .i64 n, .agg #[.int .i64 e, .int .i64 k]] w (SmP (smE t u i l m q n e k) w) := by
  have CO := Lib.hid (fun W => ValidBeatI_any t u i l m e k W)
  have T0 := Lib.hid (show TrB3 w w.heap.size (w.heap.size + 1) (w.heap.size + 1 + 1) t u i l m e k (((w.alloc (.cells #[.int .i64 t, .int .i64 u, .int .i64 i, .int .i64 l, .int .i64 m] 25)).alloc (.cells #[.int .i64 e, .int .i64 k] 28)).alloc (.cells #[.int .i64 0, .int .i64 0] 28)) from
    ⟨((BoxL.new w [.int .i64 t, .int .i64 u, .int .i64 i, .int .i64 l, .int .i64 m] 25).alloc _).alloc _, (BoxL.at_ (w := w.alloc (.cells #[.int .i64 t, .int .i64 u, .int .i64 i, .int .i64 l, .int .i64 m] 25)) (b := w.heap.size + 1) (vs := [.int .i64 e, .int .i64 k]) (by simp)).alloc _, BoxL.at_ (vs := [.int .i64 0, .int .i64 0]) (by simp), bA (bA (bA (bR w) _) _) _⟩)
  have n35 : ¬ w.heap.size = w.heap.size + 1 := by omega
  have n36 : ¬ w.heap.size = w.heap.size + 1 + 1 := by omega
  have n56 : ¬ w.heap.size + 1 = w.heap.size + 1 + 1 := by omega
  have lw6 : w.heap.size ≤ w.heap.size + 1 + 1 := by omega
  cases h1 : okBt t u i l m e k
  · have c1 := cdE_1 (q := q) h1
    have HN := Lib.hid (show smE t u i l m q n e k = (0, 0, 1) by rw [smE_no (by omega), c1])
    clear c1
    rw [h1] at CO
    go_enter Try.func22, Try.ntmps22
    go_wp2_with fail
    generalize ((w.alloc (.cells #[.int .i64 t, .int .i64 u, .int .i64 i, .int .i64 l, .int .i64 m] 25)).alloc (.cells #[.int .i64 e, .int .i64 k] 28)).alloc (.cells #[.int .i64 0, .int .i64 0] 28) = W0 at *
    generalize w.heap.size + 1 + 1 = b6 at *
    generalize w.heap.size + 1 = b5 at *
    refine (CO.out _).mono ?_
    rintro en w1 ⟨rfl, hb⟩
    have T1 := Lib.hid (T0.out.keep hb)
    clear hb T0
    obtain ⟨z0, z1, z2⟩ := T1.out.2.2.1.c2
    obtain ⟨f0, f1⟩ := T1.out.2.2.1.f2
    go_wp2_with fail
    refine bodyPost_ret (v := .tuple #[.agg #[.int .i64 0, .int .i64 0], .int .i64 1]) ?_ rfl ⟨by rw [HN.out], ?_⟩
    · simp [results, Try.results22, go_sem, z0, z1]
    · exact bsetS (bsetS T1.out.2.2.2 lw6) lw6
  rw [h1] at CO
  cases h2 : (inB q 0 1000 && inB n 0 2000)
  · have HN := Lib.hid (show smE t u i l m q n e k = (0, 0, 2) by
      cases hq : inB q 0 1000
      · have c1 := cdE_2 h1 hq
        rw [smE_no (by omega), c1]
      · rw [hq, Bool.true_and] at h2
        exact smE_2 (cdE_0 h1 hq) h2)
    go_enter Try.func22, Try.ntmps22
    go_wp2_with fail
    generalize ((w.alloc (.cells #[.int .i64 t, .int .i64 u, .int .i64 i, .int .i64 l, .int .i64 m] 25)).alloc (.cells #[.int .i64 e, .int .i64 k] 28)).alloc (.cells #[.int .i64 0, .int .i64 0] 28) = W0 at *
    generalize w.heap.size + 1 + 1 = b6 at *
    generalize w.heap.size + 1 = b5 at *
    refine (CO.out _).mono ?_
    rintro en w1 ⟨rfl, hb⟩
    have T1 := Lib.hid (T0.out.keep hb)
    clear hb T0
    obtain ⟨z0, z1, z2⟩ := T1.out.2.2.1.c2
    obtain ⟨f0, f1⟩ := T1.out.2.2.1.f2
    cases hq : inB q 0 1000
    · go_wp2_with (first | (go_at_call 38; refine (isNoTorque_any _ _).mono ?_; rintro e w1 ⟨rfl, rfl⟩) | (go_at_call 49; refine (isBetween_any _ _ _ _).mono ?_; rintro e w1 ⟨rfl, rfl⟩))
      refine bodyPost_ret (v := .tuple #[.agg #[.int .i64 0, .int .i64 0], .int .i64 2]) ?_ rfl ⟨by rw [HN.out], ?_⟩
      · simp [results, Try.results22, go_sem, z0, z1]
      · exact bsetS (bsetS T1.out.2.2.2 lw6) lw6
    · have hn : inB n 0 2000 = false := by rw [hq, Bool.true_and] at h2; exact h2
      clear h2
      go_wp2_with (first | (go_at_call 38; refine (isNoTorque_any _ _).mono ?_; rintro e w1 ⟨rfl, rfl⟩) | (go_at_call 49; refine (isBetween_any _ _ _ _).mono ?_; rintro e w1 ⟨rfl, rfl⟩))
      refine bodyPost_ret (v := .tuple #[.agg #[.int .i64 0, .int .i64 0], .int .i64 2]) ?_ rfl ⟨by rw [HN.out], ?_⟩
      · simp [results, Try.results22, go_sem, z0, z1]
      · exact bsetS (bsetS T1.out.2.2.2 lw6) lw6
  obtain ⟨hq, hn⟩ := Bool.and_eq_true_iff.1 h2
  obtain ⟨N, rfl⟩ := Int.eq_ofNat_of_zero_le (inB_true.1 hn).1
  have hN : N ≤ 2000 := by have := (inB_true.1 hn).2; omega
  have SA := Lib.hid (fun v W (h : Sl64 W v (List.replicate N q)) => SwingAlongI_any t u i l m e k (List.replicate N q) v W h (by rw [List.length_replicate]; omega))
  rw [smE_sa h1 hq hn]
  clear h1 h2
  unfold SaP at SA
  generalize saE t u i l m (List.replicate N q) e k = R at *
  obtain ⟨x, y, ms, c⟩ := R
  simp only at SA
  go_enter Try.func22, Try.ntmps22
  go_wp2_with fail
  generalize ((w.alloc (.cells #[.int .i64 t, .int .i64 u, .int .i64 i, .int .i64 l, .int .i64 m] 25)).alloc (.cells #[.int .i64 e, .int .i64 k] 28)).alloc (.cells #[.int .i64 0, .int .i64 0] 28) = W0 at *
  generalize w.heap.size + 1 + 1 = b6 at *
  generalize w.heap.size + 1 = b5 at *
  refine (CO.out _).mono ?_
  rintro en w1 ⟨rfl, hb⟩
  have T1 := Lib.hid (T0.out.keep hb)
  clear hb T0
  obtain ⟨c0, c1, c2, c3, c4, c5⟩ := T1.out.1.c5
  go_wp2_with (first | (go_at_call 38; refine (isNoTorque_any _ _).mono ?_; rintro e w1 ⟨rfl, rfl⟩) | (go_at_call 49; refine (isBetween_any _ _ _ _).mono ?_; rintro e w1 ⟨rfl, rfl⟩))
  have HK := Lib.hid (fun (w' : World) (hb : Below w1.heap.size w1 w') => show EbC w1 w.heap.size b5 t u i l m e k w' from EbC.of ⟨T1.out.1.keep hb, T1.out.2.1.keep hb, hb⟩)
  clear c0 c1 c2 c3 c4 c5
  go_cut [10, 12] (fun s10 s12 wx => ∃ kk : Nat, s10 = .pointer (some ⟨kk, 0, none⟩) ∧ s12 = .int .i64 c ∧ BoxL wx kk [.int .i64 x, .int .i64 y] ∧ w1.heap.size ≤ kk ∧ Below w1.heap.size w1 wx)
  case first =>
    go_region_held3 (fun w' => w'.cell? ⟨w.heap.size, 0, none⟩ = some (.int .i64 t) ∧ w'.cell? ⟨w.heap.size, 1, none⟩ = some (.int .i64 u) ∧ w'.cell? ⟨w.heap.size, 2, none⟩ = some (.int .i64 i) ∧ w'.cell? ⟨w.heap.size, 3, none⟩ = some (.int .i64 l) ∧ w'.cell? ⟨w.heap.size, 4, none⟩ = some (.int .i64 m) ∧ w'.cell? ⟨b5, 0, none⟩ = some (.int .i64 e) ∧ w'.cell? ⟨b5, 1, none⟩ = some (.int .i64 k) ∧ w.heap.size < w'.heap.size ∧ b5 < w'.heap.size ∧ Below w1.heap.size w1 w') (first | exact HK.out _ (bR _).drew | exact HK.out _ (bT (EbC.bel (b := w.heap.size) (c := b5) (t := t) (u := u) (i := i) (l := l) (m := m) (e := e) (k := k) (by assumption)) hb) | exact HK.out _ (bA (EbC.bel (b := w.heap.size) (c := b5) (t := t) (u := u) (i := i) (l := l) (m := m) (e := e) (k := k) (by assumption)) _) | exact HK.out _ (bA (Hid.out (by assumption)) _) | exact HK.out _ (bA (bA (Hid.out (by assumption)) _) _) | ((refine HK.out _ (Below.setCell (Below.setCell (EbC.bel (b := w.heap.size) (c := b5) (t := t) (u := u) (i := i) (l := l) (m := m) (e := e) (k := k) (by assumption)) ?_ _) ?_ _)) <;> (first | omega | (simp; omega) | (simp; done))))
      (first
        | (go_at_call 50; refine (repeat_ex q N _ _ hN (by first | (simp [go_sem]; done) | assumption) (by first | (simp; done) | omega | (simp; omega))).mono ?_; rintro en x5 ⟨vr, rfl, hr5, hb⟩; have HSL := Lib.hid hr5; have hTw := Lib.hid (show Below w1.heap.size w1 x5 from bT (EbC.bel (b := w.heap.size) (c := b5) (t := t) (u := u) (i := i) (l := l) (m := m) (e := e) (k := k) (by assumption)) hb); have hszw := hTw.out.size; first | (have ZB : Hid (BoxL x5 (w1.heap.size + 1) [.int .i64 0, .int .i64 0]) := Lib.hid (BoxL.keep (BoxL.keep (BoxL.at_ (w := w1.alloc (.cells #[.int .i64 q] 2)) (b := w1.heap.size + 1) (vs := [.int .i64 0, .int .i64 0]) (T := 28) (by simp)) (bR _).drew) hb); obtain ⟨o0, o1, o2⟩ := ZB.out.c2; obtain ⟨p0, p1⟩ := ZB.out.f2) | (have ZB : Hid (BoxL x5 w1.heap.size [.int .i64 0, .int .i64 0]) := Lib.hid (BoxL.keep (BoxL.keep ((BoxL.new w1 [.int .i64 0, .int .i64 0] 28).alloc (.cells #[.int .i64 q] 2)) (bR _).drew) hb); obtain ⟨o0, o1, o2⟩ := ZB.out.c2; obtain ⟨p0, p1⟩ := ZB.out.f2) | (have ZB : Hid (BoxL x5 w1.heap.size [.int .i64 0, .int .i64 0]) := Lib.hid (BoxL.keep (BoxL.new w1.drew [.int .i64 0, .int .i64 0] 28) hb); obtain ⟨o0, o1, o2⟩ := ZB.out.c2; obtain ⟨p0, p1⟩ := ZB.out.f2) | (have ZB : Hid (BoxL x5 w1.heap.size [.int .i64 0, .int .i64 0]) := Lib.hid (BoxL.keep (BoxL.keep (BoxL.new w1 [.int .i64 0, .int .i64 0] 28) (bR _).drew) hb); obtain ⟨o0, o1, o2⟩ := ZB.out.c2; obtain ⟨p0, p1⟩ := ZB.out.f2) | (have ZB := Lib.hid (BoxL.keep ZB.out hb); obtain ⟨o0, o1, o2⟩ := ZB.out.c2; obtain ⟨p0, p1⟩ := ZB.out.f2) | (have ZB := Lib.hid (BoxL.keep (BoxL.new _ [.int .i64 0, .int .i64 0] 28) hb); obtain ⟨o0, o1, o2⟩ := ZB.out.c2; obtain ⟨p0, p1⟩ := ZB.out.f2) | (have ZB := Lib.hid (BoxL.keep (BoxL.keep (BoxL.new _ [.int .i64 0, .int .i64 0] 28) (bA (bR _) _)) hb); obtain ⟨o0, o1, o2⟩ := ZB.out.c2; obtain ⟨p0, p1⟩ := ZB.out.f2) | skip)
        | (go_at_call 10; refine (SA.out _ _ (by first | exact HSL.out | exact HSL.out.keep (bA (bR _) _))).mono ?_; rintro en x5 ⟨vms, rfl, hr5, hb⟩; have hTw := Lib.hid (show Below w1.heap.size w1 x5 from bT (EbC.bel (b := w.heap.size) (c := b5) (t := t) (u := u) (i := i) (l := l) (m := m) (e := e) (k := k) (by assumption)) hb); have hszw := hTw.out.size; first | (have ZB : Hid (BoxL x5 (w1.heap.size + 1) [.int .i64 0, .int .i64 0]) := Lib.hid (BoxL.keep (BoxL.keep (BoxL.at_ (w := w1.alloc (.cells #[.int .i64 q] 2)) (b := w1.heap.size + 1) (vs := [.int .i64 0, .int .i64 0]) (T := 28) (by simp)) (bR _).drew) hb); obtain ⟨o0, o1, o2⟩ := ZB.out.c2; obtain ⟨p0, p1⟩ := ZB.out.f2) | (have ZB : Hid (BoxL x5 w1.heap.size [.int .i64 0, .int .i64 0]) := Lib.hid (BoxL.keep (BoxL.keep ((BoxL.new w1 [.int .i64 0, .int .i64 0] 28).alloc (.cells #[.int .i64 q] 2)) (bR _).drew) hb); obtain ⟨o0, o1, o2⟩ := ZB.out.c2; obtain ⟨p0, p1⟩ := ZB.out.f2) | (have ZB : Hid (BoxL x5 w1.heap.size [.int .i64 0, .int .i64 0]) := Lib.hid (BoxL.keep (BoxL.new w1.drew [.int .i64 0, .int .i64 0] 28) hb); obtain ⟨o0, o1, o2⟩ := ZB.out.c2; obtain ⟨p0, p1⟩ := ZB.out.f2) | (have ZB : Hid (BoxL x5 w1.heap.size [.int .i64 0, .int .i64 0]) := Lib.hid (BoxL.keep (BoxL.keep (BoxL.new w1 [.int .i64 0, .int .i64 0] 28) (bR _).drew) hb); obtain ⟨o0, o1, o2⟩ := ZB.out.c2; obtain ⟨p0, p1⟩ := ZB.out.f2) | (have ZB := Lib.hid (BoxL.keep ZB.out hb); obtain ⟨o0, o1, o2⟩ := ZB.out.c2; obtain ⟨p0, p1⟩ := ZB.out.f2) | (have ZB := Lib.hid (BoxL.keep (BoxL.new _ [.int .i64 0, .int .i64 0] 28) hb); obtain ⟨o0, o1, o2⟩ := ZB.out.c2; obtain ⟨p0, p1⟩ := ZB.out.f2) | (have ZB := Lib.hid (BoxL.keep (BoxL.keep (BoxL.new _ [.int .i64 0, .int .i64 0] 28) (bA (bR _) _)) hb); obtain ⟨o0, o1, o2⟩ := ZB.out.c2; obtain ⟨p0, p1⟩ := ZB.out.f2) | skip))
    all_goals (go_wp2_with fail; go_meet; refine ⟨_, rfl, rfl, ?_, ?_, ?_⟩)
    all_goals first
      | exact BoxL.new _ [.int .i64 x, .int .i64 y] _
      | exact bA hTw.out _
      | exact hszw
      | exact (BoxL.setS (BoxL.setS ZB.out (i := 0) (v := .int .i64 x) rfl) (i := 1) (v := .int .i64 y) rfl)
      | exact Nat.le_refl _
      | omega
      | (refine (hTw.out.setCell (p := ⟨_, 0, none⟩) ?_ _).setCell (p := ⟨_, 1, none⟩) ?_ _ <;> first | exact Nat.le_refl _ | (dsimp only; omega))
  case rest =>
    obtain ⟨kk, rfl, rfl, hX, hkk, hB⟩ := hcut
    have T2 := Lib.hid (T1.out.keep hB)
    have hb6 := T1.out.2.2.1.lt
    clear hB HK T1
    generalize wc = w5 at *
    obtain ⟨x0, x1, x2⟩ := hX.c2
    obtain ⟨z0, z1, z2⟩ := T2.out.2.2.1.c2
    obtain ⟨f0, f1⟩ := T2.out.2.2.1.f2
    have n6 : ¬ b6 = kk := by omega
    clear hX
    go_wp2_with fail
    refine bodyPost_ret (v := .tuple #[.agg #[.int .i64 x, .int .i64 y], .int .i64 c]) ?_ rfl ⟨rfl, ?_⟩
    · simp [results, Try.results22, go_sem, z0, z1]
    · exact bsetS (bsetS T2.out.2.2.2 lw6) lw6
end Go.Proofs.Ytkagciekoeaijaa

/-
  The canonical train: spec.l05Sort.
-/
import Derived.Test.YtmmmbchlkjljaaaCnS
namespace Go.Proofs.Ytmmmbchlkjljaaa
open Go.RowKit

theorem slI_of {W : World} {B : Nat} {t : TypeId} {v : Value} {ts : List Int} (h : W.ownsRow B t 1 v ts.length (intC ts)) : SlI W v ts := by
  rcases h.2 with ⟨rfl, h0⟩ | ⟨g, cap, cur, rfl, hB, hh, _⟩
  · exact ⟨none, 0, by rw [h0], fun h1 => by omega⟩
  · refine ⟨_, cap, rfl, fun _ => ⟨g, rfl, (Array.getElem?_eq_some_iff.1 hh).1, fun i hi => ?_⟩⟩
    rw [h.cellAt i (by simpa using hi)]
    unfold intC at0
    rw [List.getElem?_map, List.getElem?_eq_getElem hi]; rfl
theorem own_at0 {W : World} {B : Nat} {t : TypeId} {g c k : Nat} {o : List Int} (h : W.ownsRow B t 1 (.slice (some ⟨g, 0, none⟩) k c) k (intC o)) (hk : o.length = k) : IntsAt W g o := by
  subst hk
  intro i hi
  rw [h.cellAt i (by simpa using hi)]
  unfold intC at0
  rw [List.getElem?_map, List.getElem?_eq_getElem hi]; rfl
theorem own_capI {W : World} {B : Nat} {t : TypeId} {g c k : Nat} {xs : List Value} (h : W.ownsRow B t 1 (.slice (some ⟨g, 0, none⟩) k c) k xs) : k ≤ c ∧ c ≤ 9223372036854775807 ∧ g < W.heap.size ∧ B ≤ g := by
  rcases h.2 with ⟨e, _⟩ | ⟨g', cap, cur, e, hB, hh, h1, h2, _⟩
  · cases e
  · cases e; exact ⟨h1, by unfold maxLen at h2; omega, (Array.getElem?_eq_some_iff.1 hh).1, hB⟩
theorem so_after {w W4 WX w6 : World} {B k g c g5 : Nat} {o : List Int} (hO : W4.ownsRow B 2 1 (.slice (some ⟨g, 0, none⟩) k c) k (intC o)) (hL : Below w.heap.size w W4) (hb : Below W4.heap.size W4 WX) (h5 : W4.heap.size ≤ g5) (hg : WX.grownBy w6 (some g5)) :
    w6.ownsRow B 2 1 (.slice (some ⟨g, 0, none⟩) k c) k (intC o) ∧ Below w.heap.size w w6 :=
  ⟨own_grow2 (own_keep hO hb) hg (fun k' e e2 => by cases e; have e3 : g5 = g := Option.some.inj e2; have := (own_capI hO).2.2.1; omega), bel_grown2 (bT hL hb) hg (Nat.le_trans hL.size hb.size) (fun r e => by cases e; exact Nat.le_trans hL.size h5)⟩
theorem src_cut {W : World} {B g j c k : Nat} {o : List Int} (h : W.ownsRow B 2 1 (.slice (some ⟨g, 0, none⟩) k c) k (intC o)) (hk : o.length = k) (hj : j ≤ k) (ad : Addr) (h1 : j < c → ad = ⟨g, j, none⟩) :
    ∀ (i : Nat) (u : Value), (intC (o.drop j))[i]? = some u → W.cell? (ad.add i) = some u := by
  intro i u hi
  have hc := (own_capI h).1
  rcases Nat.lt_or_ge j c with hlt | hge
  · rw [h1 hlt]
    refine src_ints (us := o.drop j) (fun i' hi' => ?_) i u hi
    have hl : j + i' < o.length := by simp at hi'; omega
    rw [own_at0 h hk (j + i') hl]
    unfold at0
    rw [List.getElem?_drop]
  · have e : (o.drop j).length = 0 := by simp; omega
    rw [List.eq_nil_of_length_eq_zero e] at hi
    simp [intC] at hi
theorem so_next {w w7 : World} {ts o : List Int} {k j : Nat} {x : Int} {v' : Value} (hown : w7.ownsRow w.heap.size 2 1 v' (j + 1 + (k - j)) (intC (o.take j) ++ .int .i64 x :: intC (o.drop j))) (hv : v' ≠ .slice none 0 0) (hok : o.length = k) (hjk : j ≤ k) (hk : k < ts.length)
    (hp : ((o.take j ++ [x]) ++ o.drop j).Perm (ts.take (k + 1))) (hs : ((o.take j ++ [x]) ++ o.drop j).Pairwise (· ≤ ·)) (hb : Below w.heap.size w w7) : SoRel w w.heap.size ts v' (.int .i64 ((k : Int) + 1)) w7 := by
  have e : intC (o.take j) ++ .int .i64 x :: intC (o.drop j) = intC ((o.take j ++ [x]) ++ o.drop j) := by simp [intC]
  have e2 : j + 1 + (k - j) = k + 1 := by omega
  rw [e, e2] at hown
  obtain ⟨g, c, rfl⟩ := own_some hown hv
  exact ⟨k + 1, g, c, _, hk, by go_num, by simp; omega, rfl, hown, hp, hs, hb⟩
theorem addr_add0 (b o j : Nat) : (⟨b, o, none⟩ : Addr).add j = ⟨b, o + j, none⟩ := by simp [Addr.add]
theorem src_keep {W W' : World} {b : Nat} {x : Value} (hb : Below W.heap.size W W') (hl : b < W.heap.size) (h : ∀ (j : Nat) (u : Value), [x][j]? = some u → W.cell? ((⟨b, 0, none⟩ : Addr).add j) = some u) : ∀ (j : Nat) (u : Value), [x][j]? = some u → W'.cell? ((⟨b, 0, none⟩ : Addr).add j) = some u := by
  intro j u hj
  have h1 := h j u hj
  rw [addr_add0] at h1 ⊢
  exact (hb.cell (p := ⟨b, 0 + j, none⟩) hl).trans h1
theorem own_take_any (o : List Int) (j g c : Nat) (hj : j ≤ o.length) (h9 : o.length ≤ 1000) (W : World) (hg : g < W.heap.size) (hc : IntsAt W g o) :
    Calls Try.prog 94 #[.slice (some ⟨g, 0, none⟩) j c] W fun e w' => ∃ g5 c5 : Nat, e = .returned (.slice (some ⟨g5, 0, none⟩) j c5) ∧ w'.ownsRow W.heap.size 2 1 (.slice (some ⟨g5, 0, none⟩) j c5) j (intC (o.take j)) ∧ Below W.heap.size W w' := by
  have e : (o.take j).length = j := by simp; omega
  have hc' : IntsAt W g (o.take j) := by
    intro i hi
    have hi' : i < j := by omega
    rw [hc i (by omega)]
    unfold at0
    rw [List.getElem?_take_of_lt hi']
  have := l00Own_any (o.take j) g c W hg hc' (by omega)
  unfold OwnRet at this
  rw [e] at this
  exact this
set_option maxRecDepth 100000 in
set_option maxHeartbeats 8000000 in
theorem l05Sort_any (ts : List Int) (v : Value) (w : World) (h : SlI w v ts) (hmax : ts.length ≤ 900) :
    Calls Try.prog 82 #[v] w fun e w' => ∃ v', e = .returned v' ∧ w'.ownsRow w.heap.size 2 1 v' ts.length (intC (srtL ts)) ∧ Below w.heap.size w w' := by
  obtain ⟨i0, hi, hz0, hz1, hz2⟩ := info_parts infoI8
  obtain ⟨ao, ca, rfl, h⟩ := h
  have H := Lib.hid h
  clear h
  go_enter Try.func82, Try.ntmps82
  go_wp2_with fail
  go_loopw [3, 4] (fun v i wr => SoRel w w.heap.size ts v i wr) (fun _ i _ => ts.length - (intOf i).toNat)
  case atStart => exact ⟨0, w.heap.size, 0, [], by omega, rfl, rfl, rfl, rowI0 w _, by simp, by simp, bA (bR _) _⟩
  case round =>
    obtain ⟨k, g, c, o, hk, rfl, hok, rfl, hown, hperm, hsort, hbw⟩ := hrel
    by_cases hlt : k < ts.length
    · obtain ⟨gs, rfl, hgs, hcs⟩ := H.out (by omega)
      have cx := (hcs.keep hgs hbw) k hlt
      have hgsw : gs < wr.heap.size := Nat.lt_of_lt_of_le hgs hbw.size
      obtain ⟨hkc, hc9, hgw, hBg⟩ := own_capI hown
      have CO := Lib.hid (own_at0 hown hok)
      have HO := Lib.hid hown
      have HB := Lib.hid hbw
      have HPS := Lib.hid (fun j => so_perm (j := j) hperm hlt)
      have HS := Lib.hid hsort
      have hws := hbw.size
      clear hown hperm hsort hbw hcs
      obtain ⟨W3, hW3⟩ : ∃ W3, W3 = wr := ⟨wr, rfl⟩
      subst hW3
      generalize at0 ts k = x at *
      go_wp2_with fail
      go_loopw [5] (fun kv wr2 => ∃ (j m : Nat) (jv : Int), kv = .int .i64 jv ∧ jv = (j : Int) ∧ j ≤ k ∧ (∀ p, j ≤ p → p < k → x < at0 o p) ∧ wr2 = W3.drewN m) (fun kv _ => (intOf kv).toNat)
      case atStart => exact ⟨k, 0, k, rfl, rfl, Nat.le_refl _, fun p h1 h2 => by omega, rfl⟩
      case round =>
        obtain ⟨j, m, jv, rfl, hjv, hjk, hgt, rfl⟩ := hrel
        have GT := Lib.hid hgt
        have HJV := Lib.hid hjv
        have cx' : (W3.drewN m).cell? ⟨gs, k, none⟩ = some (.int .i64 x) := cx
        have hkk : (k : Int) < (ts.length : Int) := by omega
        have hk0 : (0 : Int) ≤ (k : Int) := by omega
        clear hgt
        generalize hwq : W3.drewN m = wq at cx' ⊢
        have HWQ := Lib.hid hwq
        clear hwq
        by_cases hgo : 0 < j ∧ x < at0 o (j - 1)
        · obtain ⟨hj, hlv⟩ := hgo
          obtain ⟨jp, hjp⟩ : ∃ jp, j = jp + 1 := ⟨j - 1, by omega⟩
          rw [show j - 1 = jp by omega] at hlv
          have cy' : wq.cell? ⟨g, jp, none⟩ = some (.int .i64 (at0 o jp)) := by rw [← HWQ.out]; exact CO.out jp (by omega)
          have hg1 : decide ((0 : Int) < jv) = true := decide_eq_true (by omega)
          have hg2 : (0 : Int) < jv := by omega
          have hix : jv - 1 = (jp : Int) := by omega
          have hiw : IntKind.i64.wrap (jp : Int) = (jp : Int) := by rw [IntKind.wrap_i64]; omega
          have hi1 : (0 : Int) ≤ (jp : Int) := by omega
          have hi2 : (jp : Int) < (k : Int) := by omega
          have RN := Lib.hid (show ∀ nq, ∃ (j m : Nat) (jv : Int), Value.int .i64 (jp : Int) = .int .i64 jv ∧ jv = (j : Int) ∧ j ≤ k ∧ (∀ p, j ≤ p → p < k → x < at0 o p) ∧ wq.drewN nq = W3.drewN m from fun nq =>
            ⟨jp, m + nq, jp, rfl, rfl, by omega, fun p h1 h2 => by
              rcases Nat.lt_or_ge p (jp + 1) with h3 | h3
              · have : p = jp := by omega
                rw [this]; exact hlv
              · exact GT.out p (by omega) h2, by rw [← HWQ.out, World.drewN_drewN]⟩)
          clear hjv hjp
          generalize at0 o jp = y at cy' hlv
          have hlv' : decide (x < y) = true := decide_eq_true hlv
          go_wp2_with fail
          go_quiet (fail)
          go_wp2_with fail
          exact ⟨RN.out nq, by simp [intOf]; omega⟩
        · have HE := Lib.hid (show j = 0 ∨ at0 o (j - 1) ≤ x by
            rcases Nat.eq_zero_or_pos j with h | h
            · exact .inl h
            · exact .inr (by have := fun hh => hgo ⟨h, hh⟩; omega))
          clear hgo
          have hjn : jv.toNat = j := by omega
          have hj0 : (0 : Int) ≤ jv := by omega
          have hjc : jv ≤ (c : Int) := by omega
          have hjk' : jv ≤ (k : Int) := by omega
          rcases Nat.eq_zero_or_pos j with hj | hj
          case' inl =>
            have hg1 : decide ((0 : Int) < jv) = false := decide_eq_false (by omega)
            have hg2 : ¬ (0 : Int) < jv := by omega
            clear hjv hj
            go_wp2_with fail
            go_quiet (fail)
            go_wp2_with fail
          case' inr =>
            obtain ⟨jp, hjp⟩ : ∃ jp, j = jp + 1 := ⟨j - 1, by omega⟩
            have hlv : ¬ x < at0 o jp := by
              rcases HE.out with h | h
              · omega
              · rw [show j - 1 = jp by omega] at h; omega
            have cy' : wq.cell? ⟨g, jp, none⟩ = some (.int .i64 (at0 o jp)) := by rw [← HWQ.out]; exact CO.out jp (by omega)
            have hg1 : decide ((0 : Int) < jv) = true := decide_eq_true (by omega)
            have hg2 : (0 : Int) < jv := by omega
            have hix : jv - 1 = (jp : Int) := by omega
            have hiw : IntKind.i64.wrap (jp : Int) = (jp : Int) := by rw [IntKind.wrap_i64]; omega
            have hi1 : (0 : Int) ≤ (jp : Int) := by omega
            have hi2 : (jp : Int) < (k : Int) := by omega
            clear hjv hj hjp
            generalize at0 o jp = y at cy' hlv
            have hlv' : decide (x < y) = false := decide_eq_false hlv
            go_wp2_with fail
            go_quiet (fail)
            go_wp2_with fail
            clear hg1 hg2 hix hiw hi1 hi2 hlv hlv' cy'
          all_goals
            have cx4 : (wq.drewN nq).cell? ⟨gs, k, none⟩ = some (.int .i64 x) := cx'
            have HW4 := Lib.hid (show (wq.drewN nq).ownsRow w.heap.size 2 1 (.slice (some ⟨g, 0, none⟩) k c) k (intC o) ∧ Below w.heap.size w (wq.drewN nq) ∧ gs < (wq.drewN nq).heap.size by
              rw [← HWQ.out]
              exact ⟨HO.out, HB.out.trans ⟨rfl, rfl, rfl, Nat.le_refl _, fun _ _ => rfl⟩, hgsw⟩)
            clear cx'
            generalize wq.drewN nq = W4 at *
            have hgs4 := HW4.out.2.2
            have CO4 := Lib.hid (own_at0 HW4.out.1 hok)
            have hg4 : g < W4.heap.size := (own_capI HW4.out.1).2.2.1
            have hw4 := HW4.out.2.1.size
            have OWN := Lib.hid (own_take_any o j g c (by omega) (by omega))
            have L4 := Lib.hid (show Below W4.heap.size W4 W4.drew from (bR _).drew)
            go_region_law (first
              | (refine step_append_lies _ (by rfl) _ _ 24 (by rfl) w.heap.size 2 i0 (.int .i64 0) 1 8 Try.underlying24 hi hz0 hz1 hz2 (by rfl) (by decide) _ j (intC (o.take j)) (by rfl) (O5.out.alloc _) ⟨w5.heap.size, 0, none⟩ 1 1 [.int .i64 x] (by rfl) (by rfl) (row_srcN _ _ _ _ (by rfl)) (by intro u hu; simp at hu; subst hu; rfl) (by omega) (by unfold maxLen; omega) (by omega) (by simp; omega) _ (by rfl) ?_;
                 intro g6 c6 w6 hown6 hg6 hat6 hlt6; have N6 := Lib.hid hown6; have R6 := Lib.hid (so_after HW4.out.1 HW4.out.2.1 (bA HB5.out _) h5 hg6); clear hown6 hg6 hat6 cx5)
              | (refine step_append_lies _ (by rfl) _ _ 24 (by rfl) w.heap.size 2 i0 (.int .i64 0) 1 8 Try.underlying24 hi hz0 hz1 hz2 (by rfl) (by decide) _ j (intC (o.take j)) (by rfl) O5.out ⟨W4.heap.size, 0, none⟩ 1 1 [.int .i64 x] (by rfl) (by rfl) SX.out (by intro u hu; simp at hu; subst hu; rfl) (by omega) (by unfold maxLen; omega) (by omega) (by omega) _ (by rfl) ?_;
                 intro g6 c6 w6 hown6 hg6 hat6 hlt6; have N6 := Lib.hid hown6; have R6 := Lib.hid (so_after HW4.out.1 HW4.out.2.1 HB5.out h5 hg6); clear hown6 hg6 hat6 cx5)
              | (go_simp; (first
                  | (refine (OWN.out W4.drew hg4 (fun i hi => CO4.out i hi)).mono ?_; rintro e w5 ⟨g5, c5, rfl, ho5, hb5⟩;
                     have cx5 : w5.cell? ⟨gs, k, none⟩ = some (.int .i64 x) := (hb5.cell (p := ⟨gs, k, none⟩) hgs4).trans cx4;
                     have HB5 := Lib.hid (bT L4.out hb5); have O5 := Lib.hid (own_lower (B' := w.heap.size) ho5 hw4); have h5 : W4.heap.size ≤ g5 := (own_capI ho5).2.2.2;
                     have hs5 : W4.heap.size ≤ w5.heap.size := hb5.size; clear ho5 hb5)
                  | (refine (OWN.out (W4.drew.alloc (.cells #[.int .i64 x] 2)) (by simp; omega) ((show IntsAt W4.drew g o from fun i hi => CO4.out i hi).keep hg4 (bA (bR _) _))).mono ?_; rintro e w5 ⟨g5, c5, rfl, ho5, hb5⟩;
                     have hss : (W4.drew.alloc (.cells #[.int .i64 x] 2)).heap.size = W4.heap.size + 1 := by simp;
                     have cx5 : w5.cell? ⟨gs, k, none⟩ = some (.int .i64 x) := (hb5.cell (p := ⟨gs, k, none⟩) (show gs < _ by rw [hss]; omega)).trans (((bA (bR W4.drew) (.cells #[.int .i64 x] 2)).cell (p := ⟨gs, k, none⟩) hgs4).trans cx4);
                     have HB5 := Lib.hid (bT (bA L4.out (.cells #[.int .i64 x] 2)) hb5); have O5 := Lib.hid (own_lower (B' := w.heap.size) ho5 (by rw [hss]; omega)); have h5 : W4.heap.size ≤ g5 := Nat.le_trans (by rw [hss]; omega) (own_capI ho5).2.2.2;
                     have SX := Lib.hid (src_keep hb5 (by rw [hss]; omega) (row_srcN W4.drew W4.heap.size (.int .i64 x) 2 rfl));
                     have hs5 : W4.heap.size ≤ w5.heap.size := by have := hb5.size; rw [hss] at this; omega
                     clear ho5 hb5 hss))))
            all_goals
              clear O5 HB5 OWN CO4 HW4 L4 h5 hs5 hgs4 hg4 hw4
              have hs6 := R6.out.2.size
              have HSO := Lib.hid (so_sorted HS.out (by omega) HE.out (fun p h1 h2 => GT.out p h1 (by omega)))
              by_cases hcj : c = j
              all_goals
                go_wp2_with (at_builtin; go_loud (refine wpList_append_own_at _ rfl _ _ 24 rfl w.heap.size 2 i0 (.int .i64 0) 1 8 Try.underlying24 hi hz0 hz1 hz2 rfl (by decide) (.slice (some ⟨g6, 0, none⟩) (j + 1) c6) (j + 1) (intC (o.take j) ++ [.int .i64 x]) (by rfl) N6.out _ (k - j) _ (intC (o.drop j)) (by rfl) (by simp [intC]; omega) (src_cut R6.out.1 hok (by omega) _ (by intro hh; first | rfl | (exfalso; omega))) (int_cells _) (by unfold maxLen; omega) (by omega) (by omega) ?_))
                intro v7 w7 hown7 hg7 hnil7 _
                have RN := Lib.hid (so_next hown7 (by intro e; first | exact hnil7 e | (have := (hnil7.1 e).1; cases this)) hok (by omega) hlt (HPS.out j) HSO.out (bel_grown2 R6.out.2 hg7 hs6 (fun r e => by cases e; exact (own_capI N6.out).2.2.2)))
                clear hown7 hg7 hnil7
                go_wp2_with fail
                exact ⟨RN.out, by simp [intOf]; omega⟩
    · obtain rfl : k = ts.length := by omega
      have hp := hperm
      rw [List.take_length] at hp
      have := srt_uniq hp hsort
      subst this
      go_wp2_with fail
      go_ret
      exact ⟨_, rfl, hown, hbw⟩
end Go.Proofs.Ytmmmbchlkjljaaa

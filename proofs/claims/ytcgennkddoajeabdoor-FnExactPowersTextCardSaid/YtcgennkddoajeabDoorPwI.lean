/-
  The iterator over the prime factors: impl.powersOf and its function literal; impl.nextCandidate, impl.isTerm.
-/
import Derived.Test.YtcgennkddoajeabDoorPf
import Derived.Test.YtcgennkddoajeabDoorTermsI
namespace Go.Proofs.YtcgennkddoajeabDoor
open Go.RowKit Go.Shelf
attribute [local go_sem] Oper.semAt_some

theorem isTerm_any (n : Int) (w : World) :
    Calls Tryd.prog 9 #[.int .i64 n] w fun e w' => e = .returned (.bool (inB n 1 1000000000)) ∧ w = w' := by
  by_cases h : 1 ≤ n
  · go_enter Tryd.func9, Tryd.ntmps9
    go_wp2
    go_ret
    exact ⟨ret_bool (by simp [inB, h]), rfl⟩
  · go_enter Tryd.func9, Tryd.ntmps9
    go_wp2
    go_ret
    exact ⟨ret_bool (by simp [inB]; omega), rfl⟩
theorem nextCandidate_any (p : Int) (w : World) (h1 : 2 ≤ p) (h2 : p ≤ 100000) :
    Calls Tryd.prog 15 #[.int .i64 p] w fun e w' => e = .returned (.int .i64 (nxt p)) ∧ w = w' := by
  by_cases e2 : p = 2
  · subst e2
    go_enter Tryd.func15, Tryd.ntmps15
    go_wp2_with fail
    go_ret
    exact ⟨rfl, rfl⟩
  · have b2 : (p == 2) = false := by simpa using e2
    by_cases e6 : p % 6 = 1
    · have b6 : (p % 6 == 1) = true := by simpa using e6
      have HN := Lib.hid (show nxt p = p + 4 by unfold nxt; rw [if_neg e2, if_pos e6])
      clear e2 e6
      go_enter Tryd.func15, Tryd.ntmps15
      go_wp2_with fail
      go_ret
      exact ⟨ret_int HN.out.symm, rfl⟩
    · have b6 : (p % 6 == 1) = false := by simpa using e6
      have HN := Lib.hid (show nxt p = p + 2 by unfold nxt; rw [if_neg e2, if_neg e6])
      clear e2 e6
      go_enter Tryd.func15, Tryd.ntmps15
      go_wp2_with fail
      go_ret
      exact ⟨ret_int HN.out.symm, rfl⟩
def encPw (x : Int × Int) : Array Value := #[.int .i64 x.1, .int .i64 x.2]
def PwRel (N : Int) (J : List (Int × Int) → (Nat → Prop) → World → Prop) (r p : Value) (wr : World) : Prop :=
  ∃ (m q : Int) (pre : List (Int × Int)) (T : Nat → Prop), r = .int .i64 m ∧ p = .int .i64 q ∧ 2 ≤ q ∧ q ≤ 31630 ∧ 1 ≤ m ∧ m ≤ N ∧ Cand q ∧ ND m q ∧ pfL N 2 = pre ++ pfL m q ∧ J pre T wr ∧ (∀ k, T k → k < wr.heap.size)
def SiRel (m q : Int) (w0 : World) (r t : Value) (wr : World) : Prop :=
  ∃ (m' : Int) (t' : Nat), r = .int .i64 m' ∧ t = .int .i64 t' ∧ 1 ≤ m' ∧ m' ≤ m ∧ (t' : Int) + m' ≤ m ∧ (strip m q).1 = t' + (strip m' q).1 ∧ (strip m q).2 = (strip m' q).2 ∧ w0 = wr
set_option maxRecDepth 100000 in
set_option maxHeartbeats 8000000 in
theorem powersP (N : Int) (bb : Nat) (w : World) (hN1 : 1 ≤ N) (hN2 : N ≤ 1000000000) (hb : bb < w.heap.size) (c0 : w.cell? ⟨bb, 0, none⟩ = some (.int .i64 N)) :
    SeqP Fence.wide Tryd.prog 14 #[.pointer (some ⟨bb, 0, none⟩)] encPw none1 (fun xs => xs = pfL N 2) (fun pre => pre <+: pfL N 2) (pfL N 2).length w := by
  intro nn mm l J Jx W hW hJ hJx hY hJ0
  have e0 : W.cell? ⟨bb, 0, none⟩ = some (.int .i64 N) := (hW.cell (p := ⟨bb, 0, none⟩) hb).trans c0
  have HY := Lib.hid hY
  have RS := Lib.hid (show PwRel N J (.int .i64 N) (.int .i64 2) W from ⟨N, 2, [], none1, rfl, rfl, by omega, by omega, hN1, Int.le_refl _, .inl rfl, nd_two _, rfl, hJ0, fun k hk => hk.elim⟩)
  clear hY hJ0 c0
  refine callsIn_of_wp Tryd.func14 rfl trivial ?_ rfl
  simp only [Tryd.ntmps14, List.size_toArray, List.length_cons, List.length_nil, Nat.reduceAdd, Nat.reduceSub, Array.replicate_succ, Array.replicate_zero, List.push_toArray, List.append_toArray, List.nil_append, List.cons_append]
  gi_wp2
  gi_loopw [3, 4] (fun r p wr => PwRel N J r p wr) (fun _ p _ => (32000 - intOf p).toNat)
  case atStart => exact RS.out
  case round =>
    obtain ⟨m, q, pre, T, rfl, rfl, q1, q2, m1, m2, hcand, hnd, hpre, hj, hTl⟩ := hrel
    have HP := Lib.hid hpre
    have HJ := Lib.hid hj
    have HT := Lib.hid hTl
    have HC := Lib.hid hcand
    have HND := Lib.hid hnd
    obtain ⟨s1, s2⟩ := sq_nn (p := q) (by omega) (by omega)
    clear hpre hj hTl hcand hnd e0 RS
    by_cases hle : q * q ≤ m
    · have hq := sq_bd (p := q) (by omega) hle (by omega)
      have HG := Lib.hid (pf_go q1 hle)
      have HSP := Lib.hid (strip_spec q1 m1)
      have HN2 := Lib.hid (nd_strip q1 m1 HND.out)
      have RI := Lib.hid (show SiRel m q wr (.int .i64 m) (.int .i64 0) wr from ⟨m, 0, rfl, rfl, m1, Int.le_refl _, by simp, by simp, rfl, rfl⟩)
      gi_wp2_with fail
      gi_loopw [3, 5] (fun r t wx => SiRel m q wr r t wx) (fun r _ _ => (intOf r).toNat)
      case atStart => exact RI.out
      case round =>
        obtain ⟨m', t', rfl, rfl, m1', m2', hsum, hs1, hs2, rfl⟩ := hrel
        have HS1 := Lib.hid hs1
        have HS2 := Lib.hid hs2
        have hq0 : ¬ q = 0 := by omega
        have hqp : 0 < q := by omega
        clear hs1 hs2 RI
        by_cases hmod : m' % q = 0
        · have d1 := div_less (n := m') q1 m1'
          have d2 := div_one_le q1 m1' hmod
          have HGO := Lib.hid (strip_go q1 m1' hmod)
          have b1 : (m' % q == 0) = true := by simpa using hmod
          clear hmod
          have RN := Lib.hid (show SiRel m q wr (.int .i64 (m' / q)) (.int .i64 ((t' : Int) + 1)) wr from ⟨m' / q, t' + 1, rfl, by go_num, d2, by omega, by omega, by rw [HS1.out, HGO.out.1]; omega, by rw [HS2.out, HGO.out.2], rfl⟩)
          gi_wp2_with fail
          exact ⟨RN.out, by simp [intOf]; omega⟩
        · have b1 : (m' % q == 0) = false := by simpa using hmod
          have hst := strip_no hmod
          have HT1 := Lib.hid (show pfL m q = (if t' = 0 then [] else [(q, (t' : Int))]) ++ pfL m' (q + 1) by
            have h1 := HS1.out
            have h2 := HS2.out
            rw [hst] at h1 h2
            simp only [Nat.add_zero] at h1
            rw [HG.out, h1, h2])
          have HM := Lib.hid (show ND m' (q + 1) by
            have h2 := HS2.out
            rw [hst] at h2
            have h3 := HN2.out
            rw [h2] at h3
            exact h3)
          obtain ⟨k1, k2, k3, k4, k5⟩ := cand_next HC.out HM.out
          have K1 := Lib.hid k1
          have K2 := Lib.hid k2
          have K3 := Lib.hid k3
          have NX := Lib.hid (fun W => nextCandidate_any q W q1 (by omega))
          generalize nxt q = q' at *
          clear hmod hst k1 k2 k3 HS1 HS2 HN2 HG HSP HND HC
          by_cases ht : 0 < t'
          · have HT2 := Lib.hid (show pfL N 2 = (pre ++ [(q, (t' : Int))]) ++ pfL m' (q + 1) by rw [HP.out, HT1.out, if_neg (by omega), List.append_assoc])
            have hl : pre.length < (pfL N 2).length := by rw [HT2.out]; simp only [List.length_append, List.length_cons, List.length_nil]; omega
            obtain ⟨fn, tmps, assign, body, hy, hR⟩ := HY.out pre (q, (t' : Int)) T wr ⟨_, HT2.out.symm⟩ HJ.out HT.out hl
            have HR := Lib.hid hR
            clear hR hl
            dsimp only [encPw] at hy
            have tb : decide (0 < (t' : Int)) = true := by simpa using ht
            gi_wp2_with fail
            refine ⟨wdep _, (roundAny HR.out).mono ?_⟩
            rintro e W2 (⟨rfl, hj2, hk2⟩ | ⟨rfl, hjx, _⟩)
            · have HJ2 := Lib.hid hj2
              have HK2 := Lib.hid hk2.size
              clear hj2 hk2
              gi_wp2_with fail
              refine ⟨trivial, wdep _, ?_⟩
              refine (callsIn_wide.2 (NX.out _)).mono ?_
              rintro e w1 ⟨rfl, rfl⟩
              gi_wp2_with fail
              exact ⟨⟨m', q', pre ++ [(q, (t' : Int))], T, rfl, rfl, by omega, by omega, m1', by omega, K1.out, K3.out, by rw [HT2.out, K2.out], HJ2.out, fun k hk => Nat.lt_of_lt_of_le (HT.out k hk) HK2.out⟩, by simp [intOf]; omega⟩
            · gi_wp2_with fail
              refine bodyPost_ret (results_none rfl _ _ _) rfl ?_
              exact ⟨⟨_, rfl⟩, .inr ⟨_, _, ⟨_, HT2.out.symm⟩, hjx⟩⟩
          · have h0 : t' = 0 := by omega
            subst h0
            have HT2 := Lib.hid (show pfL N 2 = pre ++ pfL m' (q + 1) by rw [HP.out, HT1.out, if_pos rfl]; rfl)
            gi_wp2_with fail
            refine ⟨(fun f h => by cases h), ?_⟩
            gi_wp2_with fail
            refine ⟨trivial, wdep _, ?_⟩
            refine (callsIn_wide.2 (NX.out _)).mono ?_
            rintro e w1 ⟨rfl, rfl⟩
            gi_wp2_with fail
            exact ⟨⟨m', q', pre, T, rfl, rfl, by omega, by omega, m1', by omega, K1.out, K3.out, by rw [HT2.out, K2.out], HJ.out, HT.out⟩, by simp [intOf]; omega⟩
    · have HE := Lib.hid (pf_end hle)
      by_cases hm : 1 < m
      · have HT2 := Lib.hid (show pfL N 2 = pre ++ [(m, 1)] by rw [HP.out, HE.out, if_pos hm])
        have hl : pre.length < (pfL N 2).length := by rw [HT2.out]; simp
        obtain ⟨fn, tmps, assign, body, hy, hR⟩ := HY.out pre (m, 1) T wr (by rw [HT2.out]; exact List.prefix_refl _) HJ.out HT.out hl
        have HR := Lib.hid hR
        clear hR hl
        dsimp only [encPw] at hy
        gi_wp2_with fail
        refine ⟨wdep _, (roundAny HR.out).mono ?_⟩
        rintro e W2 (⟨rfl, hj2, hk2⟩ | ⟨rfl, hjx, _⟩)
        · gi_wp2_with fail
          go_end0
          exact ⟨⟨_, rfl⟩, .inl ⟨_, T, HT2.out.symm, hj2⟩⟩
        · gi_wp2_with fail
          go_end0
          exact ⟨⟨_, rfl⟩, .inr ⟨_, _, by rw [HT2.out]; exact List.prefix_refl _, hjx⟩⟩
      · have HT2 := Lib.hid (show pfL N 2 = pre by rw [HP.out, HE.out, if_neg hm, List.append_nil])
        gi_wp2_with fail
        go_end0
        exact ⟨⟨_, rfl⟩, .inl ⟨T, by rw [HT2.out]; exact HJ.out⟩⟩
theorem powersOf_any (n : Int) (w : World) :
    Calls Tryd.prog 10 #[.int .i64 n] w fun e w' => e = .returned (.func (.func 14) #[] #[.pointer (some ⟨w.heap.size, 0, none⟩)]) ∧ w.alloc (.cells #[.int .i64 n] 2) = w' := by
  go_enter Tryd.func10, Tryd.ntmps10
  go_wp2_with fail
  go_ret
  exact ⟨rfl, rfl⟩
end Go.Proofs.YtcgennkddoajeabDoor

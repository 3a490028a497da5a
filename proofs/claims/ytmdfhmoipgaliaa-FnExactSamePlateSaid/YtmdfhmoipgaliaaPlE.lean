/-
  Equal plates: slices.Equal at sites, impl.SamePlate, spec.SamePlate.
-/
import Derived.Test.YtmdfhmoipgaliaaPlJ
namespace Go.Proofs.Ytmdfhmoipgaliaa
open Go.RowKit

theorem eqS_iff {x y : ByteArray} : eqS x y = true ↔ x = y := by
  constructor
  · intro h
    have : x.toList = y.toList := by simpa [eqS] using h
    rw [ByteArray.toList_eq, ByteArray.toList_eq] at this
    exact ByteArray.ext (Array.toList_inj.1 this)
  · rintro rfl; exact eqS_refl _
def eqSi (s t : Sit) : Bool := eqS s.nm t.nm && (decide (s.x = t.x) && (decide (s.y = t.y) && (decide (s.wh = t.wh) && decide (s.st = t.st))))
def smS (ss tt : List Sit) : Bool := decide (ss.length = tt.length) && (List.range ss.length).all fun i => eqSi (siAt ss i) (siAt tt i)
def smK (ss tt : List Sit) (k : Nat) : Prop := ∀ i, i < k → eqSi (siAt ss i) (siAt tt i) = true
theorem smK_zero (ss tt : List Sit) : smK ss tt 0 := fun _ h => absurd h (Nat.not_lt_zero _)
theorem smK_succ {ss tt : List Sit} {k : Nat} (h : smK ss tt k) (h2 : eqSi (siAt ss k) (siAt tt k) = true) : smK ss tt (k + 1) := by
  intro i hi
  by_cases e : i = k
  · rw [e]; exact h2
  · exact h i (by omega)
theorem smS_all {ss tt : List Sit} (hl : ss.length = tt.length) (h : smK ss tt ss.length) : smS ss tt = true := by
  unfold smS
  rw [Bool.and_eq_true]
  exact ⟨decide_eq_true hl, List.all_eq_true.2 fun i hi => h i (List.mem_range.1 hi)⟩
theorem smS_no {ss tt : List Sit} {k : Nat} (hk : k < ss.length) (h : eqSi (siAt ss k) (siAt tt k) = false) : smS ss tt = false := by
  unfold smS
  rw [Bool.and_eq_false_iff]
  right
  cases hc : (List.range ss.length).all fun i => eqSi (siAt ss i) (siAt tt i)
  · rfl
  · rw [List.all_eq_true.1 hc k (List.mem_range.2 hk)] at h; cases h
theorem smS_len {ss tt : List Sit} (h : ¬ ss.length = tt.length) : smS ss tt = false := by simp [smS, h]
def smP (p q : Pl4) (ss tt : List Sit) : Bool := decide (p.W = q.W) && (decide (p.H = q.H) && (decide (p.M = q.M) && (decide (p.G = q.G) && smS ss tt)))
set_option maxHeartbeats 4000000 in
theorem eqlSi_any (ss tt : List Sit) (va vb : Value) (w : World) (ha : SlSi w va ss) (hb : SlSi w vb tt) :
    Calls Try.prog 60 #[va, vb] w (BoolBel (smS ss tt) w) := by
  obtain ⟨hmax, ao, cap, rfl, _, ha⟩ := ha
  obtain ⟨hmax2, bo, bcap, rfl, _, hb⟩ := hb
  have HA := Lib.hid ha
  have HB := Lib.hid hb
  clear ha hb
  by_cases hl : ss.length = tt.length
  · have HL := Lib.hid hl
    rw [← hl]
    rw [← hl] at HB
    clear hl hmax2
    have hne : ((ss.length : Int) != (ss.length : Int)) = false := by simp
    go_enter Try.func60, Try.ntmps60
    go_wp2_with fail
    go_loopw [13] (fun i wr => ∃ (k : Nat), k ≤ ss.length ∧ i = .int .i64 k ∧ smK ss tt k ∧ Below w.heap.size w wr) (fun i _ => ss.length - (intOf i).toNat)
    case atStart => exact ⟨0, by omega, rfl, smK_zero _ _, bR _⟩
    case round =>
      obtain ⟨k, hk, rfl, heq, hbw⟩ := hrel
      have HE := Lib.hid heq
      have HBW := Lib.hid hbw
      clear heq hbw
      by_cases hlt : k < ss.length
      · obtain ⟨g, rfl, hg, hc⟩ := HA.out (by omega)
        obtain ⟨g2, rfl, hg2, hc2⟩ := HB.out (by omega)
        obtain ⟨c0, c1, c2, c3, c4, _⟩ := (hc.keep hg HBW.out) k hlt
        obtain ⟨d0, d1, d2, d3, d4, _⟩ := (hc2.keep hg2 HBW.out) k (by rw [← HL.out]; exact hlt)
        have HY := Lib.hid (fun h => smK_succ (ss := ss) (tt := tt) (k := k) HE.out h)
        have HN := Lib.hid (fun h => smS_no (ss := ss) (tt := tt) (k := k) hlt h)
        unfold eqSi at HY HN
        clear hc hc2 hg hg2 HA HB
        generalize (siAt ss k).nm = m0 at *
        generalize (siAt ss k).x = m1 at *
        generalize (siAt ss k).y = m2 at *
        generalize (siAt ss k).wh = m3 at *
        generalize (siAt ss k).st = m4 at *
        generalize (siAt tt k).nm = q0 at *
        generalize (siAt tt k).x = q1 at *
        generalize (siAt tt k).y = q2 at *
        generalize (siAt tt k).wh = q3 at *
        generalize (siAt tt k).st = q4 at *
        by_cases hq : m0 = q0 ∧ m1 = q1 ∧ m2 = q2 ∧ m3 = q3 ∧ m4 = q4
        · obtain ⟨rfl, rfl, rfl, rfl, rfl⟩ := hq
          have NE := Lib.hid (HY.out (by simp [eqS_refl]))
          clear HY HN
          go_wp2_with fail
          go_quiet (fail)
          go_wp2_with fail
          go_roundw
          case rel => exact ⟨k + 1, by omega, by go_num, NE.out, bD HBW.out _⟩
          case measure => simp [intOf]; omega
        · have NE := Lib.hid (HN.out (by
            rw [Bool.eq_false_iff]
            intro hc
            simp only [Bool.and_eq_true, decide_eq_true_eq, eqS_iff] at hc
            exact hq hc))
          clear HY HN
          by_cases e0 : m0 = q0
          · subst e0
            by_cases e1 : m1 = q1
            · subst e1
              by_cases e2 : m2 = q2
              · subst e2
                by_cases e3 : m3 = q3
                · subst e3
                  by_cases e4 : m4 = q4
                  · subst e4
                    exact absurd ⟨rfl, rfl, rfl, rfl, rfl⟩ hq
                  · clear hq
                    go_wp2_with fail
                    go_quiet (fail)
                    go_wp2_with fail
                    go_ret
                    exact ⟨ret_bool NE.out.symm, bD HBW.out _⟩
                · clear hq
                  go_wp2_with fail
                  go_quiet (fail)
                  go_wp2_with fail
                  go_ret
                  exact ⟨ret_bool NE.out.symm, bD HBW.out _⟩
              · clear hq
                go_wp2_with fail
                go_quiet (fail)
                go_wp2_with fail
                go_ret
                exact ⟨ret_bool NE.out.symm, bD HBW.out _⟩
            · clear hq
              go_wp2_with fail
              go_quiet (fail)
              go_wp2_with fail
              go_ret
              exact ⟨ret_bool NE.out.symm, bD HBW.out _⟩
          · have hs : (m0.toList == q0.toList) = false := by
              cases hc : (m0.toList == q0.toList)
              · rfl
              · exact absurd (eqS_iff.1 hc) e0
            clear hq
            go_wp2_with fail
            go_quiet (fail)
            go_wp2_with fail
            go_ret
            exact ⟨ret_bool NE.out.symm, bD HBW.out _⟩
      · obtain rfl : k = ss.length := by omega
        have HS := Lib.hid (smS_all HL.out HE.out)
        go_wp2_with fail
        go_ret
        exact ⟨ret_bool HS.out.symm, HBW.out⟩
  · have HS := Lib.hid (smS_len hl)
    have hne : ((ss.length : Int) != (tt.length : Int)) = true := by simp; omega
    clear hl
    go_enter Try.func60, Try.ntmps60
    go_wp2_with fail
    go_ret
    exact ⟨ret_bool HS.out.symm, bR _⟩
set_option maxHeartbeats 4000000 in
theorem SamePlateI_any (p q : Pl4) (ss tt : List Sit) (u v : Value) (w : World) (ha : SlSi w u ss) (hb : SlSi w v tt) :
    Calls Try.prog 27 #[plV p u, plV q v] w (BoolBel (smP p q ss tt) w) := by
  obtain ⟨W, H, M, G⟩ := p
  obtain ⟨W', H', M', G'⟩ := q
  obtain ⟨_, a0, n0, rfl, _⟩ := id ha
  obtain ⟨_, a1, n1, rfl, _⟩ := id hb
  unfold plV
  have X := Lib.hid ((BoxL.new w [.int .i64 W, .int .i64 H, .int .i64 M, .int .i64 G, .slice a0 ss.length n0] 45).alloc (.cells #[.int .i64 W', .int .i64 H', .int .i64 M', .int .i64 G', .slice a1 tt.length n1] 45))
  have Y := Lib.hid (BoxL.at_ (w := w.alloc (.cells #[.int .i64 W, .int .i64 H, .int .i64 M, .int .i64 G, .slice a0 ss.length n0] 45)) (b := w.heap.size + 1) (vs := [.int .i64 W', .int .i64 H', .int .i64 M', .int .i64 G', .slice a1 tt.length n1]) (T := 45) (by simp))
  have L0 := Lib.hid (bA (bA (bR w) (.cells #[.int .i64 W, .int .i64 H, .int .i64 M, .int .i64 G, .slice a0 ss.length n0] 45)) (.cells #[.int .i64 W', .int .i64 H', .int .i64 M', .int .i64 G', .slice a1 tt.length n1] 45))
  have HA := Lib.hid (ha.keep L0.out)
  have HB := Lib.hid (hb.keep L0.out)
  clear ha hb
  by_cases f0 : W = W'
  case neg =>
    rw [show smP ⟨W, H, M, G⟩ ⟨W', H', M', G'⟩ ss tt = false by simp [smP, f0]]
    go_enter Try.func27, Try.ntmps27
    go_wp2_with fail
    go_ret
    exact ⟨rfl, L0.out⟩
  subst f0
  by_cases f1 : H = H'
  case neg =>
    rw [show smP ⟨W, H, M, G⟩ ⟨W, H', M', G'⟩ ss tt = false by simp [smP, f1]]
    go_enter Try.func27, Try.ntmps27
    go_wp2_with fail
    go_ret
    exact ⟨rfl, L0.out⟩
  subst f1
  by_cases f2 : M = M'
  case neg =>
    rw [show smP ⟨W, H, M, G⟩ ⟨W, H, M', G'⟩ ss tt = false by simp [smP, f2]]
    go_enter Try.func27, Try.ntmps27
    go_wp2_with fail
    go_ret
    exact ⟨rfl, L0.out⟩
  subst f2
  by_cases f3 : G = G'
  case neg =>
    rw [show smP ⟨W, H, M, G⟩ ⟨W, H, M, G'⟩ ss tt = false by simp [smP, f3]]
    go_enter Try.func27, Try.ntmps27
    go_wp2_with fail
    go_ret
    exact ⟨rfl, L0.out⟩
  subst f3
  rw [show smP ⟨W, H, M, G⟩ ⟨W, H, M, G⟩ ss tt = smS ss tt by simp [smP]]
  go_enter Try.func27, Try.ntmps27
  go_wp2_with fail
  refine (eqlSi_any ss tt _ _ _ HA.out HB.out).mono ?_
  rintro e w1 ⟨rfl, hb⟩
  go_wp2_with fail
  go_ret
  exact ⟨rfl, bT L0.out hb⟩
set_option maxHeartbeats 8000000 in
theorem SamePlateS_any (p q : Pl4) (ss tt : List Sit) (u v : Value) (w : World) (ha : SlSi w u ss) (hb : SlSi w v tt) :
    Calls Try.prog 26 #[plV p u, plV q v] w (BoolBel (smP p q ss tt) w) := by
  obtain ⟨W, H, M, G⟩ := p
  obtain ⟨W', H', M', G'⟩ := q
  obtain ⟨_, a0, n0, rfl, _⟩ := id ha
  obtain ⟨_, a1, n1, rfl, _⟩ := id hb
  unfold plV
  have X := Lib.hid ((BoxL.new w [.int .i64 W, .int .i64 H, .int .i64 M, .int .i64 G, .slice a0 ss.length n0] 45).alloc (.cells #[.int .i64 W', .int .i64 H', .int .i64 M', .int .i64 G', .slice a1 tt.length n1] 45))
  have Y := Lib.hid (BoxL.at_ (w := w.alloc (.cells #[.int .i64 W, .int .i64 H, .int .i64 M, .int .i64 G, .slice a0 ss.length n0] 45)) (b := w.heap.size + 1) (vs := [.int .i64 W', .int .i64 H', .int .i64 M', .int .i64 G', .slice a1 tt.length n1]) (T := 45) (by simp))
  have L0 := Lib.hid (bA (bA (bR w) (.cells #[.int .i64 W, .int .i64 H, .int .i64 M, .int .i64 G, .slice a0 ss.length n0] 45)) (.cells #[.int .i64 W', .int .i64 H', .int .i64 M', .int .i64 G', .slice a1 tt.length n1] 45))
  have HA := Lib.hid (ha.keep L0.out)
  have HB := Lib.hid (hb.keep L0.out)
  clear ha hb
  by_cases f0 : W = W'
  case neg =>
    rw [show smP ⟨W, H, M, G⟩ ⟨W', H', M', G'⟩ ss tt = false by simp [smP, f0]]
    go_enter Try.func26, Try.ntmps26
    go_wp2_with fail
    go_ret
    exact ⟨rfl, L0.out⟩
  subst f0
  by_cases f1 : H = H'
  case neg =>
    rw [show smP ⟨W, H, M, G⟩ ⟨W, H', M', G'⟩ ss tt = false by simp [smP, f1]]
    go_enter Try.func26, Try.ntmps26
    go_wp2_with fail
    go_ret
    exact ⟨rfl, L0.out⟩
  subst f1
  by_cases f2 : M = M'
  case neg =>
    rw [show smP ⟨W, H, M, G⟩ ⟨W, H, M', G'⟩ ss tt = false by simp [smP, f2]]
    go_enter Try.func26, Try.ntmps26
    go_wp2_with fail
    go_ret
    exact ⟨rfl, L0.out⟩
  subst f2
  by_cases f3 : G = G'
  case neg =>
    rw [show smP ⟨W, H, M, G⟩ ⟨W, H, M, G'⟩ ss tt = false by simp [smP, f3]]
    go_enter Try.func26, Try.ntmps26
    go_wp2_with fail
    go_ret
    exact ⟨rfl, L0.out⟩
  subst f3
  rw [show smP ⟨W, H, M, G⟩ ⟨W, H, M, G⟩ ss tt = smS ss tt by simp [smP]]
  by_cases hl : ss.length = tt.length
  case neg =>
    have HS := Lib.hid (smS_len hl)
    have hne : ((ss.length : Int) != (tt.length : Int)) = true := by simp; omega
    clear hl
    go_enter Try.func26, Try.ntmps26
    go_wp2_with fail
    go_ret
    exact ⟨ret_bool HS.out.symm, L0.out⟩
  have HL := Lib.hid hl
  rw [← hl] at HA HB X Y L0 ⊢
  clear hl
  have hne : ((ss.length : Int) != (ss.length : Int)) = false := by simp
  have hmax : ss.length ≤ 1048576 := HA.out.1
  go_enter Try.func26, Try.ntmps26
  go_wp2_with fail
  generalize (w.alloc (.cells #[.int .i64 W, .int .i64 H, .int .i64 M, .int .i64 G, .slice a0 ss.length n0] 45)).alloc (.cells #[.int .i64 W, .int .i64 H, .int .i64 M, .int .i64 G, .slice a1 ss.length n1] 45) = W0 at *
  generalize w.heap.size + 1 = b2 at *
  generalize hbx : w.heap.size = b1 at X
  clear hbx hne
  go_loopw [5] (fun i wr => ∃ (k n : Nat), k ≤ ss.length ∧ i = .int .i64 k ∧ smK ss tt k ∧ wr = W0.drewN n) (fun i _ => ss.length - (intOf i).toNat)
  case atStart => exact ⟨0, 0, by omega, rfl, smK_zero _ _, rfl⟩
  case round =>
    obtain ⟨k, n, hk, rfl, heq, rfl⟩ := hrel
    have HE := Lib.hid heq
    clear heq
    obtain ⟨x0, x1, x2, x3, x4, x5⟩ := X.out.c5
    obtain ⟨y0, y1, y2, y3, y4, y5⟩ := Y.out.c5
    by_cases hlt : k < ss.length
    · obtain ⟨_, ao', cap', e', _, hc⟩ := HA.out
      injection e' with e1 e2 e3
      subst e1 e3
      obtain ⟨g, rfl, hg, hc⟩ := hc (by omega)
      obtain ⟨_, bo', bcap', e', _, hc2⟩ := HB.out
      injection e' with e1 e2 e3
      subst e1 e3
      clear e2
      obtain ⟨g2, rfl, hg2, hc2⟩ := hc2 (by have := HL.out; omega)
      obtain ⟨c0, c1, c2, c3, c4, _⟩ := hc k hlt
      obtain ⟨d0, d1, d2, d3, d4, _⟩ := hc2 k (by rw [← HL.out]; exact hlt)
      have HY := Lib.hid (fun h => smK_succ (ss := ss) (tt := tt) (k := k) HE.out h)
      have HN := Lib.hid (fun h => smS_no (ss := ss) (tt := tt) (k := k) hlt h)
      unfold eqSi at HY HN
      clear hc hc2 hg hg2 HA HB
      generalize (siAt ss k).nm = m0 at *
      generalize (siAt ss k).x = m1 at *
      generalize (siAt ss k).y = m2 at *
      generalize (siAt ss k).wh = m3 at *
      generalize (siAt ss k).st = m4 at *
      generalize (siAt tt k).nm = q0 at *
      generalize (siAt tt k).x = q1 at *
      generalize (siAt tt k).y = q2 at *
      generalize (siAt tt k).wh = q3 at *
      generalize (siAt tt k).st = q4 at *
      by_cases hq : m0 = q0 ∧ m1 = q1 ∧ m2 = q2 ∧ m3 = q3 ∧ m4 = q4
      · obtain ⟨rfl, rfl, rfl, rfl, rfl⟩ := hq
        have NE := Lib.hid (HY.out (by simp [eqS_refl]))
        clear HY HN
        go_wp2_with fail
        go_quiet (fail)
        go_wp2_with fail
        go_roundw
        case rel => exact ⟨k + 1, _, by omega, by go_num, NE.out, rfl⟩
        case measure => simp [intOf]; omega
      · have NE := Lib.hid (HN.out (by
          rw [Bool.eq_false_iff]
          intro hc
          simp only [Bool.and_eq_true, decide_eq_true_eq, eqS_iff] at hc
          exact hq hc))
        clear HY HN
        by_cases e0 : m0 = q0
        · subst e0
          by_cases e1 : m1 = q1
          · subst e1
            by_cases e2 : m2 = q2
            · subst e2
              by_cases e3 : m3 = q3
              · subst e3
                by_cases e4 : m4 = q4
                · subst e4
                  exact absurd ⟨rfl, rfl, rfl, rfl, rfl⟩ hq
                · clear hq
                  go_wp2_with fail
                  go_quiet (fail)
                  go_wp2_with fail
                  go_ret
                  exact ⟨ret_bool NE.out.symm, bD (bD L0.out _) _⟩
              · clear hq
                go_wp2_with fail
                go_quiet (fail)
                go_wp2_with fail
                go_ret
                exact ⟨ret_bool NE.out.symm, bD (bD L0.out _) _⟩
            · clear hq
              go_wp2_with fail
              go_quiet (fail)
              go_wp2_with fail
              go_ret
              exact ⟨ret_bool NE.out.symm, bD (bD L0.out _) _⟩
          · clear hq
            go_wp2_with fail
            go_quiet (fail)
            go_wp2_with fail
            go_ret
            exact ⟨ret_bool NE.out.symm, bD (bD L0.out _) _⟩
        · have hs : (m0.toList == q0.toList) = false := by
            cases hc : (m0.toList == q0.toList)
            · rfl
            · exact absurd (eqS_iff.1 hc) e0
          clear hq
          go_wp2_with fail
          go_quiet (fail)
          go_wp2_with fail
          go_ret
          exact ⟨ret_bool NE.out.symm, bD (bD L0.out _) _⟩
    · obtain rfl : k = ss.length := by omega
      have HS := Lib.hid (smS_all HL.out HE.out)
      go_wp2_with fail
      go_ret
      exact ⟨ret_bool HS.out.symm, bD L0.out _⟩
end Go.Proofs.Ytmdfhmoipgaliaa

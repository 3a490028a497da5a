/-
  The document's side of validity: spec.l15Months, l15Years, l15Ok, ValidCalendar.
-/
import Derived.Test.YtpbepibklipfpaaDoorCaE
namespace Go.Proofs.YtpbepibklipfpaaDoor
open Go.RowKit

set_option maxRecDepth 100000 in
set_option maxHeartbeats 8000000 in
theorem l15Months_any (ms : List Mo) (v : Value) (w : World) (ha : SlMo w v ms) :
    Calls Tryd.prog 70 #[v] w (BoolBel (okMo ms) w) := by
  obtain ⟨ao, cap, rfl, ⟨l1, l2⟩, ha⟩ := ha.open
  have HA := Lib.hid ha
  unfold maxLen at l2
  clear ha
  go_enter Tryd.func70, Tryd.ntmps70
  go_wp2_with fail
  go_loopw [3] (fun i wr => ∃ (k n : Nat), k ≤ ms.length ∧ i = .int .i64 k ∧ moK ms k ∧ wr = w.drewN n) (fun i _ => ms.length - (intOf i).toNat)
  case atStart => exact ⟨0, 0, by omega, rfl, moK_zero _, rfl⟩
  case round =>
    obtain ⟨k, n, hk, rfl, hok, rfl⟩ := hrel
    have HK := Lib.hid hok
    clear hok
    by_cases hlt : k < ms.length
    · obtain ⟨g, o, rfl, hg, hc⟩ := HA.out (by omega)
      have HC := Lib.hid hc
      obtain ⟨c0, c1, c2, c3⟩ := hc k hlt
      have HSZ := Lib.hid c3
      have HW := Lib.hid (fun h => okMo_s (ms := ms) hlt h)
      have HS1 := Lib.hid (moK_succ (ms := ms) (k := k) HK.out)
      have HP := Lib.hid (show moAt ms k = ⟨(moAt ms k).nm, (moAt ms k).d, (moAt ms k).l⟩ from rfl)
      rw [HP.out] at HW HS1
      clear hc c3
      generalize (moAt ms k).nm = nm at *
      generalize (moAt ms k).d = x at *
      generalize (moAt ms k).l = y at *
      cases q1 : nameB nm
      · have HN := Lib.hid (HW.out (.inl (moB_n1 (m := ⟨nm, x, y⟩) q1)))
        go_wp2_with (first | (go_at_call 69; refine (IsNameS_any _ _ HSZ.out).mono ?_; rw [q1]; rintro e w1 ⟨rfl, rfl⟩) | (go_at_call 71; refine (l00In_any _ _ _ _).mono ?_; rintro e w1 ⟨rfl, rfl⟩))
        go_ret
        exact ⟨ret_bool HN.out.symm, bD (bR _) _⟩
      cases q2 : inB x 1 60
      · have HN := Lib.hid (HW.out (.inl (moB_n2 (m := ⟨nm, x, y⟩) q2)))
        go_wp2_with (first | (go_at_call 69; refine (IsNameS_any _ _ HSZ.out).mono ?_; rw [q1]; rintro e w1 ⟨rfl, rfl⟩) | (go_at_call 71; refine (l00In_any _ _ _ _).mono ?_; rintro e w1 ⟨rfl, rfl⟩))
        go_ret
        exact ⟨ret_bool HN.out.symm, bD (bR _) _⟩
      cases q3 : inB y 1 60
      · have HN := Lib.hid (HW.out (.inl (moB_n3 (m := ⟨nm, x, y⟩) q3)))
        go_wp2_with (first | (go_at_call 69; refine (IsNameS_any _ _ HSZ.out).mono ?_; rw [q1]; rintro e w1 ⟨rfl, rfl⟩) | (go_at_call 71; refine (l00In_any _ _ _ _).mono ?_; rintro e w1 ⟨rfl, rfl⟩))
        go_ret
        exact ⟨ret_bool HN.out.symm, bD (bR _) _⟩
      have HB := Lib.hid (moB_go (m := ⟨nm, x, y⟩) q1 q2 q3)
      go_wp2_with (first | (go_at_call 69; refine (IsNameS_any _ _ HSZ.out).mono ?_; rw [q1]; rintro e w1 ⟨rfl, rfl⟩) | (go_at_call 71; refine (l00In_any _ _ _ _).mono ?_; rintro e w1 ⟨rfl, rfl⟩))
      go_loopw [4] (fun i wr => ∃ (j n : Nat), j ≤ k ∧ i = .int .i64 j ∧ mnK ms nm j ∧ wr = w.drewN n) (fun i _ => k - (intOf i).toNat)
      case atStart => exact ⟨0, n, by omega, rfl, mnK_zero _ _, rfl⟩
      case round =>
        obtain ⟨j, n2, hj, rfl, hsn, rfl⟩ := hrel
        have HSN := Lib.hid hsn
        clear hsn
        by_cases hjk : j < k
        · obtain ⟨d0, _, _, _⟩ := HC.out j (by omega)
          have HT := Lib.hid (hasM_yes (ms := ms.take k) (n := nm) (k := j) (by rw [List.length_take]; omega))
          have HSS := Lib.hid (mnK_succ (ms := ms) (n := nm) (k := j) HSN.out)
          rw [moAt_take hjk] at HT
          generalize (moAt ms j).nm = nm2 at *
          cases hq : eqN nm2 nm
          · have hq' : (nm2.toList == nm.toList) = false := hq
            have HSS' := Lib.hid (HSS.out hq)
            go_wp2_with fail
            go_quiet (fail)
            go_wp2_with fail
            go_roundw
            case rel => exact ⟨j + 1, _, by omega, by go_num, HSS'.out, by first | rfl | simp [World.drewN_drewN]⟩
            case measure => simp [intOf]; omega
          · have hq' : (nm2.toList == nm.toList) = true := hq
            have HN := Lib.hid (HW.out (.inr (HT.out hq)))
            go_wp2_with fail
            go_quiet (fail)
            go_wp2_with fail
            go_ret
            exact ⟨ret_bool HN.out.symm, by first | exact bD (bR _) _ | exact bD (bD (bR _) _) _⟩
        · obtain rfl : j = k := by omega
          have HSK := Lib.hid (HS1.out HB.out (hasM_no (by
            rw [List.length_take]
            intro i hi
            rw [moAt_take (by omega)]
            exact HSN.out i (by omega))))
          go_wp2_with fail
          go_roundw
          case rel => exact ⟨j + 1, n2, by omega, by go_num, HSK.out, rfl⟩
          case measure => simp [intOf]; omega
    · obtain rfl : k = ms.length := by omega
      have HR := Lib.hid (okMo_go HK.out)
      go_wp2_with (first | (go_at_call 71; refine (l00In_any _ _ _ _).mono ?_; rintro e w1 ⟨rfl, rfl⟩))
      go_ret
      exact ⟨ret_bool HR.out.symm, bD (bR _) _⟩
/-- What l15Years returns. -/
def YrRet (rs : List Ru) (w : World) (e : Ending) (w' : World) : Prop := ∃ y : Int, e = .returned (.tuple #[.int .i64 y, .bool (okRu rs)]) ∧ (okRu rs = true → y = lcA rs) ∧ Below w.heap.size w w'
set_option maxRecDepth 100000 in
set_option maxHeartbeats 8000000 in
theorem l15Years_any (rs : List Ru) (v : Value) (w : World) (ha : SlRu w v rs) :
    Calls Tryd.prog 68 #[v] w (YrRet rs w) := by
  obtain ⟨ao, cap, rfl, ⟨l1, l2⟩, ha⟩ := ha.open
  have HA := Lib.hid ha
  unfold maxLen at l2
  clear ha
  go_enter Tryd.func68, Tryd.ntmps68
  go_wp2_with fail
  go_loopw [4, 5] (fun y i wr => ∃ (k : Nat) (z : Int), k ≤ rs.length ∧ i = .int .i64 k ∧ y = .int .i64 z ∧ z = lcK rs k ∧ 1 ≤ z ∧ z ≤ 2000 ∧ ruK rs k ∧ Below w.heap.size w wr) (fun _ i _ => rs.length - (intOf i).toNat)
  case atStart => exact ⟨0, 1, by omega, rfl, rfl, rfl, by omega, by omega, ruK_zero _, bR _⟩
  case round =>
    obtain ⟨k, z, hk, rfl, rfl, hz, z1, z2, hok, hbw⟩ := hrel
    have HBW := Lib.hid hbw
    have HK := Lib.hid hok
    have HZ := Lib.hid hz
    clear hok hz
    by_cases hlt : k < rs.length
    · obtain ⟨g, o, rfl, hg, hc⟩ := HA.out (by omega)
      obtain ⟨c0, c1, c2⟩ := (hc.keep hg hbw) k hlt
      have HW := Lib.hid (fun h => okRu_r (rs := rs) hlt h)
      have HS1 := Lib.hid (ruK_succ (rs := rs) (k := k) HK.out)
      have HP := Lib.hid (show ruAt rs k = ⟨(ruAt rs k).e, (ruAt rs k).r, (ruAt rs k).b⟩ from rfl)
      have HL := Lib.hid (show lcK rs (k + 1) = z / (Int.gcd z (ruAt rs k).e : Int) * (ruAt rs k).e by rw [HZ.out]; rfl)
      rw [HP.out] at HW HS1
      clear hc hbw hg HA
      generalize (ruAt rs k).e = x at *
      generalize (ruAt rs k).r = y at *
      generalize (ruAt rs k).b = b at *
      have v0 := fun (h : 1 ≤ x ∧ x ≤ 1000) => (IntWalk.i64_in (x - 1) (by omega) : IntKind.i64.wrap (x - 1) = x - 1)
      cases q1 : inB x 1 1000
      · have HN := Lib.hid (HW.out (ruB_n1 (r := ⟨x, y, b⟩) q1))
        go_wp2_with fail
        go_quiet (first | (go_at_call 71; exact quiet_eq (l00In_any _ _ _ _)))
        go_wp2_with fail
        go_ret2
        exact ⟨0, by first | (rw [HN.out]; done) | (rw [HN.out]; rfl), fun h => (by rw [HN.out] at h; cases h), by first | exact HBW.out | exact bD HBW.out _ | exact bD HBQ.out _⟩
      have b1 := inB_true.1 q1
      have v0 := v0 b1
      cases q2 : inB y 0 (x - 1)
      · have HN := Lib.hid (HW.out (ruB_n2 (r := ⟨x, y, b⟩) q2))
        go_wp2_with fail
        go_quiet (first | (go_at_call 71; exact quiet_eq (l00In_any _ _ _ _)))
        go_wp2_with fail
        go_ret2
        exact ⟨0, by first | (rw [HN.out]; done) | (rw [HN.out]; rfl), fun h => (by rw [HN.out] at h; cases h), by first | exact HBW.out | exact bD HBW.out _ | exact bD HBQ.out _⟩
      have HK1 := Lib.hid (HS1.out (ruB_go (r := ⟨x, y, b⟩) q1 q2))
      obtain ⟨fz, f2, f3, fy, fx, f6, f7, f8⟩ := lc_form z1 b1.1
      clear fz fy fx
      have f9 := Int.mul_le_mul_of_nonneg_left b1.2 (show 0 ≤ z by omega)
      have CG := Lib.hid (fun W => l02Gcd_any z x W (by omega) (by omega))
      have HC := Lib.hid (fun h => okRu_c (rs := rs) (k := k + 1) (by omega) h)
      rw [HL.out] at HC
      generalize ((Int.gcd z x : Nat) : Int) = gg at *
      have hgz : ¬ gg = 0 := by omega
      have hz1 : 0 ≤ z / gg := Int.ediv_nonneg (by omega) (by omega)
      have hz2 : z / gg ≤ z := Int.ediv_le_self _ (by omega)
      have v1 : IntKind.i64.wrap (z / gg) = z / gg := IntWalk.i64_in _ (by omega)
      have v2 : IntKind.i64.wrap (z / gg * x) = z / gg * x := IntWalk.i64_in _ (by omega)
      by_cases q3 : 2000 < z / gg * x
      · have HN := Lib.hid (HC.out q3)
        go_wp2_with fail
        go_quiet (first | (go_at_call 71; exact quiet_eq (l00In_any _ _ _ _)))
        go_wp2_with fail
        have e0 : (wr.drewN nq).cell? ⟨g, o + k * 3, none⟩ = some (.int .i64 x) := c0
        have HBQ := Lib.hid (bD HBW.out nq)
        clear c0 c1 c2
        generalize wr.drewN nq = wq at *
        go_quiet (first | (go_at_call 101; exact quiet_eq (CG.out _)))
        go_wp2_with fail
        go_ret2
        exact ⟨0, by first | (rw [HN.out]; done) | (rw [HN.out]; rfl), fun h => (by rw [HN.out] at h; cases h), by first | exact HBW.out | exact bD HBW.out _ | exact bD HBQ.out _⟩
      · go_wp2_with fail
        go_quiet (first | (go_at_call 71; exact quiet_eq (l00In_any _ _ _ _)))
        go_wp2_with fail
        have e0 : (wr.drewN nq).cell? ⟨g, o + k * 3, none⟩ = some (.int .i64 x) := c0
        have HBQ := Lib.hid (bD HBW.out nq)
        clear c0 c1 c2
        generalize wr.drewN nq = wq at *
        go_quiet (first | (go_at_call 101; exact quiet_eq (CG.out _)))
        go_wp2_with fail
        go_roundw
        case rel => exact ⟨k + 1, z / gg * x, by omega, by go_num, rfl, HL.out.symm, by omega, by omega, HK1.out, by first | exact HBW.out | exact bD HBW.out _ | exact bD HBQ.out _⟩
        case measure => simp [intOf]; omega
    · obtain rfl : k = rs.length := by omega
      have HR := Lib.hid (okRu_go HK.out)
      have HR' := Lib.hid (show okRu rs = decide ((rs.length : Int) ≤ 6) by rw [HR.out, show lcA rs = z from HZ.out.symm, Bool.eq_iff_iff]; simp; omega)
      go_wp2_with fail
      go_ret2
      exact ⟨z, by first | (rw [HR'.out]; done) | (rw [HR'.out]; rfl), fun _ => HZ.out, by first | exact HBW.out | exact bD HBW.out _ | exact bD HBQ.out _⟩
/-- A calendar lies in a box. -/
def CalAt (W : World) (b : Nat) (c : Cal) : Prop := ∃ u v, BoxL W b [.string c.nm, u, v, .int .i64 c.wk] ∧ c.nm.size ≤ maxLen ∧ SlMo W u c.ms ∧ SlRu W v c.rs
theorem CalAt.keep {W W' : World} {b : Nat} {c : Cal} (h : CalAt W b c) (hb : Below W.heap.size W W') : CalAt W' b c := by
  obtain ⟨u, v, h1, h2, h3, h4⟩ := h
  exact ⟨u, v, h1.keep hb, h2, h3.keep hb, h4.keep hb⟩
theorem CalAt.new {W : World} {u v : Value} {c : Cal} (T : TypeId) (h2 : c.nm.size ≤ maxLen) (h3 : SlMo W u c.ms) (h4 : SlRu W v c.rs) : CalAt (W.alloc (.cells #[.string c.nm, u, v, .int .i64 c.wk] T)) W.heap.size c :=
  ⟨u, v, BoxL.new W [.string c.nm, u, v, .int .i64 c.wk] T, h2, h3.keep (bA (bR _) _), h4.keep (bA (bR _) _)⟩
theorem okC_r {c : Cal} (h : okRu c.rs = false) : okC c = false := by simp [okC, h]
theorem okC_n {c : Cal} (h : nameB c.nm = false) : okC c = false := by simp [okC, h]
theorem okC_m {c : Cal} (h : okMo c.ms = false) : okC c = false := by simp [okC, h]
theorem okC_w {c : Cal} (h1 : okRu c.rs = true) (h2 : nameB c.nm = true) (h3 : okMo c.ms = true) : okC c = inB c.wk 1 12 := by simp [okC, h1, h2, h3]
set_option maxRecDepth 100000 in
set_option maxHeartbeats 4000000 in
theorem l15Ok_any (b : Nat) (c : Cal) (w : World) (h : CalAt w b c) :
    Calls Tryd.prog 34 #[.pointer (some ⟨b, 0, none⟩)] w (BoolBel (okC c) w) := by
  obtain ⟨u, v, X, hs, hM, hR⟩ := h
  have XB := Lib.hid X
  have HM := Lib.hid hM
  have HS := Lib.hid hs
  obtain ⟨c0, c1, c2, c3, c4⟩ := X.c4q
  have CY := Lib.hid (fun W (h : SlRu W v c.rs) => l15Years_any c.rs v W h)
  have Y1 := Lib.hid (okC_r (c := c))
  have Y2 := Lib.hid (okC_n (c := c))
  have Y3 := Lib.hid (okC_m (c := c))
  have Y4 := Lib.hid (okC_w (c := c))
  have CM := Lib.hid (fun W (h : SlMo W u c.ms) => l15Months_any c.ms u W h)
  have CN := Lib.hid (fun W => IsNameS_any c.nm W hs)
  obtain ⟨a1, n1, rfl, _⟩ := hM.open
  obtain ⟨a2, n2, rfl, _⟩ := hR.open
  unfold YrRet at CY
  generalize okRu c.rs = q1 at *
  generalize nameB c.nm = q2 at *
  generalize okMo c.ms = q3 at *
  generalize okC c = q at *
  generalize c.nm = nm at *
  generalize c.wk = wk at *
  clear hs hM X
  go_enter Tryd.func34, Tryd.ntmps34
  go_wp2_with fail
  refine (CY.out _ hR).mono ?_
  rintro e w1 ⟨y, rfl, _, hb⟩
  have L1 := Lib.hid hb
  clear c0 c1 c2 c3 c4
  obtain ⟨c0, c1, c2, c3, c4⟩ := (XB.out.keep hb).c4q
  have HM1 := Lib.hid (HM.out.keep hb)
  have XB1 := Lib.hid (XB.out.keep hb)
  clear hb hR
  cases q1
  · have HN := Lib.hid (Y1.out rfl)
    go_wp2_with fail
    go_ret
    exact ⟨ret_bool HN.out.symm, L1.out⟩
  cases q2
  · have HN := Lib.hid (Y2.out rfl)
    go_wp2_with fail
    refine (CN.out _).mono ?_
    rintro e w2 ⟨rfl, rfl⟩
    go_wp2_with fail
    go_ret
    exact ⟨ret_bool HN.out.symm, L1.out⟩
  cases q3
  · have HN := Lib.hid (Y3.out rfl)
    go_wp2_with fail
    refine (CN.out _).mono ?_
    rintro e w2 ⟨rfl, rfl⟩
    go_wp2_with fail
    refine (CM.out _ HM1.out).mono ?_
    rintro e w3 ⟨rfl, hb⟩
    have L2 := Lib.hid (bT L1.out hb)
    go_wp2_with fail
    go_ret
    exact ⟨ret_bool HN.out.symm, L2.out⟩
  · have HN := Lib.hid (Y4.out rfl rfl rfl)
    go_wp2_with fail
    refine (CN.out _).mono ?_
    rintro e w2 ⟨rfl, rfl⟩
    go_wp2_with fail
    refine (CM.out _ HM1.out).mono ?_
    rintro e w3 ⟨rfl, hb⟩
    have L2 := Lib.hid (bT L1.out hb)
    clear c0 c1 c2 c3 c4
    obtain ⟨c0, c1, c2, c3, c4⟩ := (XB1.out.keep hb).c4q
    clear hb
    go_wp2_with fail
    refine (l00In_any _ _ _ _).mono ?_
    rintro e w4 ⟨rfl, rfl⟩
    go_wp2_with fail
    go_ret
    exact ⟨ret_bool HN.out.symm, L2.out⟩
end Go.Proofs.YtpbepibklipfpaaDoor

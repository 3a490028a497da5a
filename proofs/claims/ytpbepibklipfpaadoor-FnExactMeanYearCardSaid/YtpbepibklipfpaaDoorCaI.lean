/-
  The program's side of validity: Month.valid, sharesName, LeapRule.wrong, slices.ContainsFunc with them, cycleYears, areRules.
-/
import Derived.Test.YtpbepibklipfpaaDoorCaV
namespace Go.Proofs.YtpbepibklipfpaaDoor
open Go.RowKit

def moV (m : Mo) : Value := .agg #[.string m.nm, .int .i64 m.d, .int .i64 m.l]
def ruV (r : Ru) : Value := .agg #[.int .i64 r.e, .int .i64 r.r, .bool r.b]
theorem sharesName_any (s t : Mo) (w : World) :
    Calls Tryd.prog 123 #[moV s, moV t] w (BoolBel (eqN s.nm t.nm) w) := by
  unfold moV
  go_enter Tryd.func123, Tryd.ntmps123
  go_wp2_with fail
  go_ret
  exact ⟨rfl, bA (bA (bR _) _) _⟩
/-- What IndexFunc returns: the place of the first month with the name. -/
def IdxRetM (q : Bool) (n : Nat) (w : World) (e : Ending) (w' : World) : Prop := ∃ r : Int, e = .returned (.int .i64 r) ∧ decide (0 ≤ r) = q ∧ r ≤ n ∧ -1 ≤ r ∧ Below w.heap.size w w'
set_option maxHeartbeats 2000000 in
theorem idxMo_any (ss : List Mo) (t : Mo) (v : Value) (w : World) (ha : SlMo w v ss) :
    Calls Tryd.prog 145 #[v, .func (.func 123) #[moV t] #[]] w (IdxRetM (hasM ss t.nm) ss.length w) := by
  obtain ⟨ao, cap, rfl, ⟨l1, l2⟩, ha⟩ := ha.open
  unfold maxLen at l2
  have HA := Lib.hid ha
  clear ha
  go_enter Tryd.func145, Tryd.ntmps145
  go_wp2_with fail
  go_loopw [8] (fun i wr => ∃ (k : Nat), k ≤ ss.length ∧ i = .int .i64 k ∧ mnK ss t.nm k ∧ Below w.heap.size w wr) (fun i _ => ss.length - (intOf i).toNat)
  case atStart => exact ⟨0, by omega, rfl, mnK_zero _ _, bR _⟩
  case round =>
    obtain ⟨k, hk, rfl, hok, hbw⟩ := hrel
    have HK := Lib.hid hok
    have HBW := Lib.hid hbw
    clear hok
    by_cases hlt : k < ss.length
    · obtain ⟨g, o, rfl, hg, hc⟩ := HA.out (by omega)
      obtain ⟨c0, c1, c2, _⟩ := (hc.keep hg hbw) k hlt
      have HY := Lib.hid (fun h => hasM_yes (ms := ss) (n := t.nm) hlt h)
      have HS := Lib.hid (mnK_succ (ms := ss) (n := t.nm) (k := k) HK.out)
      have HQ := Lib.hid (sharesName_any t (moAt ss k) wr)
      clear hc HA hbw hg
      rw [eqN_comm] at HQ
      unfold moV at *
      generalize (moAt ss k).nm = m0 at *
      generalize (moAt ss k).d = m1 at *
      generalize (moAt ss k).l = m2 at *
      cases hp : eqN m0 t.nm
      · rw [hp] at HQ
        have HS' := Lib.hid (HS.out hp)
        go_wp2_with fail
        refine HQ.out.mono ?_
        rintro e w1 ⟨rfl, hb1⟩
        have HB1 := Lib.hid (bT HBW.out hb1)
        clear hb1
        go_wp2_with fail
        go_roundw
        case rel => exact ⟨k + 1, by omega, by go_num, HS'.out, HB1.out⟩
        case measure => simp [intOf]; omega
      · rw [hp] at HQ
        have HY' := Lib.hid (HY.out hp)
        go_wp2_with fail
        refine HQ.out.mono ?_
        rintro e w1 ⟨rfl, hb1⟩
        have HB1 := Lib.hid (bT HBW.out hb1)
        clear hb1
        go_wp2_with fail
        go_ret
        exact ⟨k, rfl, by rw [HY'.out]; simp, by omega, by omega, HB1.out⟩
    · obtain rfl : k = ss.length := by omega
      have HR := Lib.hid (hasM_no HK.out)
      clear hbw
      go_wp2_with fail
      go_ret
      exact ⟨-1, rfl, by rw [HR.out]; rfl, by omega, by omega, HBW.out⟩
theorem containsMo_any (ss : List Mo) (t : Mo) (v : Value) (w : World) (ha : SlMo w v ss) :
    Calls Tryd.prog 122 #[v, .func (.func 123) #[moV t] #[]] w (BoolBel (hasM ss t.nm) w) := by
  go_enter Tryd.func122, Tryd.ntmps122
  go_wp2_with fail
  refine (idxMo_any ss t v w ha).mono ?_
  rintro e w1 ⟨r, rfl, hr, h1, h2, hb⟩
  have HR := Lib.hid hr
  clear hr
  go_wp2_with fail
  go_ret
  exact ⟨ret_bool HR.out, hb⟩
theorem moValid_any (nm : ByteArray) (x y : Int) (w : World) (hs : nm.size ≤ maxLen) :
    Calls Tryd.prog 121 #[.agg #[.string nm, .int .i64 x, .int .i64 y]] w (BoolBel (moB ⟨nm, x, y⟩) w) := by
  have A1 := Lib.hid (BoxL.new w [.string nm, .int .i64 x, .int .i64 y] 79)
  have L0 := Lib.hid (bA (bR w) (.cells #[.string nm, .int .i64 x, .int .i64 y] 79))
  have HS := Lib.hid hs
  clear hs
  cases q1 : nameB nm
  · rw [moB_n1 (m := ⟨nm, x, y⟩) q1]
    go_enter Tryd.func121, Tryd.ntmps121
    go_wp2_with fail
    refine (IsNameI_any _ _ HS.out).mono ?_
    rw [q1]
    rintro e w1 ⟨rfl, hb⟩
    go_wp2_with fail
    go_ret
    exact ⟨rfl, bT L0.out hb⟩
  cases q2 : inB x 1 60
  · rw [moB_n2 (m := ⟨nm, x, y⟩) q2]
    go_enter Tryd.func121, Tryd.ntmps121
    go_wp2_with fail
    refine (IsNameI_any _ _ HS.out).mono ?_
    rw [q1]
    rintro e w1 ⟨rfl, hb⟩
    have L1 := Lib.hid (bT L0.out hb)
    obtain ⟨a0, a1, a2, a3⟩ := (A1.out.keep hb).c3
    clear hb
    go_wp2_with (go_at_call 56; refine (isBetween_any _ _ _ _).mono ?_; rintro e w1 ⟨rfl, rfl⟩)
    go_ret
    exact ⟨rfl, L1.out⟩
  · have HZ := Lib.hid (show moB ⟨nm, x, y⟩ = inB y 1 60 by simp [moB, q1, q2])
    rw [HZ.out]
    go_enter Tryd.func121, Tryd.ntmps121
    go_wp2_with fail
    refine (IsNameI_any _ _ HS.out).mono ?_
    rw [q1]
    rintro e w1 ⟨rfl, hb⟩
    have L1 := Lib.hid (bT L0.out hb)
    obtain ⟨a0, a1, a2, a3⟩ := (A1.out.keep hb).c3
    clear hb
    go_wp2_with (go_at_call 56; refine (isBetween_any _ _ _ _).mono ?_; rintro e w1 ⟨rfl, rfl⟩)
    go_ret
    exact ⟨rfl, L1.out⟩
set_option maxHeartbeats 1000000 in
theorem wrong_any (r : Ru) (w : World) :
    Calls Tryd.prog 125 #[ruV r] w (BoolBel (!ruB r) w) := by
  obtain ⟨x, y, b⟩ := r
  unfold ruV
  simp only
  have A1 := Lib.hid (BoxL.new w [.int .i64 x, .int .i64 y, .bool b] 82)
  have L0 := Lib.hid (bA (bR w) (.cells #[.int .i64 x, .int .i64 y, .bool b] 82))
  cases q1 : inB x 1 1000
  · rw [ruB_n1 (r := ⟨x, y, b⟩) q1]
    go_enter Tryd.func125, Tryd.ntmps125
    go_wp2_with (go_at_call 56; refine (isBetween_any _ _ _ _).mono ?_; rintro e w1 ⟨rfl, rfl⟩)
    go_ret
    exact ⟨rfl, L0.out⟩
  · have b1 := inB_true.1 q1
    have HZ := Lib.hid (show ruB ⟨x, y, b⟩ = inB y 0 (x - 1) by simp [ruB, q1])
    rw [HZ.out]
    go_enter Tryd.func125, Tryd.ntmps125
    go_wp2_with (go_at_call 56; refine (isBetween_any _ _ _ _).mono ?_; rintro e w1 ⟨rfl, rfl⟩)
    go_ret
    exact ⟨rfl, L0.out⟩
/-- The rules so far are right. -/
theorem wrong_yes {rs : List Ru} {k : Nat} (hk : k < rs.length) (h : ruB (ruAt rs k) = false) : rs.all ruB = false := by
  cases hc : rs.all ruB
  · rfl
  · rw [ruK_iff.1 hc k hk] at h; cases h
set_option maxHeartbeats 2000000 in
theorem idxRu_any (ss : List Ru) (v : Value) (w : World) (ha : SlRu w v ss) :
    Calls Tryd.prog 146 #[v, .func (.func 125) #[] #[]] w (IdxRetM (!ss.all ruB) ss.length w) := by
  obtain ⟨ao, cap, rfl, ⟨l1, l2⟩, ha⟩ := ha.open
  unfold maxLen at l2
  have HA := Lib.hid ha
  clear ha
  go_enter Tryd.func146, Tryd.ntmps146
  go_wp2_with fail
  go_loopw [8] (fun i wr => ∃ (k : Nat), k ≤ ss.length ∧ i = .int .i64 k ∧ ruK ss k ∧ Below w.heap.size w wr) (fun i _ => ss.length - (intOf i).toNat)
  case atStart => exact ⟨0, by omega, rfl, ruK_zero _, bR _⟩
  case round =>
    obtain ⟨k, hk, rfl, hok, hbw⟩ := hrel
    have HK := Lib.hid hok
    have HBW := Lib.hid hbw
    clear hok
    by_cases hlt : k < ss.length
    · obtain ⟨g, o, rfl, hg, hc⟩ := HA.out (by omega)
      obtain ⟨c0, c1, c2⟩ := (hc.keep hg hbw) k hlt
      have HY := Lib.hid (fun h => wrong_yes (rs := ss) hlt h)
      have HS := Lib.hid (ruK_succ (rs := ss) (k := k) HK.out)
      have HQ := Lib.hid (wrong_any (ruAt ss k) wr)
      clear hc HA hbw hg
      generalize hp : ruB (ruAt ss k) = p at *
      unfold ruV at *
      generalize (ruAt ss k).e = m0 at *
      generalize (ruAt ss k).r = m1 at *
      generalize (ruAt ss k).b = m2 at *
      clear hp
      cases p
      · have HY' := Lib.hid (HY.out rfl)
        go_wp2_with fail
        refine HQ.out.mono ?_
        rintro e w1 ⟨rfl, hb1⟩
        have HB1 := Lib.hid (bT HBW.out hb1)
        clear hb1
        go_wp2_with fail
        go_ret
        exact ⟨k, rfl, by rw [HY'.out]; simp, by omega, by omega, HB1.out⟩
      · have HS' := Lib.hid (HS.out rfl)
        go_wp2_with fail
        refine HQ.out.mono ?_
        rintro e w1 ⟨rfl, hb1⟩
        have HB1 := Lib.hid (bT HBW.out hb1)
        clear hb1
        go_wp2_with fail
        go_roundw
        case rel => exact ⟨k + 1, by omega, by go_num, HS'.out, HB1.out⟩
        case measure => simp [intOf]; omega
    · obtain rfl : k = ss.length := by omega
      have HR := Lib.hid (ruK_iff.2 HK.out)
      clear hbw
      go_wp2_with fail
      go_ret
      exact ⟨-1, rfl, by rw [HR.out]; rfl, by omega, by omega, HBW.out⟩
theorem containsRu_any (ss : List Ru) (v : Value) (w : World) (ha : SlRu w v ss) :
    Calls Tryd.prog 124 #[v, .func (.func 125) #[] #[]] w (BoolBel (!ss.all ruB) w) := by
  go_enter Tryd.func124, Tryd.ntmps124
  go_wp2_with fail
  refine (idxRu_any ss v w ha).mono ?_
  rintro e w1 ⟨r, rfl, hr, h1, h2, hb⟩
  have HR := Lib.hid hr
  clear hr
  go_wp2_with fail
  go_ret
  exact ⟨ret_bool HR.out, hb⟩
def OneC (n : Int) (w : World) (e : Ending) (w' : World) : Prop := e = .returned (.int .i64 n) ∧ Below w.heap.size w w'
set_option maxRecDepth 100000 in
set_option maxHeartbeats 4000000 in
theorem cycleYears_any (rs : List Ru) (v : Value) (w : World) (ha : SlRu w v rs) (hr : ruK rs rs.length) (h6 : rs.length ≤ 6) :
    Calls Tryd.prog 106 #[v] w (OneC (lcA rs) w) := by
  obtain ⟨ao, cap, rfl, _, ha⟩ := ha.open
  have HA := Lib.hid ha
  have HR := Lib.hid hr
  have HB := Lib.hid (fun k (hk : k ≤ rs.length) => (⟨lcK_pos (rs := rs) (k := k) (fun i hi => hr i (by omega)), lcK_bd (rs := rs) (k := k) (fun i hi => hr i (by omega)) (by omega)⟩ : 1 ≤ lcK rs k ∧ lcK rs k ≤ 1000000000000000000))
  unfold lcA
  clear ha hr
  go_enter Tryd.func106, Tryd.ntmps106
  go_wp2_with fail
  go_loopw [3, 8] (fun y i wr => ∃ (k : Nat), k ≤ rs.length ∧ i = .int .i64 k ∧ y = .int .i64 (lcK rs k) ∧ Below w.heap.size w wr) (fun _ i _ => rs.length - (intOf i).toNat)
  case atStart => exact ⟨0, by omega, rfl, rfl, bR _⟩
  case round =>
    obtain ⟨k, hk, rfl, rfl, hbw⟩ := hrel
    have HBW := Lib.hid hbw
    by_cases hlt : k < rs.length
    · obtain ⟨g, o, rfl, hg, hc⟩ := HA.out (by omega)
      obtain ⟨c0, c1, c2⟩ := (hc.keep hg hbw) k hlt
      have hx := (ruB_bd (HR.out k hlt)).1
      have hz := HB.out k hk
      have hn := (HB.out (k + 1) (by omega)).2
      have HL := Lib.hid (show lcK rs (k + 1) = lcK rs k / (Int.gcd (lcK rs k) (ruAt rs k).e : Int) * (ruAt rs k).e from rfl)
      rw [HL.out] at hn
      clear hc hbw hg HA HR HB
      generalize (ruAt rs k).e = x at *
      generalize (ruAt rs k).r = y at *
      generalize (ruAt rs k).b = b at *
      generalize lcK rs k = z at *
      obtain ⟨fz, f2, f3, fy, fx, f6, f7, f8⟩ := lc_form hz.1 hx.1
      rw [fz] at HL hn
      clear fz f2 f3 fy fx
      have n1 : ((z.natAbs : Nat) : Int) = z := by omega
      have n2 : ((x.natAbs : Nat) : Int) = x := by omega
      have M1 := fun W => magnitude_any z W (by omega) (by omega)
      have M2 := fun W => magnitude_any x W (by omega) (by omega)
      rw [n1] at M1
      rw [n2] at M2
      have CM1 := Lib.hid M1
      have CM2 := Lib.hid M2
      have CG := Lib.hid (fun W => commonDivisor_any z x W (by omega) (by omega))
      clear n1 n2 M1 M2
      have hgx : ((Int.gcd z x : Nat) : Int) ≤ x := by
        have := Int.le_of_dvd (by omega) (Int.gcd_dvd_right (a := z) (b := x)); exact this
      generalize ((Int.gcd z x : Nat) : Int) = gg at *
      have hgz : ¬ gg = 0 := by omega
      have v0 : IntKind.i64.wrap gg = gg := IntWalk.i64_in _ (by omega)
      have v1 : IntKind.i64.wrap (x / gg) = x / gg := IntWalk.i64_in _ (by omega)
      have hp : 0 ≤ z * (x / gg) := Int.mul_nonneg (by omega) (by omega)
      have v2 : IntKind.i64.wrap (z * (x / gg)) = z * (x / gg) := IntWalk.i64_in _ (by omega)
      go_wp2_with fail
      obtain ⟨d0, d1, d2, d3⟩ := (BoxL.new wr [.int .i64 x, .int .i64 y, .bool b] 82).c3
      have L2 := Lib.hid (bA HBW.out (.cells #[.int .i64 x, .int .i64 y, .bool b] 82))
      clear c0 c1 c2
      generalize wr.alloc (.cells #[.int .i64 x, .int .i64 y, .bool b] 82) = W1 at *
      generalize wr.heap.size = nb at *
      go_quiet (first | (go_at_call 108; first | with_reducible exact quiet_eq (CM1.out _) | with_reducible exact quiet_eq (CM2.out _)) | (go_at_call 109; exact Calls.quiet_of (CG.out _)))
      go_wp2_with fail
      go_roundw
      case rel => exact ⟨k + 1, by omega, by go_num, by rw [HL.out], by first | exact L2.out | exact bD L2.out _⟩
      case measure => simp [intOf]; omega
    · obtain rfl : k = rs.length := by omega
      go_wp2_with fail
      go_ret
      exact ⟨rfl, HBW.out⟩
set_option maxRecDepth 100000 in
set_option maxHeartbeats 2000000 in
theorem areRules_any (rs : List Ru) (v : Value) (w : World) (ha : SlRu w v rs) :
    Calls Tryd.prog 99 #[v] w (BoolBel (okRu rs) w) := by
  obtain ⟨ao, cap, rfl, ⟨l1, l2⟩, _⟩ := ha.open
  unfold maxLen at l2
  have HA := Lib.hid ha
  have CC := Lib.hid (fun W (h : SlRu W (.slice ao rs.length cap) rs) => containsRu_any rs _ W h)
  clear ha
  by_cases h6 : rs.length ≤ 6
  · cases hq : rs.all ruB
    · have HN := Lib.hid (show okRu rs = false by simp [okRu, hq])
      rw [hq] at CC
      go_enter Tryd.func99, Tryd.ntmps99
      go_wp2_with fail
      refine (CC.out _ HA.out).mono ?_
      rintro e w1 ⟨rfl, hb⟩
      have L1 := Lib.hid hb
      clear hb
      go_wp2_with fail
      go_ret
      exact ⟨ret_bool HN.out.symm, L1.out⟩
    · have HN := Lib.hid (show okRu rs = decide (lcA rs ≤ 2000) by simp [okRu, hq, h6])
      have CY := Lib.hid (fun W (h : SlRu W (.slice ao rs.length cap) rs) => cycleYears_any rs _ W h (ruK_iff.1 hq) h6)
      rw [hq] at CC
      go_enter Tryd.func99, Tryd.ntmps99
      go_wp2_with fail
      refine (CC.out _ HA.out).mono ?_
      rintro e w1 ⟨rfl, hb⟩
      have L1 := Lib.hid hb
      have HA1 := Lib.hid (HA.out.keep hb)
      clear hb
      go_wp2_with fail
      refine (CY.out _ HA1.out).mono ?_
      rintro e w2 ⟨rfl, hb⟩
      have L2 := Lib.hid (bT L1.out hb)
      clear hb
      go_wp2_with fail
      go_ret
      exact ⟨ret_bool HN.out.symm, L2.out⟩
  · have HN := Lib.hid (okRu_len h6)
    go_enter Tryd.func99, Tryd.ntmps99
    go_wp2_with fail
    go_ret
    exact ⟨ret_bool HN.out.symm, bR _⟩
end Go.Proofs.YtpbepibklipfpaaDoor

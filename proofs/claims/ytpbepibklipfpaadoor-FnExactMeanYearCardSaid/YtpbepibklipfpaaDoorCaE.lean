/-
  The model's comparison of calendars: laws.eqCalendar and what it calls.
-/
import Derived.Test.YtpbepibklipfpaaDoorCaC
namespace Go.Proofs.YtpbepibklipfpaaDoor
open Go.RowKit

set_option maxHeartbeats 1000000 in
theorem eqMonth_same (m0 : ByteArray) (m1 : Int) (m2 : Int) (w : World) :
    Calls Tryd.prog 80 #[.agg #[.string m0, .int .i64 m1, .int .i64 m2], .agg #[.string m0, .int .i64 m1, .int .i64 m2]] w (BoolBel true w) := by
  have h1 : (m1 != m1) = false := by simp
  have h2 : (m2 != m2) = false := by simp
  go_enter Tryd.func80, Tryd.ntmps80
  go_wp2_with fail
  go_ret
  exact ⟨rfl, bA (bA (bR _) _) _⟩
def EqMoH (w : World) (g g2 i i2 : Nat) (m0 : ByteArray) (m1 : Int) (m2 : Int) (w' : World) : Prop :=
  w'.cell? ⟨g, i, none⟩ = some (.string m0) ∧ w'.cell? ⟨g, i + 1, none⟩ = some (.int .i64 m1) ∧ w'.cell? ⟨g, i + 2, none⟩ = some (.int .i64 m2) ∧ w'.cell? ⟨g2, i2, none⟩ = some (.string m0) ∧ w'.cell? ⟨g2, i2 + 1, none⟩ = some (.int .i64 m1) ∧ w'.cell? ⟨g2, i2 + 2, none⟩ = some (.int .i64 m2) ∧ g < w'.heap.size ∧ g2 < w'.heap.size ∧ Below w.heap.size w w'
theorem EqMoH.keep {w : World} {g g2 i i2 : Nat} {m0 : ByteArray} {m1 : Int} {m2 : Int} {w' w2 : World} (hb : Below w'.heap.size w' w2) (h : EqMoH w g g2 i i2 m0 m1 m2 w') : EqMoH w g g2 i i2 m0 m1 m2 w2 := by
  obtain ⟨c0, c1, c2, d0, d1, d2, e1, e2, e3⟩ := h
  exact ⟨(hb.cell (p := ⟨g, i, none⟩) e1).trans c0, (hb.cell (p := ⟨g, i + 1, none⟩) e1).trans c1, (hb.cell (p := ⟨g, i + 2, none⟩) e1).trans c2,
    (hb.cell (p := ⟨g2, i2, none⟩) e2).trans d0, (hb.cell (p := ⟨g2, i2 + 1, none⟩) e2).trans d1, (hb.cell (p := ⟨g2, i2 + 2, none⟩) e2).trans d2, Nat.lt_of_lt_of_le e1 hb.size, Nat.lt_of_lt_of_le e2 hb.size, bT e3 hb⟩
theorem EqMoH.drew {w : World} {g g2 i i2 : Nat} {m0 : ByteArray} {m1 : Int} {m2 : Int} {w' : World} (h : EqMoH w g g2 i i2 m0 m1 m2 w') : EqMoH w g g2 i i2 m0 m1 m2 w'.drew := h.keep (bR _).drew
set_option maxHeartbeats 2000000 in
theorem eqMonthS_same (ss : List Mo) (va vb : Value) (w : World) (ha : SlMo w va ss) (hb : SlMo w vb ss) (hmax : ss.length ≤ 1048576) :
    Calls Tryd.prog 41 #[va, vb] w (BoolBel true w) := by
  obtain ⟨ao, cap, rfl, _, ha⟩ := ha.open
  obtain ⟨bo, bcap, rfl, _, hb⟩ := hb.open
  have HA := Lib.hid ha
  have HB := Lib.hid hb
  clear ha hb
  have hne : ((ss.length : Int) != (ss.length : Int)) = false := by simp
  go_enter Tryd.func41, Tryd.ntmps41
  go_wp2_with fail
  go_loopw [5] (fun i wr => ∃ (k : Nat), k ≤ ss.length ∧ i = .int .i64 k ∧ Below w.heap.size w wr) (fun i _ => ss.length - (intOf i).toNat)
  case atStart => exact ⟨0, by omega, rfl, bR _⟩
  case round =>
    obtain ⟨k, hk, rfl, hbw⟩ := hrel
    by_cases hlt : k < ss.length
    · obtain ⟨g, o1, rfl, hg, hc⟩ := HA.out (by omega)
      obtain ⟨g2, o2, rfl, hg2, hc2⟩ := HB.out (by omega)
      obtain ⟨c0, c1, c2, _⟩ := (hc.keep hg hbw) k hlt
      obtain ⟨d0, d1, d2, _⟩ := (hc2.keep hg2 hbw) k hlt
      have hs := hbw.size
      have hg' : g < wr.heap.size := by omega
      have hg2' : g2 < wr.heap.size := by omega
      have HBW := Lib.hid hbw
      clear hc hc2 HA HB hbw
      generalize (moAt ss k).nm = m0 at *
      generalize (moAt ss k).d = m1 at *
      generalize (moAt ss k).l = m2 at *
      have HS : EqMoH w g g2 (o1 + k * 3) (o2 + k * 3) m0 m1 m2 wr := ⟨c0, c1, c2, d0, d1, d2, hg', hg2', HBW.out⟩
      go_wp2_with fail
      go_region_held3 (fun w' => w'.cell? ⟨g, o1 + k * 3, none⟩ = some (.string m0) ∧ w'.cell? ⟨g, o1 + k * 3 + 1, none⟩ = some (.int .i64 m1) ∧ w'.cell? ⟨g, o1 + k * 3 + 2, none⟩ = some (.int .i64 m2) ∧ w'.cell? ⟨g2, o2 + k * 3, none⟩ = some (.string m0) ∧ w'.cell? ⟨g2, o2 + k * 3 + 1, none⟩ = some (.int .i64 m1) ∧ w'.cell? ⟨g2, o2 + k * 3 + 2, none⟩ = some (.int .i64 m2) ∧ g < w'.heap.size ∧ g2 < w'.heap.size ∧ Below w.heap.size w w') (first | exact HS.drew | exact EqMoH.keep hb (by assumption))
        ((go_at_call 80; refine (eqMonth_same _ _ _ _).mono ?_; rintro e w' ⟨rfl, hb⟩))
      have HT : EqMoH w g g2 (o1 + k * 3) (o2 + k * 3) m0 m1 m2 w' := by assumption
      have HU := Lib.hid HT.2.2.2.2.2.2.2.2
      clear hb HT HS
      go_wp2_with fail
      go_roundw
      case rel => exact ⟨k + 1, by omega, by go_num, HU.out⟩
      case measure => simp [intOf]; omega
    · go_wp2_with fail
      go_ret
      exact ⟨rfl, hbw⟩
set_option maxHeartbeats 1000000 in
theorem eqLeapRule_same (m0 : Int) (m1 : Int) (m2 : Bool) (w : World) :
    Calls Tryd.prog 81 #[.agg #[.int .i64 m0, .int .i64 m1, .bool m2], .agg #[.int .i64 m0, .int .i64 m1, .bool m2]] w (BoolBel true w) := by
  have h0 : (m0 != m0) = false := by simp
  have h1 : (m1 != m1) = false := by simp
  have h2 : (m2 != m2) = false := by simp
  go_enter Tryd.func81, Tryd.ntmps81
  go_wp2_with fail
  go_ret
  exact ⟨rfl, bA (bA (bR _) _) _⟩
def EqRuH (w : World) (g g2 i i2 : Nat) (m0 : Int) (m1 : Int) (m2 : Bool) (w' : World) : Prop :=
  w'.cell? ⟨g, i, none⟩ = some (.int .i64 m0) ∧ w'.cell? ⟨g, i + 1, none⟩ = some (.int .i64 m1) ∧ w'.cell? ⟨g, i + 2, none⟩ = some (.bool m2) ∧ w'.cell? ⟨g2, i2, none⟩ = some (.int .i64 m0) ∧ w'.cell? ⟨g2, i2 + 1, none⟩ = some (.int .i64 m1) ∧ w'.cell? ⟨g2, i2 + 2, none⟩ = some (.bool m2) ∧ g < w'.heap.size ∧ g2 < w'.heap.size ∧ Below w.heap.size w w'
theorem EqRuH.keep {w : World} {g g2 i i2 : Nat} {m0 : Int} {m1 : Int} {m2 : Bool} {w' w2 : World} (hb : Below w'.heap.size w' w2) (h : EqRuH w g g2 i i2 m0 m1 m2 w') : EqRuH w g g2 i i2 m0 m1 m2 w2 := by
  obtain ⟨c0, c1, c2, d0, d1, d2, e1, e2, e3⟩ := h
  exact ⟨(hb.cell (p := ⟨g, i, none⟩) e1).trans c0, (hb.cell (p := ⟨g, i + 1, none⟩) e1).trans c1, (hb.cell (p := ⟨g, i + 2, none⟩) e1).trans c2,
    (hb.cell (p := ⟨g2, i2, none⟩) e2).trans d0, (hb.cell (p := ⟨g2, i2 + 1, none⟩) e2).trans d1, (hb.cell (p := ⟨g2, i2 + 2, none⟩) e2).trans d2, Nat.lt_of_lt_of_le e1 hb.size, Nat.lt_of_lt_of_le e2 hb.size, bT e3 hb⟩
theorem EqRuH.drew {w : World} {g g2 i i2 : Nat} {m0 : Int} {m1 : Int} {m2 : Bool} {w' : World} (h : EqRuH w g g2 i i2 m0 m1 m2 w') : EqRuH w g g2 i i2 m0 m1 m2 w'.drew := h.keep (bR _).drew
set_option maxHeartbeats 2000000 in
theorem eqLeapRuleS_same (ss : List Ru) (va vb : Value) (w : World) (ha : SlRu w va ss) (hb : SlRu w vb ss) (hmax : ss.length ≤ 1048576) :
    Calls Tryd.prog 42 #[va, vb] w (BoolBel true w) := by
  obtain ⟨ao, cap, rfl, _, ha⟩ := ha.open
  obtain ⟨bo, bcap, rfl, _, hb⟩ := hb.open
  have HA := Lib.hid ha
  have HB := Lib.hid hb
  clear ha hb
  have hne : ((ss.length : Int) != (ss.length : Int)) = false := by simp
  go_enter Tryd.func42, Tryd.ntmps42
  go_wp2_with fail
  go_loopw [5] (fun i wr => ∃ (k : Nat), k ≤ ss.length ∧ i = .int .i64 k ∧ Below w.heap.size w wr) (fun i _ => ss.length - (intOf i).toNat)
  case atStart => exact ⟨0, by omega, rfl, bR _⟩
  case round =>
    obtain ⟨k, hk, rfl, hbw⟩ := hrel
    by_cases hlt : k < ss.length
    · obtain ⟨g, o1, rfl, hg, hc⟩ := HA.out (by omega)
      obtain ⟨g2, o2, rfl, hg2, hc2⟩ := HB.out (by omega)
      obtain ⟨c0, c1, c2⟩ := (hc.keep hg hbw) k hlt
      obtain ⟨d0, d1, d2⟩ := (hc2.keep hg2 hbw) k hlt
      have hs := hbw.size
      have hg' : g < wr.heap.size := by omega
      have hg2' : g2 < wr.heap.size := by omega
      have HBW := Lib.hid hbw
      clear hc hc2 HA HB hbw
      generalize (ruAt ss k).e = m0 at *
      generalize (ruAt ss k).r = m1 at *
      generalize (ruAt ss k).b = m2 at *
      have HS : EqRuH w g g2 (o1 + k * 3) (o2 + k * 3) m0 m1 m2 wr := ⟨c0, c1, c2, d0, d1, d2, hg', hg2', HBW.out⟩
      go_wp2_with fail
      go_region_held3 (fun w' => w'.cell? ⟨g, o1 + k * 3, none⟩ = some (.int .i64 m0) ∧ w'.cell? ⟨g, o1 + k * 3 + 1, none⟩ = some (.int .i64 m1) ∧ w'.cell? ⟨g, o1 + k * 3 + 2, none⟩ = some (.bool m2) ∧ w'.cell? ⟨g2, o2 + k * 3, none⟩ = some (.int .i64 m0) ∧ w'.cell? ⟨g2, o2 + k * 3 + 1, none⟩ = some (.int .i64 m1) ∧ w'.cell? ⟨g2, o2 + k * 3 + 2, none⟩ = some (.bool m2) ∧ g < w'.heap.size ∧ g2 < w'.heap.size ∧ Below w.heap.size w w') (first | exact HS.drew | exact EqRuH.keep hb (by assumption))
        ((go_at_call 81; refine (eqLeapRule_same _ _ _ _).mono ?_; rintro e w' ⟨rfl, hb⟩))
      have HT : EqRuH w g g2 (o1 + k * 3) (o2 + k * 3) m0 m1 m2 w' := by assumption
      have HU := Lib.hid HT.2.2.2.2.2.2.2.2
      clear hb HT HS
      go_wp2_with fail
      go_roundw
      case rel => exact ⟨k + 1, by omega, by go_num, HU.out⟩
      case measure => simp [intOf]; omega
    · go_wp2_with fail
      go_ret
      exact ⟨rfl, hbw⟩
set_option maxHeartbeats 2000000 in
theorem eqCalendar_same (c : Cal) (x y : Value) (w : World) (ha : IsC w x c) (hb : IsC w y c) (hl : CaLim c) :
    Calls Tryd.prog 14 #[x, y] w (BoolBel true w) := by
  obtain ⟨u, v, rfl, hs, hM, hR⟩ := ha
  obtain ⟨u2, v2, rfl, _, hM2, hR2⟩ := hb
  obtain ⟨nm, ms, rs, wk⟩ := c
  obtain ⟨l1, l2⟩ := hl
  simp only at hs hM hR hM2 hR2 l1 l2
  have h0 : (wk != wk) = false := by simp
  have L0 := Lib.hid (bA (bA (bR w) (.cells #[.string nm, u, v, .int .i64 wk] 34)) (.cells #[.string nm, u2, v2, .int .i64 wk] 34))
  have A1 := Lib.hid ((BoxL.new w [.string nm, u, v, .int .i64 wk] 34).alloc (.cells #[.string nm, u2, v2, .int .i64 wk] 34))
  have A2 := Lib.hid (BoxL.at_ (w := w.alloc (.cells #[.string nm, u, v, .int .i64 wk] 34)) (b := w.heap.size + 1) (vs := [.string nm, u2, v2, .int .i64 wk]) (T := 34) (by simp))
  have M1 := Lib.hid (hM.keep L0.out)
  have M2 := Lib.hid (hM2.keep L0.out)
  have R1 := Lib.hid (hR.keep L0.out)
  have R2 := Lib.hid (hR2.keep L0.out)
  obtain ⟨a1, n1, rfl, _⟩ := hM.open
  obtain ⟨a2, n2, rfl, _⟩ := hM2.open
  obtain ⟨a3, n3, rfl, _⟩ := hR.open
  obtain ⟨a4, n4, rfl, _⟩ := hR2.open
  clear hM hM2 hR hR2
  go_enter Tryd.func14, Tryd.ntmps14
  go_wp2_with fail
  refine (eqMonthS_same ms _ _ _ M1.out M2.out l1).mono ?_
  rintro e w1 ⟨rfl, hb⟩
  have L1 := Lib.hid (bT L0.out hb)
  have R3 := Lib.hid (R1.out.keep hb)
  have R4 := Lib.hid (R2.out.keep hb)
  have B1 := Lib.hid (A1.out.keep hb)
  have B2 := Lib.hid (A2.out.keep hb)
  obtain ⟨c0, c1, c2, c3, c4⟩ := B1.out.c4q
  obtain ⟨d0, d1, d2, d3, d4⟩ := B2.out.c4q
  clear hb
  go_wp2_with fail
  refine (eqLeapRuleS_same rs _ _ _ R3.out R4.out l2).mono ?_
  rintro e w2 ⟨rfl, hb⟩
  have L2 := Lib.hid (bT L1.out hb)
  clear c0 c1 c2 c3 c4 d0 d1 d2 d3 d4
  obtain ⟨c0, c1, c2, c3, c4⟩ := (B1.out.keep hb).c4q
  obtain ⟨d0, d1, d2, d3, d4⟩ := (B2.out.keep hb).c4q
  clear hb
  go_wp2_with fail
  go_ret
  exact ⟨rfl, L2.out⟩
end Go.Proofs.YtpbepibklipfpaaDoor

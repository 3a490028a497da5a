/-
  The model's conversions of calendars: laws.szCalendar, toCalendar, eqCalendar and what they call.
-/
import Derived.Test.YtpbepibklipfpaaDoorCaO
import Derived.Test.YtpbepibklipfpaaDoorEqR
namespace Go.Proofs.YtpbepibklipfpaaDoor
open Go.RowKit

def CaIn (n : Int) (P : Prop) (w : World) (e : Ending) (w' : World) : Prop := ∃ r : Int, e = .returned (.int .i64 r) ∧ -1 ≤ r ∧ r ≤ n ∧ (0 ≤ r → P) ∧ Below w.heap.size w w'
theorem szMonth_any (nm : ByteArray) (x y : Int) (n : Int) (w : World) (h0 : 0 ≤ n) (h1 : n ≤ 1048576) (h3 : nm.size ≤ 9223372036854775807) :
    Calls Tryd.prog 67 #[.agg #[.string nm, .int .i64 x, .int .i64 y], .int .i64 n] w (CaIn n True w) := by
  by_cases h : (nm.size : Int) ≤ n
  · have h' : ¬ n - (nm.size : Int) < 0 := by omega
    go_enter Tryd.func67, Tryd.ntmps67
    go_wp2_with fail
    go_ret
    exact ⟨_, rfl, by omega, by omega, fun _ => trivial, bA (bR _) _⟩
  · have h' : n - (nm.size : Int) < 0 := by omega
    go_enter Tryd.func67, Tryd.ntmps67
    go_wp2_with fail
    go_ret
    exact ⟨_, rfl, by omega, by omega, fun h => absurd h (by omega), bA (bR _) _⟩
def SzMoRel (w : World) (ms : List Mo) (n : Int) (q i : Value) (wr : World) : Prop :=
  ∃ (j : Nat) (r : Int), j ≤ ms.length ∧ i = .int .i64 j ∧ q = .int .i64 r ∧ 0 ≤ r ∧ r ≤ n ∧ Below w.heap.size w wr
set_option maxHeartbeats 2000000 in
theorem szMonthS_any (v : Value) (ms : List Mo) (n : Int) (w : World) (h : SlMo w v ms) (h0 : 0 ≤ n) (h1 : n ≤ 1048576) :
    Calls Tryd.prog 32 #[v, .int .i64 n] w (CaIn n (ms.length ≤ 1048576) w) := by
  obtain ⟨ao, cap, rfl, ⟨l1, l2⟩, hc⟩ := h.open
  unfold maxLen at l2
  have HC := Lib.hid hc
  clear hc h
  by_cases hl : (ms.length : Int) ≤ n
  · have h' : ¬ n - (ms.length : Int) < 0 := by omega
    go_enter Tryd.func32, Tryd.ntmps32
    go_wp2_with fail
    go_loopw [1, 5] (fun q i wr => SzMoRel w ms n q i wr) (fun _ i _ => ms.length - (intOf i).toNat)
    case atStart => exact ⟨0, _, by omega, rfl, rfl, by omega, by omega, bR _⟩
    case round =>
      obtain ⟨j, r, hj, rfl, rfl, r1, r2, hb⟩ := hrel
      have HB := Lib.hid hb
      clear hb
      by_cases hlt : j < ms.length
      · obtain ⟨g, o, rfl, hx, hcc⟩ := HC.out (by omega)
        have hsz := HB.out.size
        obtain ⟨c0, c1, c2, hs⟩ := (hcc.keep hx HB.out) j hlt
        unfold maxLen at hs
        clear hcc HC
        generalize (moAt ms j).nm = y0 at *
        generalize (moAt ms j).d = y1 at *
        generalize (moAt ms j).l = y2 at *
        go_wp2_with fail
        refine (szMonth_any y0 y1 y2 r wr r1 (by omega) (by omega)).mono ?_
        rintro e w2 ⟨r', rfl, s1, s2, s3, hb2⟩
        have B2 := Lib.hid (bT HB.out hb2)
        clear hb2 s3 c0 c1 c2
        by_cases hr : r' < 0
        · go_wp2_with fail
          go_ret
          exact ⟨_, rfl, by omega, by omega, fun h => absurd h (by omega), B2.out⟩
        · go_wp2_with fail
          go_roundw
          case rel => exact ⟨j + 1, r', by omega, by go_num, rfl, by omega, by omega, B2.out⟩
          case measure => simp [intOf]; omega
      · obtain rfl : j = ms.length := by omega
        go_wp2_with fail
        go_ret
        exact ⟨_, rfl, by omega, by omega, fun _ => by omega, HB.out⟩
  · have h' : n - (ms.length : Int) < 0 := by omega
    go_enter Tryd.func32, Tryd.ntmps32
    go_wp2_with fail
    go_ret
    exact ⟨_, rfl, by omega, by omega, fun h => absurd h (by omega), bR _⟩
theorem szLeapRuleS_any (v : Value) (rs : List Ru) (n : Int) (w : World) (h : SlRu w v rs) (h0 : 0 ≤ n) (h1 : n ≤ 1048576) :
    Calls Tryd.prog 33 #[v, .int .i64 n] w (CaIn n (rs.length ≤ 1048576) w) := by
  obtain ⟨ao, cap, rfl, ⟨l1, l2⟩, _⟩ := h.open
  unfold maxLen at l2
  clear h
  by_cases hl : (rs.length : Int) ≤ n
  · have h' : ¬ n - (rs.length : Int) < 0 := by omega
    go_enter Tryd.func33, Tryd.ntmps33
    go_wp2_with fail
    go_ret
    exact ⟨_, rfl, by omega, by omega, fun _ => by omega, bR _⟩
  · have h' : n - (rs.length : Int) < 0 := by omega
    go_enter Tryd.func33, Tryd.ntmps33
    go_wp2_with fail
    go_ret
    exact ⟨_, rfl, by omega, by omega, fun h => absurd h (by omega), bR _⟩
def CaLim (c : Cal) : Prop := c.ms.length ≤ 1048576 ∧ c.rs.length ≤ 1048576
set_option maxHeartbeats 2000000 in
theorem szCalendar_any (x : Value) (c : Cal) (n : Int) (w : World) (h : IsC w x c) (h0 : 0 ≤ n) (h1 : n ≤ 1048576) :
    Calls Tryd.prog 9 #[x, .int .i64 n] w (CaIn n (CaLim c) w) := by
  obtain ⟨u, v, rfl, hs, hM, hR⟩ := h
  obtain ⟨nm, ms, rs, wk⟩ := c
  simp only at hs hM hR
  unfold CaLim
  simp only
  have L0 := Lib.hid (bA (bR w) (.cells #[.string nm, u, v, .int .i64 wk] 25))
  have X := Lib.hid (BoxL.new w [.string nm, u, v, .int .i64 wk] 25)
  have HM := Lib.hid (hM.keep L0.out)
  have HR := Lib.hid (hR.keep L0.out)
  obtain ⟨a1, cap1, rfl, _⟩ := hM.open
  obtain ⟨a2, cap2, rfl, _⟩ := hR.open
  unfold maxLen at hs
  clear hM hR
  obtain ⟨c0, c1, c2, c3, c4⟩ := X.out.c4q
  by_cases hl : (nm.size : Int) ≤ n
  · have h' : ¬ n - (nm.size : Int) < 0 := by omega
    go_enter Tryd.func9, Tryd.ntmps9
    go_wp2_with fail
    refine (szMonthS_any _ ms _ _ HM.out (by omega) (by omega)).mono ?_
    rintro e w1 ⟨r, rfl, r1, r2, r3, hb⟩
    have B1 := Lib.hid (bT L0.out hb)
    have R := Lib.hid r3
    have HR1 := Lib.hid (HR.out.keep hb)
    clear c0 c1 c2 c3 c4
    obtain ⟨c0, c1, c2, c3, c4⟩ := (X.out.keep hb).c4q
    clear hb r3
    by_cases hr : r < 0
    · go_wp2_with fail
      go_ret
      exact ⟨_, rfl, by omega, by omega, fun h => absurd h (by omega), B1.out⟩
    · go_wp2_with fail
      refine (szLeapRuleS_any _ rs _ _ HR1.out (by omega) (by omega)).mono ?_
      rintro e w2 ⟨q, rfl, q1, q2, q3, hb⟩
      have B2 := Lib.hid (bT B1.out hb)
      have Q := Lib.hid q3
      clear hb q3
      by_cases hq : q < 0
      · go_wp2_with fail
        go_ret
        exact ⟨_, rfl, by omega, by omega, fun h => absurd h (by omega), B2.out⟩
      · go_wp2_with fail
        go_ret
        exact ⟨_, rfl, by omega, by omega, fun _ => ⟨R.out (by omega), Q.out (by omega)⟩, B2.out⟩
  · have h' : n - (nm.size : Int) < 0 := by omega
    go_enter Tryd.func9, Tryd.ntmps9
    go_wp2_with fail
    go_ret
    exact ⟨_, rfl, by omega, by omega, fun h => absurd h (by omega), L0.out⟩
end Go.Proofs.YtpbepibklipfpaaDoor

/-
  The document's side: IsLeapYear, DaysInMonth, DaysInYear, CycleOf, l16Before, LastDay.
-/
import Derived.Test.YtbkhejideffflaaCaD
namespace Go.Proofs.Ytbkhejideffflaa
open Go.RowKit

/-- A year in a calendar: leap, or not. -/
def ilE (c : Cal) (y : Int) : Bool := okC c && (inB y 0 9999 && lpY c.rs y)
theorem ilE_1 {c : Cal} {y : Int} (h : okC c = false) : ilE c y = false := by simp [ilE, h]
theorem ilE_2 {c : Cal} {y : Int} (h : inB y 0 9999 = false) : ilE c y = false := by simp [ilE, h]
theorem ilE_3 {c : Cal} {y : Int} (h : okC c = true) (h2 : inB y 0 9999 = true) : ilE c y = lpY c.rs y := by simp [ilE, h, h2]
/-- The days of a month, and a code; of a year; the cycle; the last day. -/
def dmE (c : Cal) (y m : Int) : Int × Int := if okC c then (if inB y 0 9999 && inB m 1 (c.ms.length : Int) then (dyM (moAt c.ms (m - 1).toNat) (lpY c.rs y), 0) else (0, 2)) else (0, 1)
theorem dmE_1 {c : Cal} {y m : Int} (h : okC c = false) : dmE c y m = (0, 1) := by simp [dmE, h]
theorem dmE_2 {c : Cal} {y m : Int} (h : okC c = true) (h2 : inB y 0 9999 = false) : dmE c y m = (0, 2) := by simp [dmE, h, h2]
theorem dmE_3 {c : Cal} {y m : Int} (h : okC c = true) (h2 : inB m 1 (c.ms.length : Int) = false) : dmE c y m = (0, 2) := by simp [dmE, h, h2]
theorem dmE_0 {c : Cal} {y m : Int} (h : okC c = true) (h2 : inB y 0 9999 = true) (h3 : inB m 1 (c.ms.length : Int) = true) : dmE c y m = (dyM (moAt c.ms (m - 1).toNat) (lpY c.rs y), 0) := by simp [dmE, h, h2, h3]
def diE (c : Cal) (y : Int) : Int × Int := if okC c then (if inB y 0 9999 then (dyY c.ms c.rs y, 0) else (0, 2)) else (0, 1)
theorem diE_1 {c : Cal} {y : Int} (h : okC c = false) : diE c y = (0, 1) := by simp [diE, h]
theorem diE_2 {c : Cal} {y : Int} (h : okC c = true) (h2 : inB y 0 9999 = false) : diE c y = (0, 2) := by simp [diE, h, h2]
theorem diE_0 {c : Cal} {y : Int} (h : okC c = true) (h2 : inB y 0 9999 = true) : diE c y = (dyY c.ms c.rs y, 0) := by simp [diE, h, h2]
def cyA (c : Cal) : Int := cyK c.ms c.rs (lcA c.rs).toNat
def coE (c : Cal) : Int × Int × Int := if okC c then (lcA c.rs, cyA c, 0) else (0, 0, 1)
theorem coE_1 {c : Cal} (h : okC c = false) : coE c = (0, 0, 1) := by simp [coE, h]
theorem coE_0 {c : Cal} (h : okC c = true) : coE c = (lcA c.rs, cyA c, 0) := by simp [coE, h]
def ldE (c : Cal) : Int × Int := if okC c then (cyK c.ms c.rs 10000 - 1, 0) else (0, 1)
theorem ldE_1 {c : Cal} (h : okC c = false) : ldE c = (0, 1) := by simp [ldE, h]
theorem ldE_0 {c : Cal} (h : okC c = true) : ldE c = (cyK c.ms c.rs 10000 - 1, 0) := by simp [ldE, h]
def ThreeN3 (a b d : Int) (w : World) (e : Ending) (w' : World) : Prop := e = .returned (.tuple #[.int .i64 a, .int .i64 b, .int .i64 d]) ∧ Below w.heap.size w w'

set_option maxRecDepth 100000 in
set_option maxHeartbeats 4000000 in
theorem l16Before_any (b : Nat) (c : Cal) (y : Nat) (w : World) (h : CalAt w b c) (hc : okC c = true) (hy : y ≤ 1000000) :
    Calls Try.prog 66 #[.pointer (some ⟨b, 0, none⟩), .int .i64 (y : Int)] w (IntR (cyK c.ms c.rs y) w) := by
  have ho := (okC_parts hc).2.2.1
  obtain ⟨r1, r2, r3, r4⟩ := okRu_parts (okC_parts hc).1
  have CL := Lib.hid (fun b W (h : CalAt W b c) => l15Cycle_any b c W h (okC_parts hc).1 ho)
  obtain ⟨Y, hY⟩ := Int.eq_ofNat_of_zero_le (show 0 ≤ lcA c.rs by omega)
  have SP := Lib.hid (cy_split (ms := c.ms) r1 hY.symm (y / Y))
  have HB := Lib.hid (fun k => cyK_bd ho c.rs k)
  have CD := Lib.hid (fun (y : Nat) (hy : y ≤ 1000000) W (h : CalAt W b c) => l15All_any b c (y : Int) W h r1 ho (by omega) (by omega))
  rw [hY] at r3 r4 CL
  simp only [Int.toNat_natCast] at CL
  have H := Lib.hid h
  have e1 : ((y : Int) / (Y : Int)) = ((y / Y : Nat) : Int) := by push_cast; rfl
  have e2 : ((y : Int) % (Y : Int)) = ((y % Y : Nat) : Int) := by push_cast; rfl
  have hdm := Nat.div_add_mod y Y
  have HD := Lib.hid (fun k : Nat => dyY_bd ho c.rs (k : Int))
  have hq : y / Y ≤ y := Nat.div_le_self _ _
  have hYY := HB.out Y
  have hSY := HB.out (Y * (y / Y))
  rw [SP.out] at hSY
  have hle : Y * (y / Y) ≤ y := by omega
  have hr : y % Y ≤ y := by omega
  have hY0 : ¬ (Y : Int) = 0 := by omega
  have hY1 : (0 : Int) < (Y : Int) := by omega
  clear h hc ho r1 r2 hY
  generalize hDY : cyK c.ms c.rs Y = D at *
  have HDY := Lib.hid hDY
  clear hDY
  have p1 := Int.mul_nonneg (Int.natCast_nonneg (y / Y)) (show 0 ≤ D by omega)
  have p2 : ((y / Y : Nat) : Int) * D ≤ 1200000000 := by
    have := (HB.out (Y * (y / Y))).2
    rw [SP.out] at this
    omega
  have v1 : IntKind.i64.wrap (((y / Y : Nat) : Int) * D) = ((y / Y : Nat) : Int) * D := IntWalk.i64_in _ (by omega)
  have hqd : (Y : Int) * ((y / Y : Nat) : Int) + ((y % Y : Nat) : Int) = (y : Int) := by exact_mod_cast hdm
  have hst : (y : Int) - ((y % Y : Nat) : Int) = ((Y * (y / Y) : Nat) : Int) := by rw [Int.natCast_mul]; omega
  clear hqd hdm
  generalize hq0 : y / Y = q at *
  generalize hr0 : y % Y = r at *
  generalize ha0 : Y * q = a at *
  generalize hYI : (Y : Int) = YI at *
  have HYI := Lib.hid hYI
  have HA0 := Lib.hid ha0
  clear hYI ha0 hq0 hr0
  go_enter Try.func66, Try.ntmps66
  go_wp2_with fail
  refine (CL.out _ _ H.out).mono ?_
  rintro e w1 ⟨rfl, hb⟩
  have L1 := Lib.hid hb
  have H1 := Lib.hid (H.out.keep hb)
  clear hb H
  go_wp2_with fail
  clear e1 e2 hst v1
  go_loopw [7, 8] (fun s i wr => ∃ (k : Nat), a ≤ k ∧ k ≤ y ∧ i = .int .i64 k ∧ s = .int .i64 (cyK c.ms c.rs k) ∧ Below w1.heap.size w1 wr) (fun _ i _ => y - (intOf i).toNat)
  case atStart => exact ⟨a, by omega, by omega, rfl, by rw [SP.out], bR _⟩
  case round =>
    obtain ⟨k, hk0, hk, rfl, rfl, hb⟩ := hrel
    have L2 := Lib.hid hb
    have H2 := Lib.hid (H1.out.keep hb)
    have b1 := HB.out k
    clear hb
    by_cases hlt : k < y
    · have C1 := Lib.hid (CD.out k (by omega))
      have b2 := HD.out k
      have HS := Lib.hid (cyK_succ c.ms c.rs k)
      generalize dyY c.ms c.rs (k : Int) = d at *
      generalize cyK c.ms c.rs k = s at *
      go_wp2_with fail
      refine (C1.out _ H2.out).mono ?_
      rintro e w2 ⟨rfl, hb⟩
      have L3 := Lib.hid (bT L2.out hb)
      clear hb
      go_wp2_with fail
      go_roundw
      case rel => exact ⟨k + 1, by omega, by omega, by go_num, by rw [HS.out], L3.out⟩
      case measure => simp [intOf]; omega
    · obtain rfl : k = y := by omega
      go_wp2_with fail
      go_ret
      exact ⟨rfl, bT L1.out L2.out⟩
set_option maxRecDepth 100000 in
set_option maxHeartbeats 4000000 in
theorem l16Last_any (b : Nat) (c : Cal) (w : World) (h : CalAt w b c) (hc : okC c = true) :
    Calls Try.prog 75 #[.pointer (some ⟨b, 0, none⟩)] w (IntR (cyK c.ms c.rs 10000 - 1) w) := by
  have hB := cyK_bd (okC_parts hc).2.2.1 c.rs 10000
  have CL := Lib.hid (show Calls Try.prog 66 #[.pointer (some ⟨b, 0, none⟩), .int .i64 10000] w (IntR (cyK c.ms c.rs 10000) w) from l16Before_any b c 10000 w h hc (by omega))
  clear h hc
  generalize cyK c.ms c.rs 10000 = d at *
  go_enter Try.func75, Try.ntmps75
  go_wp2_with fail
  refine CL.out.mono ?_
  rintro e w1 ⟨rfl, hb⟩
  have L1 := Lib.hid hb
  clear hb
  go_wp2_with fail
  go_ret
  exact ⟨rfl, L1.out⟩
end Go.Proofs.Ytbkhejideffflaa

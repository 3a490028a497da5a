/-
  Sums of readings: validity and addition, both sides.
-/
import Derived.Test.YtmmmbchlkjljaaaRgS
import Derived.Test.YtmmmbchlkjljaaaRgL
namespace Go.Proofs.Ytmmmbchlkjljaaa
open Go.RowKit

theorem okV_1 {n x y xx xy : Int} (e : inB n 0 60 = false) : okFt ⟨n, x, y, xx, xy⟩ = false := by simp [okFt, e]
theorem okV_2 {n x y xx xy : Int} (e : inB x 0 (n * 10000) = false) : okFt ⟨n, x, y, xx, xy⟩ = false := by simp [okFt, e]
theorem okV_3 {n x y xx xy : Int} (e : inB y (-(n * 100000)) (n * 100000) = false) : okFt ⟨n, x, y, xx, xy⟩ = false := by simp [okFt, e]
theorem okV_4 {n x y xx xy : Int} (e : inB xx 0 (n * 10000 * 10000) = false) : okFt ⟨n, x, y, xx, xy⟩ = false := by simp [okFt, e]
theorem okV_5 {n x y xx xy : Int} (e : inB xy (-(n * 10000 * 100000)) (n * 10000 * 100000) = false) : okFt ⟨n, x, y, xx, xy⟩ = false := by simp [okFt, e]
theorem okV_6 {n x y xx xy : Int} (h1 : inB n 0 60 = true) (h2 : inB x 0 (n * 10000) = true) (h3 : inB y (-(n * 100000)) (n * 100000) = true) (h4 : inB xx 0 (n * 10000 * 10000) = true) (h5 : inB xy (-(n * 10000 * 100000)) (n * 10000 * 100000) = true) : okFt ⟨n, x, y, xx, xy⟩ = decide (x * x ≤ n * xx) := by simp [okFt, h1, h2, h3, h4, h5]
/-- Two sums together, and the code. -/
def adF (a b : Ft) : Ft := ⟨a.n + b.n, a.x + b.x, a.y + b.y, a.xx + b.xx, a.xy + b.xy⟩
def afE (a b : Ft) : Ft × Int := if okFt a = true ∧ okFt b = true then (if a.n + b.n ≤ 60 then (adF a b, 0) else (⟨0, 0, 0, 0, 0⟩, 5)) else (⟨0, 0, 0, 0, 0⟩, 1)
theorem afE_1 {a b : Ft} (h : okFt a = false) : afE a b = (⟨0, 0, 0, 0, 0⟩, 1) := by simp [afE, h]
theorem afE_2 {a b : Ft} (h : okFt b = false) : afE a b = (⟨0, 0, 0, 0, 0⟩, 1) := by simp [afE, h]
theorem afE_5 {a b : Ft} (h : okFt a = true) (h2 : okFt b = true) (h3 : ¬ a.n + b.n ≤ 60) : afE a b = (⟨0, 0, 0, 0, 0⟩, 5) := by simp only [afE, h, h2, and_self, if_true]; rw [if_neg h3]
theorem afE_0 {a b : Ft} (h : okFt a = true) (h2 : okFt b = true) (h3 : a.n + b.n ≤ 60) : afE a b = (adF a b, 0) := by simp only [afE, h, h2, and_self, if_true]; rw [if_pos h3]

theorem spread_any (n x y xx xy : Int) (w : World) (h1 : -9223372036854775808 ≤ n * xx ∧ n * xx ≤ 9223372036854775807) (h2 : -9223372036854775808 ≤ x * x ∧ x * x ≤ 9223372036854775807) (h3 : -9223372036854775808 ≤ n * xx - x * x ∧ n * xx - x * x ≤ 9223372036854775807) :
    Calls Try.prog 68 #[.agg #[.int .i64 n, .int .i64 x, .int .i64 y, .int .i64 xx, .int .i64 xy]] w (OneN (n * xx - x * x) w) := by
  go_enter Try.func68, Try.ntmps68
  go_wp2_with fail
  go_ret
  exact ⟨rfl, bA (bR _) _⟩
set_option maxRecDepth 100000 in
set_option maxHeartbeats 4000000 in
theorem l14FitOk_any (n x y xx xy : Int) (w : World) :
    Calls Try.prog 80 #[.agg #[.int .i64 n, .int .i64 x, .int .i64 y, .int .i64 xx, .int .i64 xy]] w (BoolBel (okFt ⟨n, x, y, xx, xy⟩) w) := by
  have q1 : -n * 100000 = -(n * 100000) := by omega
  have q2 : -(n * 10000) * 100000 = -(n * 10000 * 100000) := by omega
  cases e1 : inB n 0 60
  · rw [okV_1 e1]
    go_enter Try.func80, Try.ntmps80
    go_wp2_with (first | (go_at_call 52; refine (l00In_any _ _ _ _).mono ?_; rintro e w1 ⟨rfl, rfl⟩))
    go_ret
    exact ⟨rfl, bA (bR _) _⟩
  have b1 := inB_true.1 e1
  cases e2 : inB x 0 (n * 10000)
  · rw [okV_2 e2]
    go_enter Try.func80, Try.ntmps80
    go_wp2_with (first | (go_at_call 52; refine (l00In_any _ _ _ _).mono ?_; rintro e w1 ⟨rfl, rfl⟩))
    go_ret
    exact ⟨rfl, bA (bR _) _⟩
  have b2 := inB_true.1 e2
  cases e3 : inB y (-(n * 100000)) (n * 100000)
  · rw [okV_3 e3]
    go_enter Try.func80, Try.ntmps80
    go_wp2_with (first | (go_at_call 52; refine (l00In_any _ _ _ _).mono ?_; rintro e w1 ⟨rfl, rfl⟩))
    go_ret
    exact ⟨rfl, bA (bR _) _⟩
  have b3 := inB_true.1 e3
  cases e4 : inB xx 0 (n * 10000 * 10000)
  · rw [okV_4 e4]
    go_enter Try.func80, Try.ntmps80
    go_wp2_with (first | (go_at_call 52; refine (l00In_any _ _ _ _).mono ?_; rintro e w1 ⟨rfl, rfl⟩))
    go_ret
    exact ⟨rfl, bA (bR _) _⟩
  have b4 := inB_true.1 e4
  cases e5 : inB xy (-(n * 10000 * 100000)) (n * 10000 * 100000)
  · rw [okV_5 e5]
    go_enter Try.func80, Try.ntmps80
    go_wp2_with (first | (go_at_call 52; refine (l00In_any _ _ _ _).mono ?_; rintro e w1 ⟨rfl, rfl⟩))
    go_ret
    exact ⟨rfl, bA (bR _) _⟩
  have b5 := inB_true.1 e5
  have p1 := mulB (a := n) (b := xx) (A := 60) (B := 6000000000) (by omega) (by omega) (by omega) (by omega)
  have p2 := mulB (a := x) (b := x) (A := 600000) (B := 600000) (by omega) (by omega) (by omega) (by omega)
  have HR := Lib.hid (okV_6 e1 e2 e3 e4 e5)
  rw [HR.out]
  clear HR
  go_enter Try.func80, Try.ntmps80
  go_wp2_with (first | (go_at_call 52; refine (l00In_any _ _ _ _).mono ?_; rintro e w1 ⟨rfl, rfl⟩))
  go_ret
  exact ⟨rfl, bA (bR _) _⟩
set_option maxRecDepth 100000 in
set_option maxHeartbeats 4000000 in
theorem ValidFitI_any (n x y xx xy : Int) (w : World) :
    Calls Try.prog 34 #[.agg #[.int .i64 n, .int .i64 x, .int .i64 y, .int .i64 xx, .int .i64 xy]] w (BoolBel (okFt ⟨n, x, y, xx, xy⟩) w) := by
  have q1 : -n * 100000 = -(n * 100000) := by omega
  have q2 : -(n * 10000) * 100000 = -(n * 10000 * 100000) := by omega
  cases e1 : inB n 0 60
  · rw [okV_1 e1]
    go_enter Try.func34, Try.ntmps34
    go_wp2_with (first | (go_at_call 55; refine (isBetween_any _ _ _ _).mono ?_; rintro e w1 ⟨rfl, rfl⟩))
    go_ret
    exact ⟨rfl, bA (bR _) _⟩
  have b1 := inB_true.1 e1
  have g1 : IntKind.i64.wrap (n * 10000) = n * 10000 := IntWalk.i64_in _ (by omega)
  have g2 : IntKind.i64.wrap (n * 100000) = n * 100000 := IntWalk.i64_in _ (by omega)
  cases e2 : inB x 0 (n * 10000)
  · rw [okV_2 e2]
    go_enter Try.func34, Try.ntmps34
    go_wp2_with (first | (go_at_call 55; refine (isBetween_any _ _ _ _).mono ?_; rintro e w1 ⟨rfl, rfl⟩))
    go_quiet (fail)
    go_wp2_with (first | (go_at_call 55; refine (isBetween_any _ _ _ _).mono ?_; rintro e w1 ⟨rfl, rfl⟩))
    go_ret
    exact ⟨rfl, bD (bA (bR _) _) _⟩
  have b2 := inB_true.1 e2
  cases e3 : inB y (-(n * 100000)) (n * 100000)
  · rw [okV_3 e3]
    go_enter Try.func34, Try.ntmps34
    go_wp2_with (first | (go_at_call 55; refine (isBetween_any _ _ _ _).mono ?_; rintro e w1 ⟨rfl, rfl⟩))
    go_quiet (fail)
    go_wp2_with (first | (go_at_call 55; refine (isBetween_any _ _ _ _).mono ?_; rintro e w1 ⟨rfl, rfl⟩))
    go_ret
    exact ⟨rfl, bD (bA (bR _) _) _⟩
  have b3 := inB_true.1 e3
  cases e4 : inB xx 0 (n * 10000 * 10000)
  · rw [okV_4 e4]
    go_enter Try.func34, Try.ntmps34
    go_wp2_with (first | (go_at_call 55; refine (isBetween_any _ _ _ _).mono ?_; rintro e w1 ⟨rfl, rfl⟩))
    go_quiet (fail)
    go_wp2_with (first | (go_at_call 55; refine (isBetween_any _ _ _ _).mono ?_; rintro e w1 ⟨rfl, rfl⟩))
    go_ret
    exact ⟨rfl, bD (bA (bR _) _) _⟩
  have b4 := inB_true.1 e4
  cases e5 : inB xy (-(n * 10000 * 100000)) (n * 10000 * 100000)
  · rw [okV_5 e5]
    go_enter Try.func34, Try.ntmps34
    go_wp2_with (first | (go_at_call 55; refine (isBetween_any _ _ _ _).mono ?_; rintro e w1 ⟨rfl, rfl⟩))
    go_quiet (fail)
    go_wp2_with (first | (go_at_call 55; refine (isBetween_any _ _ _ _).mono ?_; rintro e w1 ⟨rfl, rfl⟩))
    go_ret
    exact ⟨rfl, bD (bA (bR _) _) _⟩
  have b5 := inB_true.1 e5
  have p1 := mulB (a := n) (b := xx) (A := 60) (B := 6000000000) (by omega) (by omega) (by omega) (by omega)
  have p2 := mulB (a := x) (b := x) (A := 600000) (B := 600000) (by omega) (by omega) (by omega) (by omega)
  have HR := Lib.hid (okV_6 e1 e2 e3 e4 e5)
  rw [HR.out]
  clear HR
  go_enter Try.func34, Try.ntmps34
  have CP := Lib.hid (fun W => spread_any n x y xx xy W (by omega) (by omega) (by omega))
  have hd : decide (x * x ≤ n * xx) = decide (0 ≤ n * xx - x * x) := by rw [Bool.eq_iff_iff]; simp
  rw [hd]
  clear hd p1 p2
  generalize n * xx - x * x = d at *
  go_wp2_with (first | (go_at_call 55; refine (isBetween_any _ _ _ _).mono ?_; rintro e w1 ⟨rfl, rfl⟩))
  go_quiet (fail)
  go_wp2_with (first | (go_at_call 55; refine (isBetween_any _ _ _ _).mono ?_; rintro e w1 ⟨rfl, rfl⟩))
  refine (CP.out _).mono ?_
  rintro e w1 ⟨rfl, hb⟩
  have L := Lib.hid (bT (bD (bA (bR w) (.cells #[.int .i64 n, .int .i64 x, .int .i64 y, .int .i64 xx, .int .i64 xy] 41)) nq) hb)
  clear hb
  go_wp2_with fail
  go_ret
  exact ⟨rfl, L.out⟩
theorem ValidFitS_any (n x y xx xy : Int) (w : World) :
    Calls Try.prog 40 #[.agg #[.int .i64 n, .int .i64 x, .int .i64 y, .int .i64 xx, .int .i64 xy]] w (BoolBel (okFt ⟨n, x, y, xx, xy⟩) w) := by
  go_enter Try.func40, Try.ntmps40
  go_wp2_with fail
  refine (l14FitOk_any _ _ _ _ _ _).mono ?_
  rintro e w1 ⟨rfl, hb⟩
  go_wp2_with fail
  go_ret
  exact ⟨rfl, bT (bA (bR _) _) hb⟩
end Go.Proofs.Ytmmmbchlkjljaaa

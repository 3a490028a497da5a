/-
  The walk of laws.FnThirdPoints.
-/
import Derived.Test.YtclefibjmnabbaaTpE
import Derived.Test.YtclefibjmnabbaaTpI
import Derived.Test.YtclefibjmnabbaaTpL
import Derived.Test.YtclefibjmnabbaaWPt
namespace Go.Proofs.Ytclefibjmnabbaa
open Go.RowKit

theorem f6big_any (a : Option Addr) (len cap : Nat) (w : World) (_h : len ≤ 9223372036854775807) :
    Calls Try.prog 24 #[.slice a len cap] w fun e w' => e = .returned (.bool (decide (4096 < (len : Int)))) ∧ w = w' := by
  go_enter Try.func24, Try.ntmps24
  go_wp2_with fail
  go_ret
  exact ⟨rfl, rfl⟩
theorem f6size_any (n : Int) (w : World) (h1 : -9223372036854775807 ≤ n) (h2 : n ≤ 9223372036854775807) :
    Calls Try.prog 28 #[.int .i64 n] w fun e w' => e = .returned (.int .i64 (n.natAbs : Int)) ∧ w = w' := by
  by_cases h : n < 0
  · go_enter Try.func28, Try.ntmps28
    go_wp2
    go_ret
    exact ⟨ret_int (by omega), rfl⟩
  · go_enter Try.func28, Try.ntmps28
    go_wp2
    go_ret
    exact ⟨ret_int (by omega), rfl⟩
theorem crs_bd {a b c e p q : Int} (h1 : 0 ≤ a ∧ a ≤ 10000) (h2 : 0 ≤ b ∧ b ≤ 10000) (h3 : 0 ≤ c ∧ c ≤ 10000) (h4 : 0 ≤ e ∧ e ≤ 10000) (h5 : 0 ≤ p ∧ p ≤ 10000) (h6 : 0 ≤ q ∧ q ≤ 10000) :
    (-100000000 ≤ (c - a) * (q - b) ∧ (c - a) * (q - b) ≤ 100000000) ∧ (-100000000 ≤ (e - b) * (p - a) ∧ (e - b) * (p - a) ≤ 100000000) ∧ -200000000 ≤ crs a b c e p q ∧ crs a b c e p q ≤ 200000000 := by
  have x := mul_bdd (x := c - a) (y := q - b) (m := 10000) (k := 10000) (by omega) (by omega) (by omega) (by omega)
  have y := mul_bdd (x := e - b) (y := p - a) (m := 10000) (k := 10000) (by omega) (by omega) (by omega) (by omega)
  unfold crs; omega
set_option maxHeartbeats 1000000 in
theorem f6cross_any (a b c e p q : Int) (w : World) (h1 : 0 ≤ a ∧ a ≤ 10000) (h2 : 0 ≤ b ∧ b ≤ 10000) (h3 : 0 ≤ c ∧ c ≤ 10000) (h4 : 0 ≤ e ∧ e ≤ 10000) (h5 : 0 ≤ p ∧ p ≤ 10000) (h6 : 0 ≤ q ∧ q ≤ 10000) :
    Calls Try.prog 27 #[.agg #[.int .i64 a, .int .i64 b], .agg #[.int .i64 c, .int .i64 e], .agg #[.int .i64 p, .int .i64 q]] w fun e' w' => e' = .returned (.int .i64 (crs a b c e p q)) ∧ Below w.heap.size w w' := by
  obtain ⟨x, y, _, _⟩ := crs_bd h1 h2 h3 h4 h5 h6
  have HD := Lib.hid (show (c - a) * (q - b) - (e - b) * (p - a) = crs a b c e p q from rfl)
  go_enter Try.func27, Try.ntmps27
  go_wp2_with fail
  go_ret
  exact ⟨ret_int HD.out, bA (bA (bA (bR _) _) _) _⟩
/-- The points of a third point, and it, in boxes. -/
structure TpB (w0 w : World) (k1 k2 : Nat) (a b c e : Int) : Prop where
  l : Below w0.heap.size w0 w
  k1 : BoxL w k1 [.int .i64 a, .int .i64 b]
  k2 : BoxL w k2 [.int .i64 c, .int .i64 e]
theorem TpB.keep {w0 w w' : World} {k1 k2 : Nat} {a b c e : Int} (h : TpB w0 w k1 k2 a b c e) (hb : Below w.heap.size w w') : TpB w0 w' k1 k2 a b c e := ⟨bT h.l hb, h.k1.keep hb, h.k2.keep hb⟩
set_option maxRecDepth 100000 in
set_option maxHeartbeats 8000000 in
theorem FnThirdPoints_walk (a : Option Addr) (len cap : Nat) (zs : List Int) (w : World) (h : IsRow .u8 w a len cap zs) :
    Calls Try.prog 6 #[.slice a len cap] w fun e w' => e = .returned (.bool true) ∧ Below w.heap.size w w' := by
  have l1 := (row_of h).1
  unfold maxLen at l1
  have HA := Lib.hid h
  clear h
  by_cases hl : 4096 < len
  · have hd : decide (4096 < (len : Int)) = true := decide_eq_true (by omega)
    go_enter Try.func6, Try.ntmps6
    go_wp2_with fail
    refine (f6big_any _ _ _ _ (by omega)).mono ?_
    rw [hd]
    rintro e w1 ⟨rfl, rfl⟩
    go_wp2_with fail
    go_ret
    exact ⟨rfl, bR _⟩
  have hd : decide (4096 < (len : Int)) = false := decide_eq_false (by omega)
  go_enter Try.func6, Try.ntmps6
  go_wp2_with fail
  refine (f6big_any _ _ _ _ (by omega)).mono ?_
  rw [hd]
  rintro e w1 ⟨rfl, rfl⟩
  go_wp2_with fail
  refine (DrawThirdPoint_any w a len cap zs HA.out).mono ?_
  rintro e w1 ⟨x1, y1, x2, y2, ra, rb, l, rfl, hra, hrb, hb⟩
  have HB1 := Lib.hid hb
  clear hb HA hd hl l1
  go_wp2_with fail
  generalize hr : tpF x1 y1 x2 y2 ra rb l = r
  have HSY := Lib.hid ((tp_sym x1 y1 x2 y2 ra rb l).trans hr)
  have HR := Lib.hid hr
  clear hr
  obtain ⟨p, q, s⟩ := r
  have B1 : Hid (TpB w ((w1.alloc (.cells #[.int .i64 x1, .int .i64 y1] 38)).alloc (.cells #[.int .i64 x2, .int .i64 y2] 38)) w1.heap.size (w1.heap.size + 1) x1 y1 x2 y2) := Lib.hid
    ⟨bA (bA HB1.out _) _, (BoxL.new w1 [.int .i64 x1, .int .i64 y1] 38).alloc _, BoxL.at_ (vs := [.int .i64 x2, .int .i64 y2]) (by simp)⟩
  clear HB1
  generalize (w1.alloc (.cells #[.int .i64 x1, .int .i64 y1] 38)).alloc (.cells #[.int .i64 x2, .int .i64 y2] 38) = W1 at *
  generalize w1.heap.size + 1 = k2 at *
  generalize w1.heap.size = k1 at *
  refine (ThirdPointI_any x1 y1 x2 y2 ra rb l _).mono ?_
  rw [HR.out]
  rintro e w2 ⟨rfl, hb⟩
  have B2 := Lib.hid ((B1.out.keep hb).keep (bA (bR w2) (.cells #[.int .i64 p, .int .i64 q] 38)))
  have P2 := Lib.hid (BoxL.new w2 [.int .i64 p, .int .i64 q] 38)
  clear hb B1
  obtain ⟨c0, c1, c2⟩ := B2.out.k1.c2
  obtain ⟨d0, d1, d2'⟩ := B2.out.k2.c2
  go_wp2_with fail
  generalize w2.alloc (.cells #[.int .i64 p, .int .i64 q] 38) = W2 at *
  generalize w2.heap.size = k8 at *
  refine (ThirdPointS_any x1 y1 x2 y2 ra rb l _).mono ?_
  rw [HR.out]
  rintro e w3 ⟨rfl, hb⟩
  have B3 := Lib.hid ((B2.out.keep hb).keep (bA (bR w3) (.cells #[.int .i64 p, .int .i64 q] 38)))
  have P3 := Lib.hid ((P2.out.keep hb).keep (bA (bR w3) (.cells #[.int .i64 p, .int .i64 q] 38)))
  have Q3 := Lib.hid (BoxL.new w3 [.int .i64 p, .int .i64 q] 38)
  clear hb B2 P2 c0 c1 c2 d0 d1 d2'
  obtain ⟨c0, c1, c2⟩ := B3.out.k1.c2
  obtain ⟨d0, d1, d2'⟩ := B3.out.k2.c2
  go_wp2_with fail
  generalize w3.alloc (.cells #[.int .i64 p, .int .i64 q] 38) = W3 at *
  generalize w3.heap.size = k10 at *
  refine (ThirdPointI_any x2 y2 x1 y1 rb ra (!l) _).mono ?_
  rw [HSY.out]
  rintro e w4 ⟨rfl, hb⟩
  have B4 := Lib.hid ((B3.out.keep hb).keep (bA (bR w4) (.cells #[.int .i64 p, .int .i64 q] 38)))
  have P4 := Lib.hid ((P3.out.keep hb).keep (bA (bR w4) (.cells #[.int .i64 p, .int .i64 q] 38)))
  have Q4 := Lib.hid ((Q3.out.keep hb).keep (bA (bR w4) (.cells #[.int .i64 p, .int .i64 q] 38)))
  have R4 := Lib.hid (BoxL.new w4 [.int .i64 p, .int .i64 q] 38)
  clear hb B3 P3 Q3 c0 c1 c2 d0 d1 d2'
  obtain ⟨c0, c1, c2⟩ := B4.out.k1.c2
  obtain ⟨d0, d1, d2'⟩ := B4.out.k2.c2
  obtain ⟨f0, f1, f2⟩ := P4.out.c2
  obtain ⟨g0, g1, g2⟩ := Q4.out.c2
  obtain ⟨h0, h1, h2⟩ := R4.out.c2
  have e1 : (s != s) = false := by simp
  by_cases hs : s = 0
  case neg =>
    have hs' : (s != 0) = true := by simpa using hs
    go_wp2_with fail
    go_ret
    exact ⟨rfl, B4.out.l⟩
  subst hs
  obtain ⟨v1, v2, v3, v4, v5, v6, v7⟩ := tp_ok HR.out
  obtain ⟨_, _, _, _, _, u6, _⟩ := tp_ok HSY.out
  have HV1 := Lib.hid v1
  have HV2 := Lib.hid v2
  have HV3 := Lib.hid v3
  obtain ⟨a1, a2, a3, a4⟩ := ptB_bd v1
  obtain ⟨b1, b2, b3, b4⟩ := ptB_bd v2
  obtain ⟨p1, p2, p3, p4⟩ := ptB_bd v3
  have HC := Lib.hid (fun W => f6cross_any x1 y1 x2 y2 p q W ⟨a1, a2⟩ ⟨a3, a4⟩ ⟨b1, b2⟩ ⟨b3, b4⟩ ⟨p1, p2⟩ ⟨p3, p4⟩)
  obtain ⟨_, _, n1, n2⟩ := crs_bd ⟨a1, a2⟩ ⟨a3, a4⟩ ⟨b1, b2⟩ ⟨b3, b4⟩ ⟨p1, p2⟩ ⟨p3, p4⟩
  have D1 := Lib.hid (fun W => SquaredDistanceI_any x1 y1 p q W)
  have D2 := Lib.hid (fun W => SquaredDistanceI_any x2 y2 p q W)
  have D3 := Lib.hid (fun W => SquaredDistanceI_any x1 y1 x2 y2 W)
  rw [(sd_yes v1 v3).1, (sd_yes v1 v3).2] at D1
  rw [(sd_yes v2 v3).1, (sd_yes v2 v3).2] at D2
  rw [(sd_yes v1 v2).1, (sd_yes v1 v2).2] at D3
  obtain ⟨t1, t2⟩ := d2_bd ⟨a1, a2⟩ ⟨a3, a4⟩ ⟨p1, p2⟩ ⟨p3, p4⟩
  obtain ⟨t3, t4⟩ := d2_bd ⟨b1, b2⟩ ⟨b3, b4⟩ ⟨p1, p2⟩ ⟨p3, p4⟩
  obtain ⟨t5, t6⟩ := d2_bd ⟨a1, a2⟩ ⟨a3, a4⟩ ⟨b1, b2⟩ ⟨b3, b4⟩
  have ra2 := sq_bd (x := ra) (m := 10000) (by omega) (by omega)
  have rb2 := sq_bd (x := rb) (m := 10000) (by omega) (by omega)
  clear v1 v2 v3 HR HSY hra hrb
  generalize d2 x1 y1 p q = X at *
  generalize d2 x2 y2 p q = Y at *
  generalize d2 x1 y1 x2 y2 = D at *
  generalize crs x1 y1 x2 y2 p q = C at *
  have cc := sq_bd (x := C) (m := 200000000) (by omega) (by omega)
  have z1 : ((X - ra * ra).natAbs : Int) ≤ 3 * ra + 3 := by omega
  have z2 : ((Y - rb * rb).natAbs : Int) ≤ 3 * rb + 3 := by omega
  have HSI := Lib.hid v7
  clear v6 v7 u6
  go_wp2_with fail
  generalize w4.alloc (.cells #[.int .i64 p, .int .i64 q] 38) = W4 at *
  refine (D1.out _).mono ?_
  rintro e w5 ⟨rfl, hb⟩
  have B5 := Lib.hid (B4.out.keep hb)
  have P5 := Lib.hid (P4.out.keep hb)
  clear hb B4 P4 Q4 R4 c0 c1 c2 d0 d1 d2' f0 f1 f2 g0 g1 g2 h0 h1 h2
  obtain ⟨d0, d1, d2'⟩ := B5.out.k2.c2
  obtain ⟨f0, f1, f2⟩ := P5.out.c2
  go_wp2_with fail
  refine (D2.out _).mono ?_
  rintro e w6 ⟨rfl, hb⟩
  have B6 := Lib.hid (B5.out.keep hb)
  have P6 := Lib.hid (P5.out.keep hb)
  clear hb B5 P5 d0 d1 d2' f0 f1 f2
  obtain ⟨c0, c1, c2⟩ := B6.out.k1.c2
  obtain ⟨d0, d1, d2'⟩ := B6.out.k2.c2
  go_wp2_with fail
  refine (D3.out _).mono ?_
  rintro e w7 ⟨rfl, hb⟩
  have B7 := Lib.hid (B6.out.keep hb)
  have P7 := Lib.hid (P6.out.keep hb)
  clear hb B6 P6 c0 c1 c2 d0 d1 d2'
  obtain ⟨c0, c1, c2⟩ := B7.out.k1.c2
  obtain ⟨d0, d1, d2'⟩ := B7.out.k2.c2
  obtain ⟨f0, f1, f2⟩ := P7.out.c2
  go_wp2_with fail
  refine (HC.out _).mono ?_
  rintro e w8 ⟨rfl, hb⟩
  have L8 := Lib.hid (bT B7.out.l hb)
  clear hb B7 P7 c0 c1 c2 d0 d1 d2' f0 f1 f2 D1 D2 D3 HC HV1 HV2 HV3 t1 t2 t3 t4
  cases l
  · have hsi := HSI.out
    simp only [Bool.false_eq_true, if_false] at hsi
    clear HSI
    by_cases hc : 0 ≤ -C
    · clear hsi
      go_wp2_with (go_at_call 28; refine (f6size_any _ _ (by omega) (by omega)).mono ?_; rintro e w1 ⟨rfl, rfl⟩)
      go_ret
      exact ⟨rfl, L8.out⟩
    · have hc2 : -C * -C ≤ 2 * D := by rcases hsi with h | h; exact absurd h hc; exact h
      clear hsi
      have hc3 : 0 ≤ -C * -C := by rw [Int.neg_mul_neg]; exact cc.1
      go_wp2_with (go_at_call 28; refine (f6size_any _ _ (by omega) (by omega)).mono ?_; rintro e w1 ⟨rfl, rfl⟩)
      go_ret
      exact ⟨rfl, L8.out⟩
  · have hsi := HSI.out
    simp only [if_true] at hsi
    clear HSI
    by_cases hc : 0 ≤ C
    · clear hsi
      go_wp2_with (go_at_call 28; refine (f6size_any _ _ (by omega) (by omega)).mono ?_; rintro e w1 ⟨rfl, rfl⟩)
      go_ret
      exact ⟨rfl, L8.out⟩
    · have hc2 : C * C ≤ 2 * D := by rcases hsi with h | h; exact absurd h hc; exact h
      clear hsi
      go_wp2_with (go_at_call 28; refine (f6size_any _ _ (by omega) (by omega)).mono ?_; rintro e w1 ⟨rfl, rfl⟩)
      go_ret
      exact ⟨rfl, L8.out⟩
end Go.Proofs.Ytclefibjmnabbaa

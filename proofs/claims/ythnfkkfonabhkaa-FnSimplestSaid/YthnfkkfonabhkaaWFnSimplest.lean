/-
  The walk of laws.FnSimplest.
-/
import Derived.Test.YthnfkkfonabhkaaSmpJ
import Derived.Test.YthnfkkfonabhkaaOpsS
import Derived.Test.YthnfkkfonabhkaaDraw2
import Derived.Test.YthnfkkfonabhkaaWValidRatio
namespace Go.Proofs.Ythnfkkfonabhkaa
open Go.RowKit

theorem smpX_S {n d p q : Int} (h1 : okR n d = true) (h2 : okR p q = true) (ho : n * q ≤ p * d) : Smp n d p q (smpX n d p q).1 (smpX n d p q).2 := by
  have ex : ∃ x y, Smp n d p q x y := by
    by_cases hn : 1 ≤ n
    · exact ⟨_, _, (smpX_P h1 h2 hn ho).smp (okR_bd h1).1 hn⟩
    · by_cases hp : p ≤ -1
      · exact ⟨_, _, (smpX_P (okR_neg h2) (okR_neg h1) (by omega) (by rw [Int.neg_mul, Int.neg_mul]; omega)).neg (okR_bd h2).1 hp⟩
      · exact ⟨0, 1, smp_zero (by omega) (by omega)⟩
  obtain ⟨x, y, hs⟩ := ex
  obtain ⟨e1, e2⟩ := hs.eqX (okR_bd h1).1 (okR_bd h2).1
  rw [← e1, ← e2]; exact hs
theorem smp_ok {n d p q x y : Int} (h1 : okR n d = true) (ho : n * q ≤ p * d) (h : Smp n d p q x y) : okR x y = true := by
  obtain ⟨a1, a2, a3, a4⟩ := okR_bd h1
  obtain ⟨c1, c2, c3⟩ := smp_bd a1 ho h
  exact okR_true.2 ⟨c1, by omega, by omega, by omega, h.cop⟩
/-- A ratio in lowest terms is the same number. -/
theorem low_red {n d : Int} (hd : 1 ≤ d) (hk : lowOk n d = true) : okR (mkN n d) (lowD n d) = true ∧ mkN n d * d = n * lowD n d := by
  have hg : 0 < Int.gcd n d := Int.gcd_pos_of_ne_zero_right n (by omega)
  have hc : Nat.Coprime (n.natAbs / Int.gcd n d) (d.natAbs / Int.gcd n d) := Nat.coprime_div_gcd_div_gcd hg
  have eN : lowN n d = ((n.natAbs / Int.gcd n d : Nat) : Int) := by unfold lowN; rw [Int.natCast_ediv]
  have eD : lowD n d = ((d.natAbs / Int.gcd n d : Nat) : Int) := by unfold lowD; rw [Int.natCast_ediv]
  have pD : 0 < d.natAbs / Int.gcd n d := Nat.div_pos (Nat.le_of_dvd (by omega) (Nat.gcd_dvd_right _ _)) hg
  have cN : (mkN n d).natAbs = n.natAbs / Int.gcd n d := by
    unfold mkN; rw [eN]; generalize n.natAbs / Int.gcd n d = m; split <;> omega
  obtain ⟨k1, k2⟩ := lowOk_in hk
  rw [eN] at k1
  rw [eD] at k2
  have m1 : n.natAbs / Int.gcd n d * Int.gcd n d = n.natAbs := Nat.div_mul_cancel (Nat.gcd_dvd_left _ _)
  have m2 : d.natAbs / Int.gcd n d * Int.gcd n d = d.natAbs := Nat.div_mul_cancel (Nat.gcd_dvd_right _ _)
  refine ⟨okR_true.2 ⟨by omega, by omega, by omega, by omega, ?_⟩, ?_⟩
  · show Nat.gcd (mkN n d).natAbs (lowD n d).natAbs = 1
    rw [cN, eD, Int.natAbs_natCast]
    exact hc
  · have key : ((n.natAbs / Int.gcd n d : Nat) : Int) * d = ((n.natAbs : Nat) : Int) * ((d.natAbs / Int.gcd n d : Nat) : Int) := by
      generalize n.natAbs / Int.gcd n d = A at *
      generalize d.natAbs / Int.gcd n d = B at *
      generalize Int.gcd n d = g at *
      have e1 : ((A : Int)) * (g : Int) = (n.natAbs : Int) := by rw [← m1]; push_cast; rfl
      have e2 : ((B : Int)) * (g : Int) = d := by
        have : ((B * g : Nat) : Int) = (d.natAbs : Int) := by rw [m2]
        push_cast at this
        omega
      rw [← e1, ← e2]; grind
    unfold mkN
    rw [eN, eD]
    have hd0 : ¬ d < 0 := by omega
    by_cases hn : n < 0
    · simp only [hn, hd0, decide_true, decide_false, bne_iff_ne, ne_eq, Bool.true_eq_false, not_false_eq_true, if_true]
      rw [Int.neg_mul, key]
      have : ((n.natAbs : Nat) : Int) = -n := by omega
      rw [this]; grind
    · simp only [hn, hd0, decide_false, bne_self_eq_false, Bool.false_eq_true, if_false]
      rw [key]
      have : ((n.natAbs : Nat) : Int) = n := by omega
      rw [this]
/-- What a multiple of a ratio by k comes to, if it is in range. -/
theorem mul_by {n d k : Int} (h1 : okR n d = true) (k1 : 1 ≤ k) (k2 : k ≤ 100) (hc : oC (okR n d && okR k 1) (mulX n k) (mulX d 1) = 0) :
    okR (oA (okR n d && okR k 1) (mulX n k) (mulX d 1)) (oB (okR n d && okR k 1) (mulX n k) (mulX d 1)) = true ∧ oA (okR n d && okR k 1) (mulX n k) (mulX d 1) * d = n * k * oB (okR n d && okR k 1) (mulX n k) (mulX d 1) := by
  have hk : okR k 1 = true := okR_true.2 ⟨by omega, by omega, by omega, by omega, by simp⟩
  rw [h1, hk] at hc ⊢
  have hd := (okR_bd h1).1
  have e1 : mulX d 1 = d := by unfold mulX; omega
  have e2 : mulX n k = n * k := rfl
  rw [e1, e2] at hc ⊢
  obtain ⟨m1, m2, m3⟩ := o_make (x := n * k) (y := d) (by omega)
  rw [Bool.and_self] at hc ⊢
  rw [m3] at hc
  have hl : lowOk (n * k) d = true := by
    cases h : lowOk (n * k) d
    · rw [h] at hc; simp at hc
    · rfl
  obtain ⟨y1, y2⟩ := mk_yes hl
  rw [m1, m2, hl, if_pos rfl, if_pos rfl, y1, y2]
  exact low_red hd hl
theorem le_up {x y n d k : Int} (hd : 1 ≤ d) (ho : okR x y = true) (hv : x * d = n * k * y) : (y ≤ 1 → n * k ≤ flo x y * d) ∧ n * k ≤ (flo x y + 1) * d := by
  obtain ⟨a1, a2, a3, a4⟩ := okR_bd ho
  rw [← flo_yes ho]
  obtain ⟨f1, f2⟩ := div_bd (n := x) a1
  constructor
  · intro hy
    obtain rfl : y = 1 := by omega
    rw [Int.ediv_one]; omega
  · have g : (n * k) * y ≤ ((x / y + 1) * d) * y := by
      have : x * d ≤ ((x / y + 1) * y) * d := Int.mul_le_mul_of_nonneg_right (by omega) (by omega)
      have e : ((x / y + 1) * d) * y = ((x / y + 1) * y) * d := by grind
      omega
    exact le_of_mul a1 g
theorem le_down {x y p q k : Int} (hq : 1 ≤ q) (ho : okR x y = true) (hv : x * q = p * k * y) : flo x y * q ≤ p * k := by
  obtain ⟨a1, a2, a3, a4⟩ := okR_bd ho
  rw [← flo_yes ho]
  obtain ⟨f1, f2⟩ := div_bd (n := x) a1
  have g : (x / y * q) * y ≤ (p * k) * y := by
    have : (x / y * y) * q ≤ x * q := Int.mul_le_mul_of_nonneg_right f1 (by omega)
    have e : (x / y * q) * y = (x / y * y) * q := by grind
    omega
  exact le_of_mul a1 g
theorem no_lesser {n d p q x y k u f : Int} (hs : Smp n d p q x y) (hq : 1 ≤ q) (k1 : 1 ≤ k) (hk : k < y) (hu : n * k ≤ u * d) (hf : f * q ≤ p * k) : f < u := by
  by_cases h : f < u
  · exact h
  · exfalso
    have : u * q ≤ f * q := Int.mul_le_mul_of_nonneg_right (by omega) (by omega)
    have := hs.den u k ⟨k1, hu, by omega⟩
    omega
def SimpRel (w : World) (ba br : Nat) (n d p q x y : Int) (v : Value) (wr : World) : Prop :=
  ∃ k : Int, 1 ≤ k ∧ k ≤ 101 ∧ v = .int .i64 k ∧ Box2 wr ba n d ∧ Box2 wr (ba + 1) p q ∧ Box2 wr br x y ∧ Below w.heap.size w wr
theorem flo_lim {n d : Int} : -1000000000 ≤ flo n d ∧ flo n d ≤ 1000000000 := by
  unfold flo
  split
  · rename_i h; obtain ⟨a1, a2, a3, a4⟩ := okR_bd h; exact div_lim a1 a3 a4
  · omega

set_option maxRecDepth 100000 in
set_option maxHeartbeats 8000000 in
theorem FnSimplest_walk (a : Option Addr) (len cap : Nat) (zs : List Int) (w : World) (h : IsRow .u8 w a len cap zs) :
    Calls Try.prog 10 #[.slice a len cap] w fun e w' => e = .returned (.bool true) ∧ Below w.heap.size w w' := by
  have l1 := (row_of h).1
  unfold maxLen at l1
  have HA := Lib.hid h
  clear h
  by_cases hl : 3000 < len
  · go_enter Try.func10, Try.ntmps10
    go_wp2_with fail
    refine (a2Long_yes _ _ _ _ _ _ _ (by omega) (by omega) (.inl hl)).mono ?_
    rintro e w1 ⟨rfl, rfl⟩
    go_wp2_with fail
    go_ret
    exact ⟨rfl, bR _⟩
  · have hl1 : len ≤ 3000 := by omega
    clear hl
    go_enter Try.func10, Try.ntmps10
    go_wp2_with fail
    refine (a2Long_no _ _ _ _ _ _ _ hl1 (by omega)).mono ?_
    rintro e w0 ⟨rfl, rfl⟩
    go_wp2_with fail
    refine (A2Ratios_any _ a len cap zs HA.out).mono ?_
    rintro e w1 ⟨n, d, p, q, k1, k2, rfl, hb1⟩
    have K1 := Lib.hid k1
    have K2 := Lib.hid k2
    have A0 := Lib.hid ((Box2.new w1 n d 25).alloc (.cells #[.int .i64 p, .int .i64 q] 25))
    have A1 := Lib.hid (show Box2 ((w1.alloc (.cells #[.int .i64 n, .int .i64 d] 25)).alloc (.cells #[.int .i64 p, .int .i64 q] 25)) (w1.heap.size + 1) p q by have := Box2.new (w1.alloc (.cells #[.int .i64 n, .int .i64 d] 25)) p q 25; rwa [World.size_alloc] at this)
    have L0 := Lib.hid (bA (bA hb1 (.cells #[.int .i64 n, .int .i64 d] 25)) (.cells #[.int .i64 p, .int .i64 q] 25))
    have hlo := hb1.size
    clear k1 k2 hb1
    go_wp2_with fail
    generalize (w1.alloc (.cells #[.int .i64 n, .int .i64 d] 25)).alloc (.cells #[.int .i64 p, .int .i64 q] 25) = W0 at *
    refine (CompareRatioS_any _ _ _ _ _).mono ?_
    rintro e w2 ⟨rfl, hb2⟩
    have B0 := Lib.hid (A0.out.keep hb2)
    have B1 := Lib.hid (A1.out.keep hb2)
    have L2 := Lib.hid (bT L0.out hb2)
    clear A0 A1 L0 hb2
    generalize w1.heap.size = ba at *
    obtain ⟨x0, x1, x2, x3, x4⟩ := B0.out
    obtain ⟨y0, y1, y2, y3, y4⟩ := B1.out
    by_cases ho : n * q ≤ p * d
    · have hcv := cmpR_le K1.out K2.out ho
      have HO := Lib.hid ho
      generalize cmpR n d p q = cv at *
      clear ho
      go_wp2_with fail
      refine (SimplestBetweenI_any _ _ _ _ _).mono ?_
      rintro e w3 ⟨rfl, hb3⟩
      obtain ⟨sA, sB, sC⟩ := sb_yes K1.out K2.out HO.out
      rw [sA, sB, sC]
      have HS := Lib.hid (smpX_S K1.out K2.out HO.out)
      have HX := Lib.hid (smp_ok K1.out HO.out HS.out)
      generalize (smpX n d p q).1 = X at *
      generalize (smpX n d p q).2 = Y at *
      clear sA sB sC
      have D0 := Lib.hid ((B0.out.keep hb3).alloc (.cells #[.int .i64 X, .int .i64 Y] 25))
      have D1 := Lib.hid ((B1.out.keep hb3).alloc (.cells #[.int .i64 X, .int .i64 Y] 25))
      have D2 := Lib.hid (Box2.new w3 X Y 25)
      have D3 := Lib.hid (bA (bT L2.out hb3) (.cells #[.int .i64 X, .int .i64 Y] 25))
      have hx : okR X Y = true := HX.out
      obtain ⟨xb1, xb2, xb3, xb4⟩ := okR_bd HX.out
      clear hb3 B0 B1 L2 x0 x1 x2 x3 x4 y0 y1 y2 y3 y4
      go_wp2_with fail
      generalize w3.alloc (.cells #[.int .i64 X, .int .i64 Y] 25) = W3 at *
      generalize w3.heap.size = br at *
      obtain ⟨x0, x1, x2, x3, x4⟩ := D0.out
      obtain ⟨y0, y1, y2, y3, y4⟩ := D1.out
      obtain ⟨z0, z1, z2, z3, z4⟩ := D2.out
      refine (ValidRatioS_any _ _ _).mono ?_
      rintro e w4 ⟨rfl, hb4⟩
      have E0 := Lib.hid (D0.out.keep hb4)
      have E1 := Lib.hid (D1.out.keep hb4)
      have E2 := Lib.hid (D2.out.keep hb4)
      have E3 := Lib.hid (bT D3.out hb4)
      clear hb4 D0 D1 D2 D3 x0 x1 x2 x3 x4 y0 y1 y2 y3 y4 z0 z1 z2 z3 z4
      obtain ⟨x0, x1, x2, x3, x4⟩ := E0.out
      obtain ⟨y0, y1, y2, y3, y4⟩ := E1.out
      obtain ⟨z0, z1, z2, z3, z4⟩ := E2.out
      go_wp2_with fail
      refine (CompareRatioS_any _ _ _ _ _).mono ?_
      rintro e w5 ⟨rfl, hb5⟩
      have hc1 := cmpR_le K1.out HX.out HS.out.btw.2.1
      generalize cmpR n d X Y = cv1 at *
      have G0 := Lib.hid (E0.out.keep hb5)
      have G1 := Lib.hid (E1.out.keep hb5)
      have G2 := Lib.hid (E2.out.keep hb5)
      have G3 := Lib.hid (bT E3.out hb5)
      clear hb5 E0 E1 E2 E3 x0 x1 x2 x3 x4 y0 y1 y2 y3 y4 z0 z1 z2 z3 z4
      obtain ⟨y0, y1, y2, y3, y4⟩ := G1.out
      obtain ⟨z0, z1, z2, z3, z4⟩ := G2.out
      go_wp2_with fail
      refine (CompareRatioS_any _ _ _ _ _).mono ?_
      rintro e w6 ⟨rfl, hb6⟩
      have hc2 := cmpR_le HX.out K2.out HS.out.btw.2.2
      generalize cmpR X Y p q = cv2 at *
      have RS := Lib.hid (show SimpRel w ba br n d p q X Y (.int .i64 1) w6 from ⟨1, by omega, by omega, rfl, G0.out.keep hb6, G1.out.keep hb6, G2.out.keep hb6, bT G3.out hb6⟩)
      clear hb6 G0 G1 G2 G3 y0 y1 y2 y3 y4 z0 z1 z2 z3 z4
      go_wp2_with fail
      go_loopw [7] (fun v wr => SimpRel w ba br n d p q X Y v wr) (fun v _ => (101 - intOf v).toNat)
      case atStart => exact RS.out
      case round =>
        obtain ⟨k, kl, ku, rfl, q0, q1, q2, q3⟩ := hrel
        have Q0 := Lib.hid q0
        have Q1 := Lib.hid q1
        have Q2 := Lib.hid q2
        have Q3 := Lib.hid q3
        obtain ⟨z0, z1, z2, z3, z4⟩ := q2
        obtain ⟨x0, x1, x2, x3, x4⟩ := q0
        clear q1 q3
        by_cases hk1 : k < Y
        · by_cases hk2 : k ≤ 100
          · go_wp2_with fail
            refine (MulRatioS_any _ _ _ _ _).mono ?_
            rintro e w7 ⟨rfl, hb7⟩
            have hm1 := mul_by K1.out kl hk2
            have HM1 := Lib.hid hm1
            generalize oC (okR n d && okR k 1) (mulX n k) (mulX d 1) = ca at *
            generalize oA (okR n d && okR k 1) (mulX n k) (mulX d 1) = xa at *
            generalize oB (okR n d && okR k 1) (mulX n k) (mulX d 1) = ya at *
            have R0 := Lib.hid ((Q0.out.keep hb7).alloc (.cells #[.int .i64 xa, .int .i64 ya] 25))
            have R1 := Lib.hid ((Q1.out.keep hb7).alloc (.cells #[.int .i64 xa, .int .i64 ya] 25))
            have R2 := Lib.hid ((Q2.out.keep hb7).alloc (.cells #[.int .i64 xa, .int .i64 ya] 25))
            have R3 := Lib.hid (bA (bT Q3.out hb7) (.cells #[.int .i64 xa, .int .i64 ya] 25))
            have R4 := Lib.hid (Box2.new w7 xa ya 25)
            clear hb7 Q0 Q1 Q2 Q3 x0 x1 x2 x3 x4 z0 z1 z2 z3 z4 hm1
            obtain ⟨y0, y1, y2, y3, y4⟩ := R1.out
            go_wp2_with fail
            generalize w7.alloc (.cells #[.int .i64 xa, .int .i64 ya] 25) = W7 at *
            generalize w7.heap.size = bx at *
            refine (MulRatioS_any _ _ _ _ _).mono ?_
            rintro e w8 ⟨rfl, hb8⟩
            have hm2 := mul_by K2.out kl hk2
            have HM2 := Lib.hid hm2
            generalize oC (okR p q && okR k 1) (mulX p k) (mulX q 1) = cb at *
            generalize oA (okR p q && okR k 1) (mulX p k) (mulX q 1) = xb at *
            generalize oB (okR p q && okR k 1) (mulX p k) (mulX q 1) = yb at *
            have U0 := Lib.hid ((R0.out.keep hb8).alloc (.cells #[.int .i64 xb, .int .i64 yb] 25))
            have U1 := Lib.hid ((R1.out.keep hb8).alloc (.cells #[.int .i64 xb, .int .i64 yb] 25))
            have U2 := Lib.hid ((R2.out.keep hb8).alloc (.cells #[.int .i64 xb, .int .i64 yb] 25))
            have U3 := Lib.hid (bA (bT R3.out hb8) (.cells #[.int .i64 xb, .int .i64 yb] 25))
            have U4 := Lib.hid ((R4.out.keep hb8).alloc (.cells #[.int .i64 xb, .int .i64 yb] 25))
            have U5 := Lib.hid (Box2.new w8 xb yb 25)
            clear hb8 R0 R1 R2 R3 R4 y0 y1 y2 y3 y4 hm2
            generalize hW8 : w8.alloc (.cells #[.int .i64 xb, .int .i64 yb] 25) = W8 at *
            by_cases hca : ca = 0
            · by_cases hcb : cb = 0
              · subst hca hcb
                obtain ⟨oka, va⟩ := HM1.out rfl
                obtain ⟨okb, vb⟩ := HM2.out rfl
                obtain ⟨up1, up2⟩ := le_up (okR_bd K1.out).1 oka va
                have dn := le_down (okR_bd K2.out).1 okb vb
                obtain ⟨fl1, fl2⟩ := flo_lim (n := xa) (d := ya)
                have NL := Lib.hid (fun u hu => no_lesser (u := u) HS.out (okR_bd K2.out).1 kl hk1 hu dn)
                have UP1 := Lib.hid up1
                have UP2 := Lib.hid up2
                obtain ⟨v0, v1, v2, v3, v4⟩ := U4.out
                clear oka va okb vb up1 up2 dn HM1 HM2
                go_wp2_with fail
                try rw [hW8]
                refine (FloorRatioS_any _ _ _).mono ?_
                rintro e w9 ⟨rfl, hb9⟩
                have V0 := Lib.hid (U0.out.keep hb9)
                have V1 := Lib.hid (U1.out.keep hb9)
                have V2 := Lib.hid (U2.out.keep hb9)
                have V3 := Lib.hid (bT U3.out hb9)
                have V4 := Lib.hid (U4.out.keep hb9)
                have V5 := Lib.hid (U5.out.keep hb9)
                clear hb9 U0 U1 U2 U3 U4 U5 v0 v1 v2 v3 v4 hW8
                generalize w8.heap.size = by' at *
                obtain ⟨v0, v1, v2, v3, v4⟩ := V4.out
                obtain ⟨t0, t1, t2, t3, t4⟩ := V5.out
                generalize flo xa ya = fa at *
                by_cases hya : 1 < ya
                · have hnl := NL.out (fa + 1) UP2.out
                  clear NL UP1 UP2
                  go_wp2_with fail
                  refine (FloorRatioS_any _ _ _).mono ?_
                  rintro e w10 ⟨rfl, hb10⟩
                  have RR := Lib.hid (show SimpRel w ba br n d p q X Y (.int .i64 (k + 1)) w10 from ⟨k + 1, by omega, by omega, rfl, V0.out.keep hb10, V1.out.keep hb10, V2.out.keep hb10, bT V3.out hb10⟩)
                  clear hb10 V0 V1 V2 V3 V4 V5 v0 v1 v2 v3 v4 t0 t1 t2 t3 t4
                  generalize flo xb yb = fb at *
                  go_wp2_with fail
                  go_roundw
                  case rel => exact RR.out
                  case measure => simp [intOf]; omega
                · have hnl := NL.out fa (UP1.out (by omega))
                  clear NL UP1 UP2
                  go_wp2_with fail
                  refine (FloorRatioS_any _ _ _).mono ?_
                  rintro e w10 ⟨rfl, hb10⟩
                  have RR := Lib.hid (show SimpRel w ba br n d p q X Y (.int .i64 (k + 1)) w10 from ⟨k + 1, by omega, by omega, rfl, V0.out.keep hb10, V1.out.keep hb10, V2.out.keep hb10, bT V3.out hb10⟩)
                  clear hb10 V0 V1 V2 V3 V4 V5 v0 v1 v2 v3 v4 t0 t1 t2 t3 t4
                  generalize flo xb yb = fb at *
                  go_wp2_with fail
                  go_roundw
                  case rel => exact RR.out
                  case measure => simp [intOf]; omega
              · subst hca
                have hcb' : (cb != 0) = true := by simpa using hcb
                clear hcb HM1 HM2
                go_wp2_with fail
                go_ret
                exact ⟨rfl, by first | exact U3.out | (rw [hW8]; exact U3.out)⟩
            · have hca' : (ca != 0) = true := by simpa using hca
              clear hca HM1 HM2
              go_wp2_with fail
              go_ret
              exact ⟨rfl, by first | exact U3.out | (rw [hW8]; exact U3.out)⟩
          · go_wp2_with fail
            go_ret
            exact ⟨rfl, Q3.out⟩
        · go_wp2_with fail
          go_ret
          exact ⟨rfl, Q3.out⟩
    · have ho' : q * n ≤ d * p ∨ True := .inr trivial
      have hgt : p * d < n * q := by omega
      have hcv := cmpR_gt K1.out K2.out hgt
      have HO := Lib.hid (show p * d ≤ n * q by omega)
      generalize cmpR n d p q = cv at *
      have C0 := Lib.hid (((B0.out.set p q).other (b' := ba + 1) (o := 0) (v := .int .i64 n) (by omega)).other (b' := ba + 1) (o := 1) (v := .int .i64 d) (by omega))
      have C1 := Lib.hid (((B1.out.other (b' := ba) (o := 0) (v := .int .i64 p) (by omega)).other (b' := ba) (o := 1) (v := .int .i64 q) (by omega)).set n d)
      have C2 := Lib.hid ((((L2.out.setCell (p := ⟨ba, 0, none⟩) (by simp; omega) (.int .i64 p)).setCell (p := ⟨ba, 1, none⟩) (by simp; omega) (.int .i64 q)).setCell (p := ⟨ba + 1, 0, none⟩) (by simp; omega) (.int .i64 n)).setCell (p := ⟨ba + 1, 1, none⟩) (by simp; omega) (.int .i64 d))
      clear ho ho' hgt
      go_wp2_with fail
      generalize (((w2.setCell ⟨ba, 0, none⟩ (.int .i64 p)).setCell ⟨ba, 1, none⟩ (.int .i64 q)).setCell ⟨ba + 1, 0, none⟩ (.int .i64 n)).setCell ⟨ba + 1, 1, none⟩ (.int .i64 d) = w2' at *
      clear x0 x1 x2 x3 x4 y0 y1 y2 y3 y4
      obtain ⟨x0, x1, x2, x3, x4⟩ := C0.out
      obtain ⟨y0, y1, y2, y3, y4⟩ := C1.out
      refine (SimplestBetweenI_any _ _ _ _ _).mono ?_
      rintro e w3 ⟨rfl, hb3⟩
      obtain ⟨sA, sB, sC⟩ := sb_yes K2.out K1.out HO.out
      rw [sA, sB, sC]
      have HS := Lib.hid (smpX_S K2.out K1.out HO.out)
      have HX := Lib.hid (smp_ok K2.out HO.out HS.out)
      generalize (smpX p q n d).1 = X at *
      generalize (smpX p q n d).2 = Y at *
      clear sA sB sC
      have D0 := Lib.hid ((C0.out.keep hb3).alloc (.cells #[.int .i64 X, .int .i64 Y] 25))
      have D1 := Lib.hid ((C1.out.keep hb3).alloc (.cells #[.int .i64 X, .int .i64 Y] 25))
      have D2 := Lib.hid (Box2.new w3 X Y 25)
      have D3 := Lib.hid (bA (bT C2.out hb3) (.cells #[.int .i64 X, .int .i64 Y] 25))
      have hx : okR X Y = true := HX.out
      obtain ⟨xb1, xb2, xb3, xb4⟩ := okR_bd HX.out
      clear hb3 B0 B1 L2 C0 C1 C2 x0 x1 x2 x3 x4 y0 y1 y2 y3 y4
      go_wp2_with fail
      generalize w3.alloc (.cells #[.int .i64 X, .int .i64 Y] 25) = W3 at *
      generalize w3.heap.size = br at *
      obtain ⟨x0, x1, x2, x3, x4⟩ := D0.out
      obtain ⟨y0, y1, y2, y3, y4⟩ := D1.out
      obtain ⟨z0, z1, z2, z3, z4⟩ := D2.out
      refine (ValidRatioS_any _ _ _).mono ?_
      rintro e w4 ⟨rfl, hb4⟩
      have E0 := Lib.hid (D0.out.keep hb4)
      have E1 := Lib.hid (D1.out.keep hb4)
      have E2 := Lib.hid (D2.out.keep hb4)
      have E3 := Lib.hid (bT D3.out hb4)
      clear hb4 D0 D1 D2 D3 x0 x1 x2 x3 x4 y0 y1 y2 y3 y4 z0 z1 z2 z3 z4
      obtain ⟨x0, x1, x2, x3, x4⟩ := E0.out
      obtain ⟨y0, y1, y2, y3, y4⟩ := E1.out
      obtain ⟨z0, z1, z2, z3, z4⟩ := E2.out
      go_wp2_with fail
      refine (CompareRatioS_any _ _ _ _ _).mono ?_
      rintro e w5 ⟨rfl, hb5⟩
      have hc1 := cmpR_le K2.out HX.out HS.out.btw.2.1
      generalize cmpR p q X Y = cv1 at *
      have G0 := Lib.hid (E0.out.keep hb5)
      have G1 := Lib.hid (E1.out.keep hb5)
      have G2 := Lib.hid (E2.out.keep hb5)
      have G3 := Lib.hid (bT E3.out hb5)
      clear hb5 E0 E1 E2 E3 x0 x1 x2 x3 x4 y0 y1 y2 y3 y4 z0 z1 z2 z3 z4
      obtain ⟨y0, y1, y2, y3, y4⟩ := G1.out
      obtain ⟨z0, z1, z2, z3, z4⟩ := G2.out
      go_wp2_with fail
      refine (CompareRatioS_any _ _ _ _ _).mono ?_
      rintro e w6 ⟨rfl, hb6⟩
      have hc2 := cmpR_le HX.out K1.out HS.out.btw.2.2
      generalize cmpR X Y n d = cv2 at *
      have RS := Lib.hid (show SimpRel w ba br p q n d X Y (.int .i64 1) w6 from ⟨1, by omega, by omega, rfl, G0.out.keep hb6, G1.out.keep hb6, G2.out.keep hb6, bT G3.out hb6⟩)
      clear hb6 G0 G1 G2 G3 y0 y1 y2 y3 y4 z0 z1 z2 z3 z4
      go_wp2_with fail
      go_loopw [7] (fun v wr => SimpRel w ba br p q n d X Y v wr) (fun v _ => (101 - intOf v).toNat)
      case atStart => exact RS.out
      case round =>
        obtain ⟨k, kl, ku, rfl, q0, q1, q2, q3⟩ := hrel
        have Q0 := Lib.hid q0
        have Q1 := Lib.hid q1
        have Q2 := Lib.hid q2
        have Q3 := Lib.hid q3
        obtain ⟨z0, z1, z2, z3, z4⟩ := q2
        obtain ⟨x0, x1, x2, x3, x4⟩ := q0
        clear q1 q3
        by_cases hk1 : k < Y
        · by_cases hk2 : k ≤ 100
          · go_wp2_with fail
            refine (MulRatioS_any _ _ _ _ _).mono ?_
            rintro e w7 ⟨rfl, hb7⟩
            have hm1 := mul_by K2.out kl hk2
            have HM1 := Lib.hid hm1
            generalize oC (okR p q && okR k 1) (mulX p k) (mulX q 1) = ca at *
            generalize oA (okR p q && okR k 1) (mulX p k) (mulX q 1) = xa at *
            generalize oB (okR p q && okR k 1) (mulX p k) (mulX q 1) = ya at *
            have R0 := Lib.hid ((Q0.out.keep hb7).alloc (.cells #[.int .i64 xa, .int .i64 ya] 25))
            have R1 := Lib.hid ((Q1.out.keep hb7).alloc (.cells #[.int .i64 xa, .int .i64 ya] 25))
            have R2 := Lib.hid ((Q2.out.keep hb7).alloc (.cells #[.int .i64 xa, .int .i64 ya] 25))
            have R3 := Lib.hid (bA (bT Q3.out hb7) (.cells #[.int .i64 xa, .int .i64 ya] 25))
            have R4 := Lib.hid (Box2.new w7 xa ya 25)
            clear hb7 Q0 Q1 Q2 Q3 x0 x1 x2 x3 x4 z0 z1 z2 z3 z4 hm1
            obtain ⟨y0, y1, y2, y3, y4⟩ := R1.out
            go_wp2_with fail
            generalize w7.alloc (.cells #[.int .i64 xa, .int .i64 ya] 25) = W7 at *
            generalize w7.heap.size = bx at *
            refine (MulRatioS_any _ _ _ _ _).mono ?_
            rintro e w8 ⟨rfl, hb8⟩
            have hm2 := mul_by K1.out kl hk2
            have HM2 := Lib.hid hm2
            generalize oC (okR n d && okR k 1) (mulX n k) (mulX d 1) = cb at *
            generalize oA (okR n d && okR k 1) (mulX n k) (mulX d 1) = xb at *
            generalize oB (okR n d && okR k 1) (mulX n k) (mulX d 1) = yb at *
            have U0 := Lib.hid ((R0.out.keep hb8).alloc (.cells #[.int .i64 xb, .int .i64 yb] 25))
            have U1 := Lib.hid ((R1.out.keep hb8).alloc (.cells #[.int .i64 xb, .int .i64 yb] 25))
            have U2 := Lib.hid ((R2.out.keep hb8).alloc (.cells #[.int .i64 xb, .int .i64 yb] 25))
            have U3 := Lib.hid (bA (bT R3.out hb8) (.cells #[.int .i64 xb, .int .i64 yb] 25))
            have U4 := Lib.hid ((R4.out.keep hb8).alloc (.cells #[.int .i64 xb, .int .i64 yb] 25))
            have U5 := Lib.hid (Box2.new w8 xb yb 25)
            clear hb8 R0 R1 R2 R3 R4 y0 y1 y2 y3 y4 hm2
            generalize hW8 : w8.alloc (.cells #[.int .i64 xb, .int .i64 yb] 25) = W8 at *
            by_cases hca : ca = 0
            · by_cases hcb : cb = 0
              · subst hca hcb
                obtain ⟨oka, va⟩ := HM1.out rfl
                obtain ⟨okb, vb⟩ := HM2.out rfl
                obtain ⟨up1, up2⟩ := le_up (okR_bd K2.out).1 oka va
                have dn := le_down (okR_bd K1.out).1 okb vb
                obtain ⟨fl1, fl2⟩ := flo_lim (n := xa) (d := ya)
                have NL := Lib.hid (fun u hu => no_lesser (u := u) HS.out (okR_bd K1.out).1 kl hk1 hu dn)
                have UP1 := Lib.hid up1
                have UP2 := Lib.hid up2
                obtain ⟨v0, v1, v2, v3, v4⟩ := U4.out
                clear oka va okb vb up1 up2 dn HM1 HM2
                go_wp2_with fail
                try rw [hW8]
                refine (FloorRatioS_any _ _ _).mono ?_
                rintro e w9 ⟨rfl, hb9⟩
                have V0 := Lib.hid (U0.out.keep hb9)
                have V1 := Lib.hid (U1.out.keep hb9)
                have V2 := Lib.hid (U2.out.keep hb9)
                have V3 := Lib.hid (bT U3.out hb9)
                have V4 := Lib.hid (U4.out.keep hb9)
                have V5 := Lib.hid (U5.out.keep hb9)
                clear hb9 U0 U1 U2 U3 U4 U5 v0 v1 v2 v3 v4 hW8
                generalize w8.heap.size = by' at *
                obtain ⟨v0, v1, v2, v3, v4⟩ := V4.out
                obtain ⟨t0, t1, t2, t3, t4⟩ := V5.out
                generalize flo xa ya = fa at *
                by_cases hya : 1 < ya
                · have hnl := NL.out (fa + 1) UP2.out
                  clear NL UP1 UP2
                  go_wp2_with fail
                  refine (FloorRatioS_any _ _ _).mono ?_
                  rintro e w10 ⟨rfl, hb10⟩
                  have RR := Lib.hid (show SimpRel w ba br p q n d X Y (.int .i64 (k + 1)) w10 from ⟨k + 1, by omega, by omega, rfl, V0.out.keep hb10, V1.out.keep hb10, V2.out.keep hb10, bT V3.out hb10⟩)
                  clear hb10 V0 V1 V2 V3 V4 V5 v0 v1 v2 v3 v4 t0 t1 t2 t3 t4
                  generalize flo xb yb = fb at *
                  go_wp2_with fail
                  go_roundw
                  case rel => exact RR.out
                  case measure => simp [intOf]; omega
                · have hnl := NL.out fa (UP1.out (by omega))
                  clear NL UP1 UP2
                  go_wp2_with fail
                  refine (FloorRatioS_any _ _ _).mono ?_
                  rintro e w10 ⟨rfl, hb10⟩
                  have RR := Lib.hid (show SimpRel w ba br p q n d X Y (.int .i64 (k + 1)) w10 from ⟨k + 1, by omega, by omega, rfl, V0.out.keep hb10, V1.out.keep hb10, V2.out.keep hb10, bT V3.out hb10⟩)
                  clear hb10 V0 V1 V2 V3 V4 V5 v0 v1 v2 v3 v4 t0 t1 t2 t3 t4
                  generalize flo xb yb = fb at *
                  go_wp2_with fail
                  go_roundw
                  case rel => exact RR.out
                  case measure => simp [intOf]; omega
              · subst hca
                have hcb' : (cb != 0) = true := by simpa using hcb
                clear hcb HM1 HM2
                go_wp2_with fail
                go_ret
                exact ⟨rfl, by first | exact U3.out | (rw [hW8]; exact U3.out)⟩
            · have hca' : (ca != 0) = true := by simpa using hca
              clear hca HM1 HM2
              go_wp2_with fail
              go_ret
              exact ⟨rfl, by first | exact U3.out | (rw [hW8]; exact U3.out)⟩
          · go_wp2_with fail
            go_ret
            exact ⟨rfl, Q3.out⟩
        · go_wp2_with fail
          go_ret
          exact ⟨rfl, Q3.out⟩
end Go.Proofs.Ythnfkkfonabhkaa

/-
  The contracts of spec.l03Near, spec.l03Neighbours and spec.NeighboursOf.
-/
import Derived.Test.YthnfkkfonabhkaaNearM
import Derived.Test.YthnfkkfonabhkaaWhole
import Derived.Test.YthnfkkfonabhkaaBox
import Derived.Deep.QuietTactic
import Derived.BigQuiet
import Derived.StillTailTactics
namespace Go.Proofs.Ythnfkkfonabhkaa
open Go.RowKit

/-- What l03Near returns. -/
def NrRet (p q most : Int) (w : World) (e : Ending) (w' : World) : Prop := ∃ a b c d : Int, NbR p q most a b c d ∧ e = .returned (.tuple #[.int .i64 a, .int .i64 b, .int .i64 c, .int .i64 d]) ∧ ∃ n, w' = w.drewN n
def NrRel (p q most : Int) (w : World) (x y u v : Value) (wr : World) : Prop := ∃ a b c d : Int, x = .int .i64 a ∧ y = .int .i64 b ∧ u = .int .i64 c ∧ v = .int .i64 d ∧ NrI p q most a b c d ∧ ∃ n, wr = w.drewN n
theorem pos_div {x y : Int} (hx : 0 ≤ x) : x.tdiv y = x / y := Int.tdiv_eq_ediv_of_nonneg hx
theorem div_le {x y : Int} (hx : 0 ≤ x) (hy : 1 ≤ y) : 0 ≤ x / y ∧ x / y ≤ x := ⟨Int.ediv_nonneg hx (by omega), Int.ediv_le_self y hx⟩
theorem quo_in {x y : Int} (hx : 0 ≤ x) (hy : 1 ≤ y) (h : x ≤ 9223372036854775807) : IntKind.i64.wrap (x.tdiv y) = x / y := by
  obtain ⟨h1, h2⟩ := div_le hx hy
  rw [pos_div hx, IntWalk.i64_in _ (by omega)]
set_option maxRecDepth 100000 in
set_option maxHeartbeats 8000000 in
theorem l03Near_any (p q most : Int) (w : World) (hp : 0 ≤ p) (hq : p < q) (hq2 : q ≤ 1000000000) (hm : 1 ≤ most) (hm2 : most ≤ 1000000000) (hg : Int.gcd p q = 1) :
    Calls Try.prog 75 #[.int .i64 p, .int .i64 q, .int .i64 most] w (NrRet p q most w) := by
  have HG := Lib.hid hg
  have RS := Lib.hid (show NrRel p q most w (.int .i64 0) (.int .i64 1) (.int .i64 1) (.int .i64 1) w from ⟨0, 1, 1, 1, rfl, rfl, rfl, rfl, NrI.start hp hq hm, 0, rfl⟩)
  clear hg
  go_enter Try.func75, Try.ntmps75
  go_wp2_with fail
  go_loopw [10, 11, 12, 13] (fun x y u v wr => NrRel p q most w x y u v wr) (fun a b c d _ => (p * intOf b - intOf a * q + (intOf c * q - p * intOf d)).toNat)
  case atStart => exact RS.out
  case round =>
    obtain ⟨a, b, c, d, rfl, rfl, rfl, rfl, hI, hw⟩ := hrel
    have HW := Lib.hid hw
    clear hw
    have HI := Lib.hid hI
    obtain ⟨b1, d1, bm, dm, _, lo, hi, a0, ab, c0, cd⟩ := hI
    obtain ⟨m1, m2⟩ := mul_bd (a := p) (b := b) (by omega) (by omega) (by omega) (by omega)
    obtain ⟨m3, m4⟩ := mul_bd (a := a) (b := q) (by omega) (by omega) (by omega) (by omega)
    obtain ⟨m5, m6⟩ := mul_bd (a := c) (b := q) (by omega) (by omega) (by omega) (by omega)
    obtain ⟨m7, m8⟩ := mul_bd (a := p) (b := d) (by omega) (by omega) (by omega) (by omega)
    by_cases hl0 : p * b - a * q = 0
    · obtain ⟨r1, r2⟩ := HI.out.at_lo (by omega) HG.out hl0
      have HR := Lib.hid (show NbR p q most a b a b from .inl ⟨by omega, r1, r2, r1, r2⟩)
      have hz : (p * b - a * q == 0) = true := by simpa using hl0
      clear r1 r2 hl0
      go_wp2_with fail
      exact bodyPost_ret (v := .tuple #[.int .i64 a, .int .i64 b, .int .i64 a, .int .i64 b]) (by simp [results, Try.results75, go_sem]) rfl ⟨a, b, a, b, HR.out, rfl, HW.out⟩
    · have hz : (p * b - a * q == 0) = false := by simpa using hl0
      by_cases hh0 : c * q - p * d = 0
      · obtain ⟨r1, r2⟩ := HI.out.at_hi (by omega) HG.out hh0
        have HR := Lib.hid (show NbR p q most c d c d from .inl ⟨by omega, r1, r2, r1, r2⟩)
        have hz2 : (c * q - p * d == 0) = true := by simpa using hh0
        clear r1 r2 hh0 hl0
        go_wp2_with fail
        exact bodyPost_ret (v := .tuple #[.int .i64 c, .int .i64 d, .int .i64 c, .int .i64 d]) (by simp [results, Try.results75, go_sem]) rfl ⟨c, d, c, d, HR.out, rfl, HW.out⟩
      · have hz2 : (c * q - p * d == 0) = false := by simpa using hh0
        obtain ⟨k0, k1, k2⟩ := min_bd (x := p * b - a * q) (y := c * q - p * d) (u := most - b) (v := d) (by omega) d1 lo (by omega)
        obtain ⟨i1, i2, i3, i4, i5⟩ := HI.out.up k0 k1 k2
        obtain ⟨v1, v2⟩ := div_le (x := p * b - a * q) (y := c * q - p * d) lo (by omega)
        obtain ⟨v3, v4⟩ := div_le (x := most - b) (y := d) (by omega) d1
        have hz3 : ¬ d = 0 := by omega
        have D1 := Lib.hid (quo_in (x := p * b - a * q) (y := c * q - p * d) lo (by omega) (by omega))
        have D2 := Lib.hid (quo_in (x := most - b) (y := d) (by omega) d1 (by omega))
        have D3 := Lib.hid (IntWalk.i64_in (most - b) (by omega))
        go_wp2_with fail
        have q1 := D1.out
        have q2 := D2.out
        have q3 := D3.out
        go_quiet ((go_at_call 81; exact quiet_eq (l00Min_any _ _ _)))
        clear q1 q2 q3 v1 v2 v3 v4 D1 D2 D3
        generalize hk : min ((p * b - a * q) / (c * q - p * d)) ((most - b) / d) = k at *
        have HK := Lib.hid hk
        have kh : 0 ≤ k * (c * q - p * d) := Int.mul_nonneg k0 hi
        have KH := Lib.hid (fun (h : k ≠ 0) => (show 1 ≤ k * (c * q - p * d) from by have := Int.mul_le_mul (show 1 ≤ k by omega) (show 1 ≤ c * q - p * d by omega) (by omega) k0; omega))
        generalize hw2 : wr.drewN nq = wr2
        have HW2 := Lib.hid (show ∃ n, wr2 = w.drewN n by obtain ⟨n0, e⟩ := HW.out; exact ⟨n0 + nq, by rw [← hw2, e, World.drewN_drewN]⟩)
        have I1 := Lib.hid i1
        have I2 := Lib.hid i2
        obtain ⟨b1', _, bm', _, _, lo', _, a0', ab', _, _⟩ := i1
        obtain ⟨n1, n2⟩ := mul_bd (a := p) (b := b + k * d) (by omega) (by omega) (by omega) (by omega)
        obtain ⟨n3, n4⟩ := mul_bd (a := a + k * c) (b := q) (by omega) (by omega) (by omega) (by omega)
        clear hk hw2 i2
        by_cases hl1 : p * (b + k * d) - (a + k * c) * q = 0
        · obtain ⟨r1, r2⟩ := I1.out.at_lo (by omega) HG.out hl1
          have HR := Lib.hid (show NbR p q most (a + k * c) (b + k * d) (a + k * c) (b + k * d) from .inl ⟨by omega, r1, r2, r1, r2⟩)
          have hz4 : (p * (b + k * d) - (a + k * c) * q == 0) = true := by simpa using hl1
          clear r1 r2 hl1
          go_wp2_with fail
          exact bodyPost_ret (v := .tuple #[.int .i64 (a + k * c), .int .i64 (b + k * d), .int .i64 (a + k * c), .int .i64 (b + k * d)]) (by simp [results, Try.results75, go_sem]) rfl ⟨_, _, _, _, HR.out, rfl, HW2.out⟩
        · have hz4 : (p * (b + k * d) - (a + k * c) * q == 0) = false := by simpa using hl1
          go_wp2_with fail
          generalize ha' : a + k * c = a' at *
          generalize hb' : b + k * d = b' at *
          have HA' := Lib.hid ha'
          have HB' := Lib.hid hb'
          clear ha' hb'
          obtain ⟨l0, l1, l2⟩ := min_bd (x := c * q - p * d) (y := p * b' - a' * q) (u := most - d) (v := b') (by omega) b1' hi (by omega)
          obtain ⟨j1, j2, j3, j4, j5⟩ := I1.out.down l0 l1 l2
          obtain ⟨v1, v2⟩ := div_le (x := c * q - p * d) (y := p * b' - a' * q) hi (by omega)
          obtain ⟨v3, v4⟩ := div_le (x := most - d) (y := b') (by omega) b1'
          have hz5 : ¬ b' = 0 := by omega
          have D1 := Lib.hid (quo_in (x := c * q - p * d) (y := p * b' - a' * q) hi (by omega) (by omega))
          have D2 := Lib.hid (quo_in (x := most - d) (y := b') (by omega) b1' (by omega))
          have D3 := Lib.hid (IntWalk.i64_in (most - d) (by omega))
          have q1 := D1.out
          have q2 := D2.out
          have q3 := D3.out
          go_quiet ((go_at_call 81; exact quiet_eq (l00Min_any _ _ _)))
          clear q1 q2 q3 v1 v2 v3 v4 D1 D2 D3
          generalize hm' : min ((c * q - p * d) / (p * b' - a' * q)) ((most - d) / b') = m at *
          have HM := Lib.hid hm'
          have mh : 0 ≤ m * (p * b' - a' * q) := Int.mul_nonneg l0 lo'
          have MH := Lib.hid (fun (h : m ≠ 0) => (show 1 ≤ m * (p * b' - a' * q) from by have := Int.mul_le_mul (show 1 ≤ m by omega) (show 1 ≤ p * b' - a' * q by omega) (by omega) l0; omega))
          have J1 := Lib.hid j1
          have J2 := Lib.hid j2
          obtain ⟨_, d1', _, dm', _, _, hi', _, _, c0', cd'⟩ := j1
          have HL0 := Lib.hid hl0
          have HH0 := Lib.hid hh0
          have HW3 := Lib.hid (show ∃ n, wr2.drewN nq = w.drewN n by obtain ⟨n0, e⟩ := HW2.out; exact ⟨n0 + nq, by rw [e, World.drewN_drewN]⟩)
          clear hm' j2 hl0 hh0
          by_cases hk0 : k = 0
          · by_cases hm0 : m = 0
            · have HR := Lib.hid (show NbR p q most a' b' (c + m * a') (d + m * b') from .inr (by
                have e1 := HA'.out
                have e2 := HB'.out
                have e3 := HK.out
                have e4 := HM.out
                subst hk0 hm0
                simp only [Int.zero_mul, Int.add_zero] at e1 e2 ⊢
                subst e1 e2
                exact HI.out.stop HL0.out HH0.out e3 e4))
              have z1 : (k == 0) = true := by simpa using hk0
              have z2 : (m == 0) = true := by simpa using hm0
              clear hk0 hm0
              go_wp2_with fail
              exact bodyPost_ret (v := .tuple #[.int .i64 a', .int .i64 b', .int .i64 (c + m * a'), .int .i64 (d + m * b')]) (by simp [results, Try.results75, go_sem]) rfl ⟨_, _, _, _, HR.out, rfl, HW3.out⟩
            · have z1 : (k == 0) = true := by simpa using hk0
              have z2 : (m == 0) = false := by simpa using hm0
              clear hk0
              go_wp2_with fail
              go_roundw
              case rel => exact ⟨_, _, _, _, rfl, rfl, rfl, rfl, J1.out, HW3.out⟩
              case measure => have := J2.out; have := I2.out; have := MH.out hm0; simp only [intOf]; omega
          · have z1 : (k == 0) = false := by simpa using hk0
            go_wp2_with fail
            go_roundw
            case rel => exact ⟨_, _, _, _, rfl, rfl, rfl, rfl, J1.out, HW3.out⟩
            case measure => have := J2.out; have := I2.out; have := KH.out hk0; simp only [intOf]; omega
/-- The neighbours as the references hand them out. -/
def Nb3 (n d most : Int) (w : World) (e : Ending) (w' : World) : Prop := ∃ a b c f : Int, NbR n d most a b c f ∧ e = .returned (.tuple #[.agg #[.int .i64 a, .int .i64 b], .agg #[.int .i64 c, .int .i64 f], .bool true]) ∧ Below w.heap.size w w'
theorem mk_ok {n d : Int} (h : okR n d = true) : lowOk n d = true ∧ mkA n d = n ∧ mkB n d = d := by
  obtain ⟨o1, o2, o3, o4, o5⟩ := okR_true.1 h
  obtain ⟨e1, e2, e3⟩ := mk_cop o1 o5
  have i1 : inT n = true := inT_of o3 o4
  have i2 : inT d = true := inT_of (by omega) o2
  rw [e1, e2, e3, i1, i2]
  exact ⟨rfl, rfl, rfl⟩
theorem bel4 {w x : World} (h : Below w.heap.size w x) (a b c d : Value) : Below w.heap.size w ((((x.setCell ⟨w.heap.size + 1, 0, none⟩ a).setCell ⟨w.heap.size + 1, 1, none⟩ b).setCell ⟨w.heap.size + 1 + 1, 0, none⟩ c).setCell ⟨w.heap.size + 1 + 1, 1, none⟩ d) :=
  (((h.setCell (show w.heap.size ≤ w.heap.size + 1 by omega) _).setCell (show w.heap.size ≤ w.heap.size + 1 by omega) _).setCell (show w.heap.size ≤ w.heap.size + 1 + 1 by omega) _).setCell (show w.heap.size ≤ w.heap.size + 1 + 1 by omega) _
theorem two_box (w : World) (n d p q : Int) (T : TypeId) : Box2 ((w.alloc (.cells #[.int .i64 n, .int .i64 d] T)).alloc (.cells #[.int .i64 p, .int .i64 q] T)) w.heap.size n d ∧ Box2 ((w.alloc (.cells #[.int .i64 n, .int .i64 d] T)).alloc (.cells #[.int .i64 p, .int .i64 q] T)) (w.heap.size + 1) p q ∧ Below w.heap.size w ((w.alloc (.cells #[.int .i64 n, .int .i64 d] T)).alloc (.cells #[.int .i64 p, .int .i64 q] T)) := by
  refine ⟨(Box2.new w n d T).alloc _, ?_, bA (bA (bR _) _) _⟩
  have := Box2.new (w.alloc (.cells #[.int .i64 n, .int .i64 d] T)) p q T
  rwa [World.size_alloc] at this
set_option maxRecDepth 100000 in
set_option maxHeartbeats 8000000 in
theorem l03Neighbours_any (n d most : Int) (w : World) (hok : okR n d = true) (hm : 1 ≤ most) (hm2 : most ≤ 1000000000) :
    Calls Try.prog 52 #[.agg #[.int .i64 n, .int .i64 d], .int .i64 most] w (Nb3 n d most w) := by
  have HOK := Lib.hid hok
  obtain ⟨o1, o2, o3, o4, o5⟩ := okR_true.1 hok
  have e := Int.emod_add_mul_ediv n d
  have r0 := Int.emod_nonneg n (show d ≠ 0 by omega)
  have r1 := Int.emod_lt_of_pos n (show 0 < d by omega)
  have hg : Int.gcd (n % d) d = 1 := by rw [Int.gcd_comm, gcd_mod]; exact o5
  have HG := Lib.hid hg
  obtain ⟨q1, q2⟩ := div_lim o1 o3 o4
  obtain ⟨m1, m2⟩ := mul_bd (a := n / d) (b := d) q1 q2 (by omega) o2
  have hx : n - n / d * d = n % d := by rw [Int.mul_comm]; omega
  have HX := Lib.hid hx
  clear hok o5 hg e hx
  obtain ⟨t0, t1, t2, t3⟩ := three_box w n d 0 0 0 0 25
  have R0 := Lib.hid t0
  have R1 := Lib.hid t1
  have R2 := Lib.hid t2
  have L0 := Lib.hid t3
  clear t0 t1 t2 t3
  go_enter Try.func52, Try.ntmps52
  go_wp2_with fail
  refine (l02Down_any _ _ _ (by omega) (by omega) (by omega)).mono ?_
  rintro e w1 ⟨rfl, rfl⟩
  generalize ((w.alloc (.cells #[.int .i64 n, .int .i64 d] 25)).alloc (.cells #[.int .i64 0, .int .i64 0] 25)).alloc (.cells #[.int .i64 0, .int .i64 0] 25) = W0 at *
  obtain ⟨x0, x1, x2, x3, x4⟩ := R0.out
  go_wp2_with fail
  rw [HX.out]
  refine (l03Near_any (n % d) d most _ r0 r1 o2 hm hm2 HG.out).mono ?_
  rintro e w2 ⟨a, b, c, f, hnb, rfl, nn, rfl⟩
  have hsh := hnb.shift (k := n / d) (n := n) (by have := HX.out; omega)
  obtain ⟨k1, k2⟩ := hsh.ok HOK.out hm2
  obtain ⟨b1, b2, b3, b4⟩ := okR_bd k1
  obtain ⟨c1, c2, c3, c4⟩ := okR_bd k2
  obtain ⟨e1, e2, e3⟩ := mk_ok k1
  obtain ⟨f1, f2, f3⟩ := mk_ok k2
  have HNB := Lib.hid hsh
  have E1 := Lib.hid e1
  have E2 := Lib.hid e2
  have E3 := Lib.hid e3
  have F1 := Lib.hid f1
  have F2 := Lib.hid f2
  have F3 := Lib.hid f3
  obtain ⟨p1, p2⟩ := mul_bd (a := n / d) (b := b) q1 q2 (by omega) b2
  obtain ⟨p3, p4⟩ := mul_bd (a := n / d) (b := f) q1 q2 (by omega) c2
  have RR0 := Lib.hid (R1.out.drewN nn)
  have RR1 := Lib.hid (R2.out.drewN nn)
  have LL := Lib.hid (bD L0.out nn)
  clear hnb hsh k1 k2 e1 e2 e3 f1 f2 f3 x0 x1 x2 x3 x4
  generalize hW1 : W0.drewN nn = W1 at *
  clear hW1
  go_wp2_with fail
  refine (l02Make_any (n / d * b + a) b _ (by omega) (by omega) (by omega) (by omega) (by omega)).mono ?_
  rw [E1.out, E2.out, E3.out]
  rintro e w3 ⟨rfl, hb3⟩
  have S0 := Lib.hid (RR0.out.keep hb3)
  have S1 := Lib.hid (RR1.out.keep hb3)
  have SL := Lib.hid (bT LL.out hb3)
  clear hb3 RR0 RR1 LL
  go_wp2_with fail
  refine (l02Make_any (n / d * f + c) f _ (by omega) (by omega) (by omega) (by omega) (by omega)).mono ?_
  rw [F1.out, F2.out, F3.out]
  rintro e w4 ⟨rfl, hb4⟩
  have X0 := Lib.hid ((Box2.new w3 (n / d * b + a) b 25).keep hb4)
  have T0 := Lib.hid ((S0.out.alloc (.cells #[.int .i64 (n / d * b + a), .int .i64 b] 25)).keep hb4)
  have T1 := Lib.hid ((S1.out.alloc (.cells #[.int .i64 (n / d * b + a), .int .i64 b] 25)).keep hb4)
  have TL := Lib.hid (bT (bA SL.out (.cells #[.int .i64 (n / d * b + a), .int .i64 b] 25)) hb4)
  have hs2 := S1.out.lt
  clear hb4 S0 S1 SL
  have hs3 := X0.out.lt
  have g1 : ¬ w3.heap.size = w.heap.size + 1 := by omega
  have g2 : ¬ w3.heap.size = w.heap.size + 1 + 1 := by omega
  have g3 : ¬ w4.heap.size = w.heap.size + 1 := by omega
  have g4 : ¬ w4.heap.size = w.heap.size + 1 + 1 := by omega
  go_wp2_with fail
  have Y0 := Lib.hid (X0.out.alloc (.cells #[.int .i64 (n / d * f + c), .int .i64 f] 25))
  have Y1 := Lib.hid (Box2.new w4 (n / d * f + c) f 25)
  have U0 := Lib.hid (T0.out.alloc (.cells #[.int .i64 (n / d * f + c), .int .i64 f] 25))
  have U1 := Lib.hid (T1.out.alloc (.cells #[.int .i64 (n / d * f + c), .int .i64 f] 25))
  have UL := Lib.hid (bA TL.out (.cells #[.int .i64 (n / d * f + c), .int .i64 f] 25))
  generalize w4.alloc (.cells #[.int .i64 (n / d * f + c), .int .i64 f] 25) = W5 at *
  clear X0 T0 T1 TL
  obtain ⟨x0, x1, x2, x3, x4⟩ := Y0.out
  obtain ⟨y0, y1, y2, y3, y4⟩ := Y1.out
  obtain ⟨u0, u1, u2, u3, u4⟩ := U0.out
  obtain ⟨v0, v1, v2, v3, v4⟩ := U1.out
  go_region
  all_goals
    go_wp2_with fail
    refine bodyPost_ret (v := .tuple #[.agg #[.int .i64 (n / d * b + a), .int .i64 b], .agg #[.int .i64 (n / d * f + c), .int .i64 f], .bool true]) (by simp [results, Try.results52, go_sem, u0, u1, v0, v1]) rfl ⟨_, _, _, _, HNB.out, rfl, ?_⟩
    exact (bel4 UL.out _ _ _ _).drew
/-- What NeighboursOf returns. -/
def NoR (n d most a b c f k : Int) : Prop := (okR n d = false ∧ a = 0 ∧ b = 0 ∧ c = 0 ∧ f = 0 ∧ k = 1) ∨ (okR n d = true ∧ ¬ (1 ≤ most ∧ most ≤ 1000000000) ∧ a = 0 ∧ b = 0 ∧ c = 0 ∧ f = 0 ∧ k = 2) ∨ (okR n d = true ∧ 1 ≤ most ∧ most ≤ 1000000000 ∧ NbR n d most a b c f ∧ k = 0)
theorem NoR.unique {n d most a b c f k a' b' c' f' k' : Int} (h : NoR n d most a b c f k) (h' : NoR n d most a' b' c' f' k') : a = a' ∧ b = b' ∧ c = c' ∧ f = f' ∧ k = k' := by
  rcases h with ⟨h0, h1, h2, h3, h4, h5⟩ | ⟨h0, h0', h1, h2, h3, h4, h5⟩ | ⟨h0, h1, h2, h3, h4⟩ <;> rcases h' with ⟨g0, g1, g2, g3, g4, g5⟩ | ⟨g0, g0', g1, g2, g3, g4, g5⟩ | ⟨g0, g1, g2, g3, g4⟩
  all_goals first | (rw [h0] at g0; cases g0; done) | omega | skip
  obtain ⟨u1, u2, u3, u4⟩ := h3.unique (okR_bd h0).1 g3
  exact ⟨u1, u2, u3, u4, by omega⟩
def NoPost (n d most : Int) (w : World) (e : Ending) (w' : World) : Prop := ∃ a b c f k : Int, NoR n d most a b c f k ∧ e = .returned (.tuple #[.agg #[.int .i64 a, .int .i64 b], .agg #[.int .i64 c, .int .i64 f], .int .i64 k]) ∧ Below w.heap.size w w'
set_option maxRecDepth 100000 in
set_option maxHeartbeats 8000000 in
theorem NeighboursOfS_any (n d most : Int) (w : World) :
    Calls Try.prog 29 #[.agg #[.int .i64 n, .int .i64 d], .int .i64 most] w (NoPost n d most w) := by
  obtain ⟨t0, t1, t2, t3⟩ := three_box w n d 0 0 0 0 25
  have R0 := Lib.hid t0
  have R1 := Lib.hid t1
  have R2 := Lib.hid t2
  have L0 := Lib.hid t3
  clear t0 t1 t2 t3
  have hne : ¬ w.heap.size + 1 + 1 = w.heap.size + 1 := by omega
  cases hok : okR n d
  · have HOK := Lib.hid hok
    clear hok
    go_enter Try.func29, Try.ntmps29
    go_wp2_with fail
    generalize ((w.alloc (.cells #[.int .i64 n, .int .i64 d] 25)).alloc (.cells #[.int .i64 0, .int .i64 0] 25)).alloc (.cells #[.int .i64 0, .int .i64 0] 25) = W0 at *
    refine (l02Ok_any _ _ _).mono ?_
    rw [HOK.out]
    rintro e w1 ⟨rfl, hb1⟩
    obtain ⟨u0, u1, u2, u3, u4⟩ := R1.out.keep hb1
    obtain ⟨v0, v1, v2, v3, v4⟩ := R2.out.keep hb1
    have L1 := Lib.hid (bT L0.out hb1)
    clear hb1
    go_wp2_with fail
    refine bodyPost_ret (v := .tuple #[.agg #[.int .i64 0, .int .i64 0], .agg #[.int .i64 0, .int .i64 0], .int .i64 1]) (by simp [results, Try.results29, go_sem, u0, u1, v0, v1]) rfl ⟨0, 0, 0, 0, 1, .inl ⟨HOK.out, rfl, rfl, rfl, rfl, rfl⟩, rfl, ?_⟩
    exact bel4 L1.out _ _ _ _
  · have HOK := Lib.hid hok
    clear hok
    by_cases hm : 1 ≤ most ∧ most ≤ 1000000000
    · obtain ⟨hm1, hm2⟩ := hm
      have HB := Lib.hid (show inB most 1 1000000000 = true from inB_true.2 ⟨hm1, hm2⟩)
      go_enter Try.func29, Try.ntmps29
      go_wp2_with fail
      generalize ((w.alloc (.cells #[.int .i64 n, .int .i64 d] 25)).alloc (.cells #[.int .i64 0, .int .i64 0] 25)).alloc (.cells #[.int .i64 0, .int .i64 0] 25) = W0 at *
      refine (l02Ok_any _ _ _).mono ?_
      rw [HOK.out]
      rintro e w1 ⟨rfl, hb1⟩
      have S0 := Lib.hid (R0.out.keep hb1)
      have S1 := Lib.hid (R1.out.keep hb1)
      have S2 := Lib.hid (R2.out.keep hb1)
      have L1 := Lib.hid (bT L0.out hb1)
      clear hb1 R0 R1 R2 L0
      go_wp2_with fail
      refine (l00In_any _ _ _ _).mono ?_
      rw [HB.out]
      rintro e w2 ⟨rfl, rfl⟩
      obtain ⟨x0, x1, x2, x3, x4⟩ := S0.out
      go_wp2_with fail
      refine (l03Neighbours_any n d most _ HOK.out hm1 hm2).mono ?_
      rintro e w3 ⟨a, b, c, f, hnb, rfl, hb3⟩
      have HN := Lib.hid hnb
      have T1 := Lib.hid (S1.out.keep hb3)
      have T2 := Lib.hid (S2.out.keep hb3)
      have L3 := Lib.hid (bT L1.out hb3)
      have hs2 := T2.out.lt
      clear hb3 S0 S1 S2 L1 x0 x1 x2 x3 x4 hnb
      go_wp2_with fail
      obtain ⟨X0, X1, XL⟩ := two_box w3 a b c f 25
      obtain ⟨u0, u1, u2, u3, u4⟩ := (T1.out.keep XL)
      obtain ⟨v0, v1, v2, v3, v4⟩ := (T2.out.keep XL)
      have UL := Lib.hid (bT L3.out XL)
      obtain ⟨x0, x1, x2, x3, x4⟩ := X0
      obtain ⟨y0, y1, y2, y3, y4⟩ := X1
      clear XL T1 T2 L3
      have g1 : ¬ w3.heap.size = w.heap.size + 1 := by omega
      have g2 : ¬ w3.heap.size = w.heap.size + 1 + 1 := by omega
      have g3 : ¬ w3.heap.size + 1 = w.heap.size + 1 := by omega
      have g4 : ¬ w3.heap.size + 1 = w.heap.size + 1 + 1 := by omega
      generalize (w3.alloc (.cells #[.int .i64 a, .int .i64 b] 25)).alloc (.cells #[.int .i64 c, .int .i64 f] 25) = W5 at *
      go_region
      all_goals
        go_wp2_with fail
        refine bodyPost_ret (v := .tuple #[.agg #[.int .i64 a, .int .i64 b], .agg #[.int .i64 c, .int .i64 f], .int .i64 0]) (by simp [results, Try.results29, go_sem, u0, u1, v0, v1]) rfl ⟨_, _, _, _, _, .inr (.inr ⟨HOK.out, hm1, hm2, HN.out, rfl⟩), rfl, (bel4 UL.out _ _ _ _).drew⟩
    · have HB := Lib.hid (show inB most 1 1000000000 = false from inB_false.2 hm)
      have HM := Lib.hid hm
      clear hm
      go_enter Try.func29, Try.ntmps29
      go_wp2_with fail
      generalize ((w.alloc (.cells #[.int .i64 n, .int .i64 d] 25)).alloc (.cells #[.int .i64 0, .int .i64 0] 25)).alloc (.cells #[.int .i64 0, .int .i64 0] 25) = W0 at *
      refine (l02Ok_any _ _ _).mono ?_
      rw [HOK.out]
      rintro e w1 ⟨rfl, hb1⟩
      obtain ⟨u0, u1, u2, u3, u4⟩ := R1.out.keep hb1
      obtain ⟨v0, v1, v2, v3, v4⟩ := R2.out.keep hb1
      have L1 := Lib.hid (bT L0.out hb1)
      clear hb1
      go_wp2_with fail
      refine (l00In_any _ _ _ _).mono ?_
      rw [HB.out]
      rintro e w2 ⟨rfl, rfl⟩
      go_wp2_with fail
      refine bodyPost_ret (v := .tuple #[.agg #[.int .i64 0, .int .i64 0], .agg #[.int .i64 0, .int .i64 0], .int .i64 2]) (by simp [results, Try.results29, go_sem, u0, u1, v0, v1]) rfl ⟨0, 0, 0, 0, 2, .inr (.inl ⟨HOK.out, HM.out, rfl, rfl, rfl, rfl, rfl⟩), rfl, ?_⟩
      exact bel4 L1.out _ _ _ _
end Go.Proofs.Ythnfkkfonabhkaa

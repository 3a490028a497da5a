/-
  The contracts of spec.l03Wide, spec.l03Closer, spec.BestWithin.
-/
import Derived.Test.YthnfkkfonabhkaaNearS
import Derived.Laws.BitsLemmas
namespace Go.Proofs.Ythnfkkfonabhkaa
open Go.RowKit

theorem wraps62 (n : Int) (h0 : 0 ≤ n) (h1 : n < 2 ^ 62) : IntKind.i64.wrap n = n := by rw [IntKind.wrap_i64]; omega
theorem and31 {a : Int} (h1 : 0 ≤ a) (h2 : a < 2147483648) : bits .and .i64 a 2147483647 = a := by
  have := bits_mask .i64 62 (by decide) wraps62 31 (by decide) a h1 (by omega)
  have e : (2147483647 : Int) = 2 ^ 31 - 1 := by decide
  rw [e, this]
  omega
theorem or31 {a : Int} (h1 : 0 ≤ a) (h2 : a < 2147483648) : bits .or .i64 0 a = a := by
  have := bits_join .i64 62 (by decide) wraps62 31 0 a (by decide) (by decide) (by decide) h1 (by omega) (by omega)
  rw [this]; omega
theorem l03Wide_small (a b : Int) (w : World) (h1 : 0 ≤ a) (h2 : 0 ≤ b) (h3 : a ≤ 1000000000) (h4 : b ≤ 1000000000) (h5 : a * b ≤ 1000000000) :
    Calls Try.prog 76 #[.int .i64 a, .int .i64 b] w fun e w' => e = .returned (.tuple #[.int .i64 0, .int .i64 (a * b)]) ∧ w = w' := by
  have h6 := Int.mul_nonneg h1 h2
  have qa := and31 h1 (by omega)
  have qb := and31 h2 (by omega)
  have qx := and31 h6 (by omega)
  have qo := or31 h6 (by omega)
  have q0 : bits .and .i64 0 2147483647 = 0 := and31 (by omega) (by omega)
  have da : a / 2147483648 = 0 := by omega
  have db : b / 2147483648 = 0 := by omega
  have dx : a * b / 2147483648 = 0 := by omega
  go_enter Try.func76, Try.ntmps76
  go_wp2_with fail
  go_ret2
  exact ⟨rfl, rfl⟩
/-- The distances of both neighbours, multiplied by all three denominators. -/
def dX (n d a b f : Int) : Int := (n * b - a * d) * f
def dY (n d c f b : Int) : Int := (c * d - n * f) * b
def clo (n d a b c f : Int) : Bool := decide (dY n d c f b < dX n d a b f) || (decide (dX n d a b f = dY n d c f b) && decide (f < b))
structure DiB (n d a b c f : Int) : Prop where
  x0 : 0 ≤ n * b - a * d
  x1 : n * b - a * d ≤ 1000000000
  y0 : 0 ≤ c * d - n * f
  y1 : c * d - n * f ≤ 1000000000
  p1 : (n * b - a * d) * f ≤ 1000000000
  p2 : (c * d - n * f) * b ≤ 1000000000
  b1 : 1 ≤ b
  b2 : b ≤ 1000000000
  f1 : 1 ≤ f
  f2 : f ≤ 1000000000
theorem one_le {x y z : Int} (h1 : 1 ≤ y) (h : x * y ≤ z) (h0 : 0 ≤ x) : x ≤ z := by
  have := Int.mul_le_mul_of_nonneg_left h1 h0
  omega
theorem NbR.di {n d m a b c f : Int} (hok : okR n d = true) (hm : m ≤ 1000000000) (h : NbR n d m a b c f) : DiB n d a b c f := by
  obtain ⟨k1, k2⟩ := h.ok hok hm
  obtain ⟨b1, b2, b3, b4⟩ := okR_bd k1
  obtain ⟨c1, c2, c3, c4⟩ := okR_bd k2
  obtain ⟨o1, o2, o3, o4⟩ := okR_bd hok
  rcases h with ⟨h0, e1, e2, e3, e4⟩ | h
  · have z1 : n * b - a * d = 0 := by rw [e1, e2]; omega
    have z2 : c * d - n * f = 0 := by rw [e3, e4]; omega
    exact ⟨by omega, by omega, by omega, by omega, by rw [z1]; omega, by rw [z2]; omega, b1, b2, c1, c2⟩
  · obtain ⟨d1, d2, d3, d4⟩ := h.dist
    have e1 := one_le c1 (show (n * b - a * d) * f ≤ 1000000000 by omega) (by omega)
    have e2 := one_le b1 (show (c * d - n * f) * b ≤ 1000000000 by omega) (by omega)
    exact ⟨by omega, e1, by omega, e2, by omega, by omega, b1, b2, c1, c2⟩
theorem mul4 {n d a b : Int} (hn : okR n d = true) (ha : okR a b = true) : -1000000000000000000 ≤ n * b ∧ n * b ≤ 1000000000000000000 ∧ -1000000000000000000 ≤ a * d ∧ a * d ≤ 1000000000000000000 := by
  obtain ⟨o1, o2, o3, o4⟩ := okR_bd hn
  obtain ⟨p1, p2, p3, p4⟩ := okR_bd ha
  obtain ⟨m1, m2⟩ := mul_bd (a := n) (b := b) o3 o4 (by omega) p2
  obtain ⟨m3, m4⟩ := mul_bd (a := a) (b := d) p3 p4 (by omega) o2
  exact ⟨m1, m2, m3, m4⟩
def BoolB (b : Bool) (w : World) (e : Ending) (w' : World) : Prop := e = .returned (.bool b) ∧ Below w.heap.size w w'
/-- How the distances stand. -/
theorem clo_ways (n d a b c f : Int) : (dY n d c f b < dX n d a b f ∧ clo n d a b c f = true) ∨ (dX n d a b f < dY n d c f b ∧ clo n d a b c f = false) ∨ (dX n d a b f = dY n d c f b ∧ f < b ∧ clo n d a b c f = true) ∨ (dX n d a b f = dY n d c f b ∧ ¬ f < b ∧ clo n d a b c f = false) := by
  unfold clo
  by_cases h1 : dY n d c f b < dX n d a b f
  · left; simp [h1]
  · by_cases h2 : dX n d a b f = dY n d c f b
    · by_cases h3 : f < b
      · right; right; left; simp [h2, h3]
      · right; right; right; simp [h2, h3]
    · right; left; simp [h1, h2]; omega
set_option maxRecDepth 100000 in
set_option maxHeartbeats 8000000 in
theorem l03Closer_any (n d a b c f : Int) (w : World) (hd : DiB n d a b c f) (h1 : okR n d = true) (h2 : okR a b = true) (h3 : okR c f = true) :
    Calls Try.prog 54 #[.agg #[.int .i64 n, .int .i64 d], .agg #[.int .i64 a, .int .i64 b], .agg #[.int .i64 c, .int .i64 f]] w (BoolB (clo n d a b c f) w) := by
  obtain ⟨m1, m2, m3, m4⟩ := mul4 h1 h2
  obtain ⟨m5, m6, m7, m8⟩ := mul4 h1 h3
  obtain ⟨x0, x1, y0, y1, p1, p2, b1, b2, f1, f2⟩ := hd
  obtain ⟨t0, t1, t2, t3⟩ := three_box w n d a b c f 25
  have R0 := Lib.hid t0
  have R1 := Lib.hid t1
  have R2 := Lib.hid t2
  have L0 := Lib.hid t3
  clear t0 t1 t2 t3 h1 h2 h3
  have HX := Lib.hid (show dX n d a b f = (n * b - a * d) * f from rfl)
  have HY := Lib.hid (show dY n d c f b = (c * d - n * f) * b from rfl)
  have q0 : 0 ≤ (n * b - a * d) * f := Int.mul_nonneg x0 (by omega)
  have q1 : 0 ≤ (c * d - n * f) * b := Int.mul_nonneg y0 (by omega)
  go_enter Try.func54, Try.ntmps54
  go_wp2_with fail
  refine (l03Wide_small _ _ _ x0 (by omega) x1 f2 p1).mono ?_
  rintro e w1 ⟨rfl, rfl⟩
  generalize ((w.alloc (.cells #[.int .i64 n, .int .i64 d] 25)).alloc (.cells #[.int .i64 a, .int .i64 b] 25)).alloc (.cells #[.int .i64 c, .int .i64 f] 25) = W0 at *
  obtain ⟨u0, u1, u2, u3, u4⟩ := R1.out
  obtain ⟨v0, v1, v2, v3, v4⟩ := R2.out
  go_wp2_with fail
  refine (l03Wide_small _ _ _ y0 (by omega) y1 b2 p2).mono ?_
  rintro e w2 ⟨rfl, rfl⟩
  rw [← HX.out, ← HY.out]
  rcases clo_ways n d a b c f with ⟨k1, k2⟩ | ⟨k1, k2⟩ | ⟨k1, k3, k2⟩ | ⟨k1, k3, k2⟩
  · have HK := Lib.hid k2
    clear k2
    generalize dX n d a b f = X at *
    generalize dY n d c f b = Y at *
    go_wp2_with fail
    go_ret
    exact ⟨ret_bool HK.out.symm, L0.out⟩
  · have HK := Lib.hid k2
    clear k2
    generalize dX n d a b f = X at *
    generalize dY n d c f b = Y at *
    have g1 : (X == Y) = false := by simp; omega
    have g2 : ¬ Y < X := by omega
    go_wp2_with fail
    go_ret
    exact ⟨ret_bool HK.out.symm, L0.out⟩
  · have HK := Lib.hid k2
    clear k2
    generalize dX n d a b f = X at *
    generalize dY n d c f b = Y at *
    subst k1
    go_wp2_with fail
    go_ret
    exact ⟨ret_bool HK.out.symm, L0.out⟩
  · have HK := Lib.hid k2
    clear k2
    generalize dX n d a b f = X at *
    generalize dY n d c f b = Y at *
    subst k1
    go_wp2_with fail
    go_ret
    exact ⟨ret_bool (by rw [HK.out]; simpa using k3), L0.out⟩
/-- What BestWithin returns, out of the neighbours. -/
def bwA (n d a b c f k : Int) : Int := if k = 0 then (if clo n d a b c f then c else a) else 0
def bwB (n d a b c f k : Int) : Int := if k = 0 then (if clo n d a b c f then f else b) else 0
theorem bw_no {n d a b c f k : Int} (h : ¬ k = 0) : bwA n d a b c f k = 0 ∧ bwB n d a b c f k = 0 := by simp [bwA, bwB, h]
theorem bw_hi {n d a b c f : Int} (h : clo n d a b c f = true) : bwA n d a b c f 0 = c ∧ bwB n d a b c f 0 = f := by simp [bwA, bwB, h]
theorem bw_lo {n d a b c f : Int} (h : clo n d a b c f = false) : bwA n d a b c f 0 = a ∧ bwB n d a b c f 0 = b := by simp [bwA, bwB, h]
def BwPost (n d most : Int) (w : World) (e : Ending) (w' : World) : Prop := ∃ a b c f k : Int, NoR n d most a b c f k ∧ e = .returned (.tuple #[.agg #[.int .i64 (bwA n d a b c f k), .int .i64 (bwB n d a b c f k)], .int .i64 k]) ∧ Below w.heap.size w w'
theorem NoR.code {n d most a b c f k : Int} (h : NoR n d most a b c f k) : (¬ k = 0) ∨ (k = 0 ∧ okR n d = true ∧ most ≤ 1000000000 ∧ NbR n d most a b c f) := by
  rcases h with ⟨_, _, _, _, _, h5⟩ | ⟨_, _, _, _, _, _, h5⟩ | ⟨h0, _, h2, h3, h4⟩
  · left; omega
  · left; omega
  · right; exact ⟨h4, h0, h2, h3⟩
theorem bel2 {w x : World} (h : Below w.heap.size w x) (a b : Value) : Below w.heap.size w ((x.setCell ⟨w.heap.size + 1, 0, none⟩ a).setCell ⟨w.heap.size + 1, 1, none⟩ b) :=
  (h.setCell (show w.heap.size ≤ w.heap.size + 1 by omega) _).setCell (show w.heap.size ≤ w.heap.size + 1 by omega) _
set_option maxRecDepth 100000 in
set_option maxHeartbeats 8000000 in
theorem BestWithinS_any (n d most : Int) (w : World) :
    Calls Try.prog 32 #[.agg #[.int .i64 n, .int .i64 d], .int .i64 most] w (BwPost n d most w) := by
  obtain ⟨t0, t1, t2⟩ := two_box w n d 0 0 25
  have R0 := Lib.hid t0
  have R1 := Lib.hid t1
  have L0 := Lib.hid t2
  clear t0 t1 t2
  go_enter Try.func32, Try.ntmps32
  go_wp2_with fail
  generalize (w.alloc (.cells #[.int .i64 n, .int .i64 d] 25)).alloc (.cells #[.int .i64 0, .int .i64 0] 25) = W0 at *
  refine (NeighboursOfS_any n d most _).mono ?_
  rintro e w1 ⟨a, b, c, f, k, hn, rfl, hb1⟩
  have HN := Lib.hid hn
  have S0 := Lib.hid (R0.out.keep hb1)
  have S1 := Lib.hid (R1.out.keep hb1)
  have L1 := Lib.hid (bT L0.out hb1)
  obtain ⟨X0, X1, XL⟩ := two_box w1 a b c f 25
  have T0 := Lib.hid (S0.out.keep XL)
  have T1 := Lib.hid (S1.out.keep XL)
  have L2 := Lib.hid (bT L1.out XL)
  have E0 := Lib.hid X0
  have E1 := Lib.hid X1
  have hs1 := S1.out.lt
  clear hb1 X0 X1 XL R0 R1 L0
  have hc := hn.code
  clear hn
  obtain ⟨x0, x1, x2, x3, x4⟩ := S0.out
  obtain ⟨u0, u1, u2, u3, u4⟩ := S1.out
  rcases hc with hk | ⟨rfl, hok, hm, hnb⟩
  · obtain ⟨p1, p2⟩ := bw_no (n := n) (d := d) (a := a) (b := b) (c := c) (f := f) hk
    have P1 := Lib.hid p1
    have P2 := Lib.hid p2
    have hz : (k != 0) = true := by simpa using hk
    clear hk p1 p2
    go_wp2_with fail
    have e0 := (((S1.out.set 0 0).alloc (.cells #[.int .i64 a, .int .i64 b] 25)).alloc (.cells #[.int .i64 c, .int .i64 f] 25)).c0
    have e1 := (((S1.out.set 0 0).alloc (.cells #[.int .i64 a, .int .i64 b] 25)).alloc (.cells #[.int .i64 c, .int .i64 f] 25)).c1
    refine bodyPost_ret (v := .tuple #[.agg #[.int .i64 0, .int .i64 0], .int .i64 k]) (by simp [results, Try.results32, go_sem, e0, e1]) rfl ⟨a, b, c, f, k, HN.out, by rw [P1.out, P2.out], bA (bA (bel2 L1.out _ _) _) _⟩
  · obtain ⟨k1, k2⟩ := hnb.ok hok hm
    have hdi := hnb.di hok hm
    have HC := Lib.hid (fun (W : World) => l03Closer_any n d a b c f W hdi hok k1 k2)
    clear hnb hdi k1 k2 hok
    cases hcl : clo n d a b c f
    all_goals
      have HL := Lib.hid hcl
      clear hcl
      go_wp2_with fail
      generalize (w1.alloc (.cells #[.int .i64 a, .int .i64 b] 25)).alloc (.cells #[.int .i64 c, .int .i64 f] 25) = W2 at *
      refine (HC.out _).mono ?_
      rw [HL.out]
      rintro e w3 ⟨rfl, hb3⟩
      have F2 := Lib.hid (bT L2.out hb3)
      have g1 : ¬ w1.heap.size = w.heap.size + 1 := by omega
      have g2 : ¬ w1.heap.size + 1 = w.heap.size + 1 := by omega
      clear x0 x1 x2 x3 x4 u0 u1 u2 u3
      obtain ⟨u0, u1, u2, u3, u5⟩ := T1.out.keep hb3
      obtain ⟨y0, y1, y2, y3, y4⟩ := E0.out.keep hb3
      obtain ⟨z0, z1, z2, z3, z4⟩ := E1.out.keep hb3
      clear hb3
      go_wp2_with fail
    · obtain ⟨p1, p2⟩ := bw_lo HL.out
      refine bodyPost_ret (v := .tuple #[.agg #[.int .i64 a, .int .i64 b], .int .i64 0]) (by simp [results, Try.results32, go_sem, u0, u1]) rfl ⟨a, b, c, f, 0, HN.out, by rw [p1, p2], bel2 F2.out _ _⟩
    · obtain ⟨p1, p2⟩ := bw_hi HL.out
      refine bodyPost_ret (v := .tuple #[.agg #[.int .i64 c, .int .i64 f], .int .i64 0]) (by simp [results, Try.results32, go_sem, u0, u1]) rfl ⟨a, b, c, f, 0, HN.out, by rw [p1, p2], bel2 F2.out _ _⟩
end Go.Proofs.Ythnfkkfonabhkaa

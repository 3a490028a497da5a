/-
  The point at given distances from two points: the plain words and what they keep to.
-/
import Derived.Test.YtclefibjmnabbaaPlM
import Derived.Test.YtclefibjmnabbaaNear
namespace Go.Proofs.Ytclefibjmnabbaa
open Go.RowKit

theorem d2_zero {a b c d : Int} : d2 a b c d = 0 ↔ a = c ∧ b = d := by
  unfold d2
  constructor
  · intro h
    have p := (sq_bd (x := a - c) (m := (a-c).natAbs) (by omega) (by omega)).1
    have q := (sq_bd (x := b - d) (m := (b-d).natAbs) (by omega) (by omega)).1
    have e1 : (a - c) * (a - c) = 0 := by omega
    have e2 : (b - d) * (b - d) = 0 := by omega
    have := Int.mul_eq_zero.1 e1
    have := Int.mul_eq_zero.1 e2
    omega
  · rintro ⟨rfl, rfl⟩; simp
theorem mul_bdd {x y m k : Int} (h0 : -m ≤ x) (h1 : x ≤ m) (h2 : -k ≤ y) (h3 : y ≤ k) : -(m * k) ≤ x * y ∧ x * y ≤ m * k := by
  have hm : 0 ≤ m := by omega
  have hk : 0 ≤ k := by omega
  have a : x.natAbs * y.natAbs ≤ m.natAbs * k.natAbs := Nat.mul_le_mul (by omega) (by omega)
  rw [← Int.natAbs_mul, ← Int.natAbs_mul] at a
  have : 0 ≤ m * k := Int.mul_nonneg hm hk
  generalize x * y = p at *
  generalize m * k = q at *
  omega
def tpA (ra rb d : Int) : Int := ra * ra - rb * rb + d
def tpS (ra rb d : Int) : Int := 4 * d * ra * ra - tpA ra rb d * tpA ra rb d
theorem tp_bd {ra rb d : Int} (h1 : 0 ≤ ra ∧ ra ≤ 10000) (h2 : 0 ≤ rb ∧ rb ≤ 10000) (h3 : 0 ≤ d ∧ d ≤ 200000000) :
    (0 ≤ ra * ra ∧ ra * ra ≤ 100000000) ∧ (0 ≤ rb * rb ∧ rb * rb ≤ 100000000) ∧ (-100000000 ≤ tpA ra rb d ∧ tpA ra rb d ≤ 300000000) ∧ (0 ≤ 4 * d * ra ∧ 4 * d * ra ≤ 8000000000000) ∧ (0 ≤ 4 * d * ra * ra ∧ 4 * d * ra * ra ≤ 80000000000000000) ∧ (0 ≤ tpA ra rb d * tpA ra rb d ∧ tpA ra rb d * tpA ra rb d ≤ 90000000000000000) ∧ tpS ra rb d ≤ 80000000000000000 := by
  have p := sq_bd (x := ra) (m := 10000) (by omega) (by omega)
  have q := sq_bd (x := rb) (m := 10000) (by omega) (by omega)
  have a : -100000000 ≤ tpA ra rb d ∧ tpA ra rb d ≤ 300000000 := by unfold tpA; omega
  have c := mul_bdd (x := 4 * d) (y := ra) (m := 800000000) (k := 10000) (by omega) (by omega) (by omega) (by omega)
  have c0 : 0 ≤ 4 * d * ra := Int.mul_nonneg (by omega) (by omega)
  have e := mul_bdd (x := 4 * d * ra) (y := ra) (m := 8000000000000) (k := 10000) (by omega) (by omega) (by omega) (by omega)
  have e0 : 0 ≤ 4 * d * ra * ra := Int.mul_nonneg (by omega) (by omega)
  have f := sq_bd (x := tpA ra rb d) (m := 300000000) (by omega) (by omega)
  refine ⟨by omega, by omega, a, by omega, by omega, by omega, ?_⟩
  unfold tpS
  omega
theorem near_err {n d : Int} (hd : 1 ≤ d) : -d ≤ d * 2 * near n d - 2 * n ∧ d * 2 * near n d - 2 * n ≤ d := by
  have e := Int.mul_ediv_add_emod (2 * n + d) (2 * d)
  have r0 := Int.emod_nonneg (2 * n + d) (show 2 * d ≠ 0 by omega)
  have r1 := Int.emod_lt_of_pos (2 * n + d) (show 0 < 2 * d by omega)
  unfold near
  rw [show d * 2 * ((2 * n + d) / (2 * d)) = 2 * d * ((2 * n + d) / (2 * d)) by grind]
  omega
def tpN (dx dy A R : Int) : Int := A * dx - R * dy
def tpM (dx dy A R : Int) : Int := A * dy + R * dx
theorem sq_nn (x : Int) : 0 ≤ x * x := by
  rcases Int.le_total 0 x with h | h
  · exact Int.mul_nonneg h h
  · rw [show x * x = (-x) * (-x) by rw [Int.neg_mul_neg]]
    exact Int.mul_nonneg (by omega) (by omega)
/-- The square of a sum of products. -/
theorem cauchy (a b c d : Int) : (a * c + b * d) * (a * c + b * d) ≤ (a * a + b * b) * (c * c + d * d) := by
  have h := sq_nn (a * d - b * c)
  have e : (a * a + b * b) * (c * c + d * d) = (a * c + b * d) * (a * c + b * d) + (a * d - b * c) * (a * d - b * c) := by grind
  omega
theorem abs_of_sq {x m : Int} (hm : 0 ≤ m) (h : x * x ≤ m * m) : -m ≤ x ∧ x ≤ m := by
  constructor
  · have : -x < m + 1 := sq_lt (by omega) (by
      have e : (m + 1) * (m + 1) = m * m + 2 * m + 1 := by grind
      rw [Int.neg_mul_neg]; omega)
    omega
  · have : x < m + 1 := sq_lt (by omega) (by
      have e : (m + 1) * (m + 1) = m * m + 2 * m + 1 := by grind
      omega)
    omega
/-- The third point keeps its distance up to rounding. -/
theorem tp_dist {dx dy ra A R S X Y d : Int} (hd : d = dx * dx + dy * dy) (h1 : 1 ≤ d) (hr : 0 ≤ ra) (hS : S = 4 * d * ra * ra - A * A) (hR : R * R ≤ S) (hR2 : S ≤ R * R + 2 * (R.natAbs : Int))
    (e1 : -d ≤ 2 * d * X - (A * dx - R * dy) ∧ 2 * d * X - (A * dx - R * dy) ≤ d) (e2 : -d ≤ 2 * d * Y - (A * dy + R * dx) ∧ 2 * d * Y - (A * dy + R * dx) ≤ d) :
    -(3 * ra + 3) ≤ X * X + Y * Y - ra * ra ∧ X * X + Y * Y - ra * ra ≤ 3 * ra + 3 := by
  generalize hN : A * dx - R * dy = N at *
  generalize hM : A * dy + R * dx = M at *
  generalize he : 2 * d * X - N = e at *
  generalize hf : 2 * d * Y - M = f at *
  have nm : N * N + M * M = d * (A * A + R * R) := by rw [← hN, ← hM, hd]; grind
  have ee := sq_bd e1.1 e1.2
  have ff := sq_bd e2.1 e2.2
  -- the root
  have hdra : 0 ≤ d * ra := Int.mul_nonneg (by omega) hr
  have hdd : 0 ≤ d * d := sq_nn d
  have hddra : 0 ≤ d * d * ra := Int.mul_nonneg hdd hr
  have rr : R * R ≤ (2 * (d * ra)) * (2 * (d * ra)) := by
    have k1 : 0 ≤ ra * ra := sq_nn ra
    have k2 : 0 ≤ A * A := sq_nn A
    have k3 : 0 ≤ (d * (d - 1)) * (ra * ra) := Int.mul_nonneg (Int.mul_nonneg (by omega) (by omega)) k1
    have k4 : (2 * (d * ra)) * (2 * (d * ra)) = 4 * d * ra * ra + 4 * ((d * (d - 1)) * (ra * ra)) := by grind
    omega
  have rb := abs_of_sq (by omega) rr
  have hRn : (R.natAbs : Int) ≤ 2 * (d * ra) := by omega
  -- what is missing to the square
  generalize ht : S - R * R = t at *
  have t0 : 0 ≤ t := by omega
  have t1 : t ≤ 4 * (d * ra) := by omega
  have dt0 : 0 ≤ d * t := Int.mul_nonneg (by omega) t0
  have dt1 : d * t ≤ 4 * (d * d * ra) := by
    have := Int.mul_le_mul_of_nonneg_left t1 (show 0 ≤ d by omega)
    have e : d * (4 * (d * ra)) = 4 * (d * d * ra) := by grind
    omega
  have nm2 : N * N + M * M = 4 * (d * ra) * (d * ra) - d * t := by
    rw [nm, ← ht, hS]; grind
  have cs := cauchy N M e f
  have bnd : (N * e + M * f) * (N * e + M * f) ≤ (3 * (d * d * ra)) * (3 * (d * d * ra)) := by
    have k1 : 0 ≤ N * N + M * M := by have := sq_nn N; have := sq_nn M; omega
    have k2 : N * N + M * M ≤ 4 * (d * ra) * (d * ra) := by omega
    have k3 : e * e + f * f ≤ 2 * (d * d) := by omega
    have k4 : 0 ≤ e * e + f * f := by omega
    have k5 : (N * N + M * M) * (e * e + f * f) ≤ (4 * (d * ra) * (d * ra)) * (2 * (d * d)) := Int.mul_le_mul k2 k3 k4 (by omega)
    have k6 : (3 * (d * d * ra)) * (3 * (d * d * ra)) = (4 * (d * ra) * (d * ra)) * (2 * (d * d)) + (d * d * ra) * (d * d * ra) := by grind
    have := sq_nn (d * d * ra)
    omega
  have ab := abs_of_sq (by omega) bnd
  -- the sum
  have tot : 4 * (d * d) * (X * X + Y * Y - ra * ra) = 2 * (N * e + M * f) + (e * e + f * f) - d * t := by
    have x1 : 2 * d * X = N + e := by omega
    have y1 : 2 * d * Y = M + f := by omega
    have x2 : (2 * d * X) * (2 * d * X) = (N + e) * (N + e) := by rw [x1]
    have y2 : (2 * d * Y) * (2 * d * Y) = (M + f) * (M + f) := by rw [y1]
    grind
  have pd : 1 ≤ d * d := by have := Int.mul_le_mul h1 h1 (by omega) (by omega : (0:Int) ≤ d); omega
  generalize X * X + Y * Y - ra * ra = q at *
  have up : 4 * (d * d) * q ≤ 4 * (d * d) * (3 * ra + 3) := by
    have e : 4 * (d * d) * (3 * ra + 3) = 12 * (d * d * ra) + 12 * (d * d) := by grind
    omega
  have dn : 4 * (d * d) * (-(3 * ra + 3)) ≤ 4 * (d * d) * q := by
    have e : 4 * (d * d) * (-(3 * ra + 3)) = -(12 * (d * d * ra) + 12 * (d * d)) := by grind
    omega
  exact ⟨Int.le_of_mul_le_mul_left dn (by omega), Int.le_of_mul_le_mul_left up (by omega)⟩
/-- The third point lies on its side, or at the line. -/
theorem tp_side {dx dy A R X Y d : Int} (hd : d = dx * dx + dy * dy) (h1 : 1 ≤ d) (hR : 0 ≤ R)
    (e1 : -d ≤ 2 * d * X - (A * dx - R * dy) ∧ 2 * d * X - (A * dx - R * dy) ≤ d) (e2 : -d ≤ 2 * d * Y - (A * dy + R * dx) ∧ 2 * d * Y - (A * dy + R * dx) ≤ d) :
    0 ≤ dx * Y - dy * X ∨ (dx * Y - dy * X) * (dx * Y - dy * X) ≤ 2 * d := by
  generalize hN : A * dx - R * dy = N at *
  generalize hM : A * dy + R * dx = M at *
  generalize he : 2 * d * X - N = e at *
  generalize hf : 2 * d * Y - M = f at *
  have ee := sq_bd e1.1 e1.2
  have ff := sq_bd e2.1 e2.2
  have key : 2 * d * (dx * Y - dy * X) = R * d + (dx * f - dy * e) := by
    have x1 : 2 * d * X = N + e := by omega
    have y1 : 2 * d * Y = M + f := by omega
    have : 2 * d * (dx * Y - dy * X) = dx * (2 * d * Y) - dy * (2 * d * X) := by grind
    rw [this, x1, y1, ← hN, ← hM, hd]; grind
  generalize dx * Y - dy * X = s at *
  rcases Int.lt_or_le s 0 with hs | hs
  · right
    have cs := cauchy dx dy f (-e)
    have rd : 0 ≤ R * d := Int.mul_nonneg hR (by omega)
    have q0 : dx * f - dy * e = dx * f + dy * -e := by grind
    have s0 : 0 < 2 * d * -s := Int.mul_pos (by omega) (by omega)
    have s1 : 2 * d * -s = -(2 * d * s) := by grind
    have m1 : 2 * d * -s ≤ -(dx * f - dy * e) := by omega
    have m2 := sq_mono (by omega) m1
    rw [Int.neg_mul_neg, q0] at m2
    have m3 : (dx * dx + dy * dy) * (f * f + -e * -e) ≤ d * (2 * (d * d)) := by
      rw [← hd, Int.neg_mul_neg]
      exact Int.mul_le_mul_of_nonneg_left (by omega) (by omega)
    have m4 : 2 * d * -s * (2 * d * -s) = (d * d) * (4 * (s * s)) := by grind
    have m5 : d * (2 * (d * d)) = (d * d) * (2 * d) := by grind
    have pd : 0 < d * d := Int.mul_pos (by omega) (by omega)
    have : 4 * (s * s) ≤ 2 * d := Int.le_of_mul_le_mul_left (by omega : (d * d) * (4 * (s * s)) ≤ (d * d) * (2 * d)) pd
    have := sq_nn s
    omega
  · exact .inl hs
/-- The third point's two numbers, relative to the first point. -/
def tpX (dx dy A R d : Int) : Int := near (A * dx - R * dy) (2 * d)
def tpY (dx dy A R d : Int) : Int := near (A * dy + R * dx) (2 * d)
def tpR (ra rb d : Int) (left : Bool) : Int := if left then rt (tpS ra rb d) else -rt (tpS ra rb d)
/-- What ThirdPoint returns: x, y and the code. -/
def tpF (a b c e ra rb : Int) (left : Bool) : Int × Int × Int :=
  if (ptB a b && ptB c e) = false then (0, 0, 1)
  else if (inB ra 0 10000 && inB rb 0 10000) = false then (0, 0, 2)
  else if d2 a b c e = 0 then (0, 0, 6)
  else if tpS ra rb (d2 a b c e) < 0 then (0, 0, 3)
  else if ptB (a + tpX (c - a) (e - b) (tpA ra rb (d2 a b c e)) (tpR ra rb (d2 a b c e) left) (d2 a b c e)) (b + tpY (c - a) (e - b) (tpA ra rb (d2 a b c e)) (tpR ra rb (d2 a b c e) left) (d2 a b c e)) = false then (0, 0, 10)
  else (a + tpX (c - a) (e - b) (tpA ra rb (d2 a b c e)) (tpR ra rb (d2 a b c e) left) (d2 a b c e), b + tpY (c - a) (e - b) (tpA ra rb (d2 a b c e)) (tpR ra rb (d2 a b c e) left) (d2 a b c e), 0)
theorem tp_1 {a b c e ra rb : Int} {l : Bool} (h : (ptB a b && ptB c e) = false) : tpF a b c e ra rb l = (0, 0, 1) := by unfold tpF; rw [if_pos h]
theorem tp_2 {a b c e ra rb : Int} {l : Bool} (h1 : ptB a b = true) (h2 : ptB c e = true) (h : (inB ra 0 10000 && inB rb 0 10000) = false) : tpF a b c e ra rb l = (0, 0, 2) := by
  unfold tpF; rw [if_neg (by simp [h1, h2]), if_pos h]
theorem tp_3 {a b c e ra rb : Int} {l : Bool} (h1 : ptB a b = true) (h2 : ptB c e = true) (h3 : inB ra 0 10000 = true) (h4 : inB rb 0 10000 = true) (h : d2 a b c e = 0) : tpF a b c e ra rb l = (0, 0, 6) := by
  unfold tpF; rw [if_neg (by simp [h1, h2]), if_neg (by simp [h3, h4]), if_pos h]
theorem tp_4 {a b c e ra rb : Int} {l : Bool} (h1 : ptB a b = true) (h2 : ptB c e = true) (h3 : inB ra 0 10000 = true) (h4 : inB rb 0 10000 = true) (h5 : ¬ d2 a b c e = 0) (h : tpS ra rb (d2 a b c e) < 0) : tpF a b c e ra rb l = (0, 0, 3) := by
  unfold tpF; rw [if_neg (by simp [h1, h2]), if_neg (by simp [h3, h4]), if_neg h5, if_pos h]
theorem tp_5 {a b c e ra rb X Y : Int} {l : Bool} (h1 : ptB a b = true) (h2 : ptB c e = true) (h3 : inB ra 0 10000 = true) (h4 : inB rb 0 10000 = true) (h5 : ¬ d2 a b c e = 0) (h6 : ¬ tpS ra rb (d2 a b c e) < 0)
    (hX : tpX (c - a) (e - b) (tpA ra rb (d2 a b c e)) (tpR ra rb (d2 a b c e) l) (d2 a b c e) = X) (hY : tpY (c - a) (e - b) (tpA ra rb (d2 a b c e)) (tpR ra rb (d2 a b c e) l) (d2 a b c e) = Y) :
    (ptB (a + X) (b + Y) = false → tpF a b c e ra rb l = (0, 0, 10)) ∧ (ptB (a + X) (b + Y) = true → tpF a b c e ra rb l = (a + X, b + Y, 0)) := by
  subst hX hY
  constructor
  · intro h; unfold tpF; rw [if_neg (by simp [h1, h2]), if_neg (by simp [h3, h4]), if_neg h5, if_neg h6, if_pos h]
  · intro h; unfold tpF; rw [if_neg (by simp [h1, h2]), if_neg (by simp [h3, h4]), if_neg h5, if_neg h6, if_neg (by simp [h])]
theorem tpR_bd {ra rb d : Int} {l : Bool} (h1 : 0 ≤ ra ∧ ra ≤ 10000) (h2 : 0 ≤ rb ∧ rb ≤ 10000) (h3 : 0 ≤ d ∧ d ≤ 200000000) (h : ¬ tpS ra rb d < 0) : -300000000 ≤ tpR ra rb d l ∧ tpR ra rb d l ≤ 300000000 := by
  have hb := (tp_bd h1 h2 h3).2.2.2.2.2.2
  obtain ⟨k0, _, _⟩ := rt_is (n := tpS ra rb d) (by omega)
  have k1 := rt_le (n := tpS ra rb d) (m := 300000000) (by omega) (by omega) (by omega)
  unfold tpR
  cases l
  · simp only [Bool.false_eq_true, if_false]; omega
  · simp only [if_true]; omega
/-- The products of the third point. -/
theorem tpP_bd {A R x y : Int} (hA : -100000000 ≤ A ∧ A ≤ 300000000) (hR : -300000000 ≤ R ∧ R ≤ 300000000) (hx : -10000 ≤ x ∧ x ≤ 10000) (hy : -10000 ≤ y ∧ y ≤ 10000) :
    (-3000000000000 ≤ A * x ∧ A * x ≤ 3000000000000) ∧ (-3000000000000 ≤ A * y ∧ A * y ≤ 3000000000000) ∧ (-3000000000000 ≤ R * x ∧ R * x ≤ 3000000000000) ∧ (-3000000000000 ≤ R * y ∧ R * y ≤ 3000000000000) := by
  have a := mul_bdd (x := A) (y := x) (m := 300000000) (k := 10000) (by omega) (by omega) (by omega) (by omega)
  have b := mul_bdd (x := A) (y := y) (m := 300000000) (k := 10000) (by omega) (by omega) (by omega) (by omega)
  have c := mul_bdd (x := R) (y := x) (m := 300000000) (k := 10000) (by omega) (by omega) (by omega) (by omega)
  have d := mul_bdd (x := R) (y := y) (m := 300000000) (k := 10000) (by omega) (by omega) (by omega) (by omega)
  omega
end Go.Proofs.Ytclefibjmnabbaa

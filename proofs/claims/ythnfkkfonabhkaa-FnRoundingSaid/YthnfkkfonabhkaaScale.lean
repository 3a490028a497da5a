/-
  Contracts of impl.Ratio.scaled over bits.Mul64 and bits.Div64.
-/
import Derived.Test.YthnfkkfonabhkaaNear
import Derived.Test.YthnfkkfonabhkaaShelf
namespace Go.Proofs.Ythnfkkfonabhkaa
open Go.RowKit

theorem mul_nn {a b : Int} (h1 : 0 ≤ a) (h2 : a ≤ 1000000000) (h3 : 0 ≤ b) (h4 : b ≤ 1000000000) : 0 ≤ a * b ∧ a * b ≤ 1000000000000000000 := by
  have := mul_bd (show -1000000000 ≤ a by omega) h2 (show -1000000000 ≤ b by omega) h4
  exact ⟨Int.mul_nonneg h1 h3, this.2⟩
theorem wrap_u64 {x : Int} (h0 : 0 ≤ x) (h1 : x ≤ 9223372036854775807) : IntKind.u64.wrap x = x := by
  simp only [IntKind.wrap, IntKind.bits, IntKind.signed]; simp; omega
theorem wrap_tdiv {a b : Int} (h0 : 0 ≤ a) (h1 : a ≤ 1000000000000000000) (_hb : 1 ≤ b) : IntKind.u64.wrap (a.tdiv b) = a / b := by
  rw [Int.tdiv_eq_ediv_of_nonneg h0]
  have q0 := Int.ediv_nonneg h0 (show 0 ≤ b by omega)
  have q1 := Int.ediv_le_self b h0
  exact wrap_u64 q0 (by omega)
theorem ret_two {k l : IntKind} {a b c d : Int} (h : a = b) (h' : c = d) : Ending.returned (.tuple #[.int k a, .int l c]) = .returned (.tuple #[.int k b, .int l d]) := by rw [h, h']
/-- The sign of a product. -/
theorem abs_same {k n : Int} (h : k < 0 ∧ n < 0 ∨ 0 ≤ k ∧ 0 ≤ n) : ((k.natAbs : Nat) : Int) * ((n.natAbs : Nat) : Int) = k * n := by
  rcases h with ⟨h1, h2⟩ | ⟨h1, h2⟩
  · rw [show ((k.natAbs : Nat) : Int) = -k by omega, show ((n.natAbs : Nat) : Int) = -n by omega, Int.neg_mul_neg]
  · rw [show ((k.natAbs : Nat) : Int) = k by omega, show ((n.natAbs : Nat) : Int) = n by omega]
theorem abs_other {k n : Int} (h : k < 0 ∧ 0 ≤ n ∨ 0 ≤ k ∧ n < 0) : -(((k.natAbs : Nat) : Int) * ((n.natAbs : Nat) : Int)) = k * n := by
  rcases h with ⟨h1, h2⟩ | ⟨h1, h2⟩
  · rw [show ((k.natAbs : Nat) : Int) = -k by omega, show ((n.natAbs : Nat) : Int) = n by omega, Int.neg_mul, Int.neg_neg]
  · rw [show ((k.natAbs : Nat) : Int) = k by omega, show ((n.natAbs : Nat) : Int) = -n by omega, Int.mul_neg, Int.neg_neg]
theorem mul64_small (a b : Int) (w : World) (h1 : 0 ≤ a) (h2 : a ≤ 1000000000) (h3 : 0 ≤ b) (h4 : b ≤ 1000000000) :
    Calls Try.prog 69 #[.int .u64 a, .int .u64 b] w fun e w' => e = .returned (.tuple #[.int .u64 0, .int .u64 (a * b)]) ∧ w = w' := by
  have hm := mul_nn h1 h2 h3 h4
  obtain ⟨x, rfl⟩ := Int.eq_ofNat_of_zero_le h1
  obtain ⟨y, rfl⟩ := Int.eq_ofNat_of_zero_le h3
  have e0 : ((x * y : Nat) : Int) = (x : Int) * (y : Int) := by simp
  have e1 : x * y / 18446744073709551616 = 0 := Nat.div_eq_of_lt (by omega)
  have e2 : x * y % 18446744073709551616 = x * y := Nat.mod_eq_of_lt (by omega)
  refine (Try.bits_Mul64 x y (by omega) (by omega) w).mono ?_
  rintro e w' ⟨rfl, rfl⟩
  rw [e1, e2, e0]
  exact ⟨rfl, rfl⟩

set_option maxHeartbeats 400000 in
set_option maxRecDepth 100000 in
theorem div64_zero (lo y : Int) (w : World) (h1 : 0 ≤ lo) (h1' : lo ≤ 1000000000000000000) (h2 : 1 ≤ y) :
    Calls Try.prog 70 #[.int .u64 0, .int .u64 lo, .int .u64 y] w fun e w' => e = .returned (.tuple #[.int .u64 (lo / y), .int .u64 (lo % y)]) ∧ ∃ n, w' = w.drewN n := by
  have hz : (y == 0) = false := by simp; omega
  go_enter Try.func70, Try.ntmps70
  go_wp2_with fail
  go_quiet (fail)
  go_wp2_with fail
  go_ret2
  exact ⟨rfl, nq, rfl⟩

set_option maxHeartbeats 400000 in
theorem scaled_any (n d k : Int) (w : World) (a1 : 1 ≤ d) (a2 : d ≤ 1000000000) (a3 : -1000000000 ≤ n) (a4 : n ≤ 1000000000) (b1 : -1000000000 ≤ k) (b2 : k ≤ 1000000000) :
    Calls Try.prog 45 #[.agg #[.int .i64 n, .int .i64 d], .int .i64 k] w fun e w' => e = .returned (.int .i64 (near (k * n) d)) ∧ Below w.heap.size w w' := by
  have hd : ((d.natAbs : Nat) : Int) = d := by omega
  obtain ⟨m1, m2⟩ := mul_nn (a := ((k.natAbs : Nat) : Int)) (b := ((n.natAbs : Nat) : Int)) (by omega) (by omega) (by omega) (by omega)
  have q0 := Int.ediv_nonneg m1 (show 0 ≤ d by omega)
  have q1 := Int.ediv_le_self d m1
  have r0 := Int.emod_nonneg (((k.natAbs : Nat) : Int) * ((n.natAbs : Nat) : Int)) (show d ≠ 0 by omega)
  have r1 := Int.emod_lt_of_pos (((k.natAbs : Nat) : Int) * ((n.natAbs : Nat) : Int)) (show 0 < d by omega)
  have HP := Lib.hid (near_pos (m := ((k.natAbs : Nat) : Int) * ((n.natAbs : Nat) : Int)) a1)
  have HN := Lib.hid (near_neg (m := ((k.natAbs : Nat) : Int) * ((n.natAbs : Nat) : Int)) a1)
  have HS := Lib.hid (@abs_same k n)
  have HO := Lib.hid (@abs_other k n)
  go_enter Try.func45, Try.ntmps45
  go_wp2_with fail
  refine (magnitude_any _ _ (by omega) (by omega)).mono ?_
  rintro e w1 ⟨rfl, rfl⟩
  go_wp2_with fail
  go_quiet (first | (go_at_call 65; exact quiet_eq (magnitude_any _ _ (by omega) (by omega))) | (go_at_call 69; exact quiet_eq (mul64_small _ _ _ (by omega) (by omega) (by omega) (by omega))))
  go_wp2_with fail
  refine (div64_zero _ _ _ m1 m2 a1).mono ?_
  rintro e w2 ⟨rfl, nq2, rfl⟩
  clear hd
  generalize ((k.natAbs : Nat) : Int) * ((n.natAbs : Nat) : Int) = m at *
  generalize m / d = q' at *
  generalize m % d = r at *
  by_cases hk : k < 0
  · by_cases hn : n < 0
    · have hk' : (decide (k < 0)) = true := by simpa using hk
      have hn' : (decide (n < 0)) = true := by simpa using hn
      have HS' := Lib.hid (HS.out (.inl ⟨hk, hn⟩))
      by_cases hc : d ≤ 2 * r
      · go_wp2_with fail
        go_ret
        exact ⟨ret_int (by rw [← HS'.out, HP.out.2 hc]), bD (bA (bR _) _) _⟩
      · go_wp2_with fail
        go_ret
        exact ⟨ret_int (by rw [← HS'.out, HP.out.1 (by omega)]), bD (bA (bR _) _) _⟩
    · have hk' : (decide (k < 0)) = true := by simpa using hk
      have hn' : (decide (n < 0)) = false := by simpa using hn
      have HS' := Lib.hid (HO.out (.inl ⟨hk, by omega⟩))
      by_cases hc : d < 2 * r
      · go_wp2_with fail
        go_ret
        exact ⟨ret_int (by rw [← HS'.out, HN.out.2 hc]), bD (bA (bR _) _) _⟩
      · go_wp2_with fail
        go_ret
        exact ⟨ret_int (by rw [← HS'.out, HN.out.1 (by omega)]), bD (bA (bR _) _) _⟩
  · by_cases hn : n < 0
    · have hk' : (decide (k < 0)) = false := by simpa using hk
      have hn' : (decide (n < 0)) = true := by simpa using hn
      have HS' := Lib.hid (HO.out (.inr ⟨by omega, hn⟩))
      by_cases hc : d < 2 * r
      · go_wp2_with fail
        go_ret
        exact ⟨ret_int (by rw [← HS'.out, HN.out.2 hc]), bD (bA (bR _) _) _⟩
      · go_wp2_with fail
        go_ret
        exact ⟨ret_int (by rw [← HS'.out, HN.out.1 (by omega)]), bD (bA (bR _) _) _⟩
    · have hk' : (decide (k < 0)) = false := by simpa using hk
      have hn' : (decide (n < 0)) = false := by simpa using hn
      have HS' := Lib.hid (HS.out (.inr ⟨by omega, by omega⟩))
      by_cases hc : d ≤ 2 * r
      · go_wp2_with fail
        go_ret
        exact ⟨ret_int (by rw [← HS'.out, HP.out.2 hc]), bD (bA (bR _) _) _⟩
      · go_wp2_with fail
        go_ret
        exact ⟨ret_int (by rw [← HS'.out, HP.out.1 (by omega)]), bD (bA (bR _) _) _⟩

/-- The nearest integer to a ratio; 0 if it is not valid. -/
def rnd (n d : Int) : Int := if okR n d = true then near n d else 0
theorem rnd_yes {n d : Int} (h : okR n d = true) : near n d = rnd n d := by simp [rnd, h]
theorem rnd_no {n d : Int} (h : okR n d = false) : 0 = rnd n d := by simp [rnd, h]

theorem RoundRatioI_any (n d : Int) (w : World) :
    Calls Try.prog 16 #[.agg #[.int .i64 n, .int .i64 d]] w fun e w' => e = .returned (.int .i64 (rnd n d)) ∧ Below w.heap.size w w' := by
  cases hok : okR n d
  · go_enter Try.func16, Try.ntmps16
    go_wp2_with fail
    refine (valid_any _ _ _).mono ?_
    rintro e w1 ⟨rfl, hb1⟩
    go_wp2_with fail
    go_ret
    exact ⟨ret_int (rnd_no hok), bT (bA (bR _) _) hb1⟩
  · obtain ⟨h1, h2, h3, h4⟩ := okR_bd hok
    have HY := Lib.hid (rnd_yes hok)
    go_enter Try.func16, Try.ntmps16
    go_wp2_with fail
    refine (valid_any _ _ _).mono ?_
    rintro e w1 ⟨rfl, hb1⟩
    obtain ⟨hc1, hf1⟩ := bcell hb1
    go_wp2_with fail
    refine (scaled_any _ _ 1 _ (by omega) (by omega) (by omega) (by omega) (by omega) (by omega)).mono ?_
    rintro e w2 ⟨rfl, hb2⟩
    go_wp2_with fail
    go_ret
    exact ⟨ret_int HY.out, bT (bT (bA (bR _) _) hb1) hb2⟩

/-- What ScaleRatio returns. -/
def scl (k n d : Int) : Int × Int := if okR n d = true then (if -1000000000 ≤ k ∧ k ≤ 1000000000 then (near (k * n) d, 0) else (0, 2)) else (0, 1)
theorem scl_no {k n d : Int} (h : okR n d = false) : scl k n d = (0, 1) := by simp [scl, h]
theorem scl_out {k n d : Int} (h : okR n d = true) (hk : ¬ (-1000000000 ≤ k ∧ k ≤ 1000000000)) : scl k n d = (0, 2) := by simp only [scl]; rw [if_pos h, if_neg hk]
theorem scl_yes {k n d : Int} (h : okR n d = true) (hk : -1000000000 ≤ k ∧ k ≤ 1000000000) : scl k n d = (near (k * n) d, 0) := by simp only [scl]; rw [if_pos h, if_pos hk]

theorem ScaleRatioI_any (k n d : Int) (w : World) :
    Calls Try.prog 17 #[.int .i64 k, .agg #[.int .i64 n, .int .i64 d]] w fun e w' => e = .returned (.tuple #[.int .i64 (scl k n d).1, .int .i64 (scl k n d).2]) ∧ Below w.heap.size w w' := by
  cases hok : okR n d
  · rw [scl_no hok]
    go_enter Try.func17, Try.ntmps17
    go_wp2_with fail
    refine (valid_any _ _ _).mono ?_
    rintro e w1 ⟨rfl, hb1⟩
    go_wp2_with fail
    go_ret2
    exact ⟨rfl, bT (bA (bR _) _) hb1⟩
  · obtain ⟨h1, h2, h3, h4⟩ := okR_bd hok
    by_cases hk : k < -1000000000
    · rw [scl_out hok (by omega)]
      go_enter Try.func17, Try.ntmps17
      go_wp2_with fail
      refine (valid_any _ _ _).mono ?_
      rintro e w1 ⟨rfl, hb1⟩
      obtain ⟨hc1, hf1⟩ := bcell hb1
      go_wp2_with fail
      go_ret2
      exact ⟨rfl, bT (bA (bR _) _) hb1⟩
    · by_cases hk' : 1000000000 < k
      · rw [scl_out hok (by omega)]
        go_enter Try.func17, Try.ntmps17
        go_wp2_with fail
        refine (valid_any _ _ _).mono ?_
        rintro e w1 ⟨rfl, hb1⟩
        obtain ⟨hc1, hf1⟩ := bcell hb1
        go_wp2_with fail
        go_ret2
        exact ⟨rfl, bT (bA (bR _) _) hb1⟩
      · rw [scl_yes hok (by omega)]
        go_enter Try.func17, Try.ntmps17
        go_wp2_with fail
        refine (valid_any _ _ _).mono ?_
        rintro e w1 ⟨rfl, hb1⟩
        obtain ⟨hc1, hf1⟩ := bcell hb1
        go_wp2_with fail
        refine (scaled_any _ _ _ _ (by omega) (by omega) (by omega) (by omega) (by omega) (by omega)).mono ?_
        rintro e w2 ⟨rfl, hb2⟩
        go_wp2_with fail
        go_ret2
        exact ⟨rfl, bT (bT (bA (bR _) _) hb1) hb2⟩

end Go.Proofs.Ythnfkkfonabhkaa

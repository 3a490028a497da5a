/-
  The walk of laws.FnRounding.
-/
import Derived.Test.YthnfkkfonabhkaaScale
import Derived.Test.YthnfkkfonabhkaaDraw2
namespace Go.Proofs.Ythnfkkfonabhkaa
open Go.RowKit

/-- What rounding down says of its result. -/
theorem flo_facts {n d : Int} (h : okR n d = true) : -1000000000 ≤ flo n d ∧ flo n d ≤ 1000000000 ∧ flo n d * d ≤ n ∧ n < (flo n d + 1) * d := by
  obtain ⟨b1, b2, b3, b4⟩ := okR_bd h
  rw [← flo_yes h]
  have e := Int.mul_ediv_add_emod n d
  have r0 := Int.emod_nonneg n (show d ≠ 0 by omega)
  have r1 := Int.emod_lt_of_pos n (show 0 < d by omega)
  have l1 : -1000000000 ≤ n / d := Int.le_ediv_of_mul_le (by omega) (by omega)
  have l2 : n / d ≤ 1000000000 := Int.lt_add_one_iff.1 (Int.ediv_lt_of_lt_mul (by omega) (by omega))
  have e2 : (n / d + 1) * d = d * (n / d) + d := by rw [Int.add_mul, Int.one_mul, Int.mul_comm]
  have e3 : n / d * d = d * (n / d) := Int.mul_comm _ _
  rw [e2, e3]
  omega

theorem near_facts {x d : Int} (hd : 1 ≤ d) : 2 * (near x d * d) - 2 * x ≤ d ∧ -d < 2 * (near x d * d) - 2 * x := by
  unfold near
  have e := Int.mul_ediv_add_emod (2 * x + d) (2 * d)
  have r0 := Int.emod_nonneg (2 * x + d) (show 2 * d ≠ 0 by omega)
  have r1 := Int.emod_lt_of_pos (2 * x + d) (show 0 < 2 * d by omega)
  have e2 : 2 * ((2 * x + d) / (2 * d) * d) = 2 * d * ((2 * x + d) / (2 * d)) := by rw [Int.mul_comm ((2 * x + d) / (2 * d)) d, Int.mul_assoc]
  omega

theorem rnd_facts {n d : Int} (h : okR n d = true) : -1000000000 ≤ rnd n d ∧ rnd n d ≤ 1000000000 ∧ (rnd n d = flo n d ∨ rnd n d = flo n d + 1) := by
  obtain ⟨b1, b2, b3, b4⟩ := okR_bd h
  rw [← rnd_yes h, ← flo_yes h]
  obtain ⟨p1, p2⟩ := near_pos (m := n) b1
  have l1 : -1000000000 ≤ n / d := Int.le_ediv_of_mul_le (by omega) (by omega)
  have l2 : n / d ≤ 1000000000 := Int.lt_add_one_iff.1 (Int.ediv_lt_of_lt_mul (by omega) (by omega))
  have u : near n d ≤ 1000000000 := by
    unfold near
    exact Int.lt_add_one_iff.1 (Int.ediv_lt_of_lt_mul (by omega) (by omega))
  by_cases c : 2 * (n % d) < d
  · rw [p1 c]; omega
  · have := p2 (by omega)
    omega

theorem many_facts {k n d : Int} (h : okR n d = true) (k0 : 0 ≤ k) (k1 : k ≤ 49) :
    -100000000000 ≤ near (k * n) d ∧ near (k * n) d ≤ 100000000000 ∧ -49000000000 ≤ k * n ∧ k * n ≤ 49000000000 := by
  obtain ⟨b1, b2, b3, b4⟩ := okR_bd h
  have e1 : -49000000000 ≤ k * n ∧ k * n ≤ 49000000000 := by
    have a1 := Int.mul_le_mul_of_nonneg_left b4 k0
    have a2 := Int.mul_le_mul_of_nonneg_left b3 k0
    omega
  refine ⟨?_, ?_, e1.1, e1.2⟩
  · unfold near; exact Int.le_ediv_of_mul_le (by omega) (by omega)
  · unfold near; exact Int.lt_add_one_iff.1 (Int.ediv_lt_of_lt_mul (by omega) (by omega))

theorem prod_bd {m d : Int} (h1 : -100000000000 ≤ m) (h2 : m ≤ 100000000000) (h3 : 1 ≤ d) (h4 : d ≤ 1000000) : -100000000000000000 ≤ m * d ∧ m * d ≤ 100000000000000000 := by
  have e : (m * d).natAbs ≤ 100000000000 * 1000000 := by rw [Int.natAbs_mul]; exact Nat.mul_le_mul (by omega) (by omega)
  omega

set_option maxRecDepth 100000 in
set_option maxHeartbeats 4000000 in
theorem FnRounding_walk (a : Option Addr) (len cap : Nat) (zs : List Int) (b : Option Addr) (len2 cap2 : Nat) (zs2 : List Int) (w : World) (h : IsRow .u8 w a len cap zs) (h2 : IsRow .u8 w b len2 cap2 zs2) :
    Calls Try.prog 4 #[.slice a len cap, .slice b len2 cap2] w fun e w' => e = .returned (.bool true) ∧ Below w.heap.size w w' := by
  have l1 := (row_of h).1
  have l2 := (row_of h2).1
  unfold maxLen at l1 l2
  have HA := Lib.hid h
  have HB := Lib.hid h2
  clear h h2
  by_cases hl : 3000 < len ∨ 3000 < len2
  · have HL := Lib.hid hl
    clear hl
    go_enter Try.func4, Try.ntmps4
    go_wp2_with fail
    refine (a2Long_yes _ _ _ _ _ _ _ (by omega) (by omega) HL.out).mono ?_
    rintro e w1 ⟨rfl, rfl⟩
    go_wp2_with fail
    go_ret
    exact ⟨rfl, bR _⟩
  · have hl1 : len ≤ 3000 := by omega
    have hl2 : len2 ≤ 3000 := by omega
    clear hl
    go_enter Try.func4, Try.ntmps4
    go_wp2_with fail
    refine (a2Long_no _ _ _ _ _ _ _ hl1 hl2).mono ?_
    rintro e w0 ⟨rfl, rfl⟩
    go_wp2_with fail
    refine (A2Ratios_any _ a len cap zs HA.out).mono ?_
    rintro e w1 ⟨n, d, p, q, k1, k2, rfl, hb1⟩
    obtain ⟨d1, d2, n1, n2⟩ := okR_bd k1
    have K1 := Lib.hid k1
    clear k1 k2
    obtain ⟨wx, hwx⟩ : ∃ wx, wx = (w1.alloc (.cells #[.int .i64 n, .int .i64 d] 25)).alloc (.cells #[.int .i64 p, .int .i64 q] 25) := ⟨_, rfl⟩
    have m1 : wx.cell? ⟨w1.heap.size, 0, none⟩ = some (.int .i64 n) := by rw [hwx]; simp [go_sem]
    have n1' : wx.cell? ⟨w1.heap.size, 1, none⟩ = some (.int .i64 d) := by rw [hwx]; simp [go_sem]
    have B1 := Lib.hid (show Below w.heap.size w wx by rw [hwx]; exact bA (bA hb1 _) _)
    go_wp2_with fail
    rw [← hwx]
    clear hwx hb1
    have o1 := n1'
    clear n1'
    have E1 := Lib.hid (show scl 1 n d = (rnd n d, 0) by rw [scl_yes K1.out (by omega), Int.one_mul, rnd_yes K1.out])
    refine (FloorRatioI_any _ _ _).mono ?_
    rintro e x2 ⟨rfl, hb2⟩
    have m2 := (hb2.cell (p := ⟨w1.heap.size, 0, none⟩) (lt_cell m1)).trans m1
    have o2 := (hb2.cell (p := ⟨w1.heap.size, 1, none⟩) (lt_cell o1)).trans o1
    have B2 := Lib.hid (bT B1.out hb2)
    clear m1 o1 hb2
    go_wp2_with fail
    refine (RoundRatioI_any _ _ _).mono ?_
    rintro e x3 ⟨rfl, hb3⟩
    have m3 := (hb3.cell (p := ⟨w1.heap.size, 0, none⟩) (lt_cell m2)).trans m2
    have o3 := (hb3.cell (p := ⟨w1.heap.size, 1, none⟩) (lt_cell o2)).trans o2
    have B3 := Lib.hid (bT B2.out hb3)
    clear m2 o2 hb3
    go_wp2_with fail
    refine (ScaleRatioI_any _ _ _ _).mono ?_
    rintro e x4 ⟨rfl, hb4⟩
    have m4 := (hb4.cell (p := ⟨w1.heap.size, 0, none⟩) (lt_cell m3)).trans m3
    have o4 := (hb4.cell (p := ⟨w1.heap.size, 1, none⟩) (lt_cell o3)).trans o3
    have B4 := Lib.hid (bT B3.out hb4)
    clear m3 o3 hb4
    rw [E1.out]
    go_wp2_with fail
    refine (a2At_any _ b len2 cap2 zs2 (HB.out.keep B4.out) 0 50 (by omega) (by omega) (by omega)).mono ?_
    rintro e x5' ⟨v, v0, v1, rfl, rfl⟩
    have E2 := Lib.hid (scl_yes K1.out (show -1000000000 ≤ v ∧ v ≤ 1000000000 by omega))
    go_wp2_with fail
    refine (ScaleRatioI_any _ _ _ _).mono ?_
    rintro e x5 ⟨rfl, hb5⟩
    have m5 := (hb5.cell (p := ⟨w1.heap.size, 0, none⟩) (lt_cell m4)).trans m4
    have o5 := (hb5.cell (p := ⟨w1.heap.size, 1, none⟩) (lt_cell o4)).trans o4
    have B5 := Lib.hid (bT B4.out hb5)
    clear m4 o4 hb5
    rw [E2.out]
    obtain ⟨f1, f2, f3, f4⟩ := flo_facts K1.out
    obtain ⟨g1, g2, g3⟩ := rnd_facts K1.out
    obtain ⟨j1, j2, j3, j4⟩ := many_facts K1.out v0 (by omega)
    obtain ⟨r1, r2⟩ := near_facts (x := v * n) d1
    have pd := Lib.hid (fun h => prod_bd j1 j2 d1 h)
    generalize flo n d = f at *
    generalize rnd n d = N at *
    generalize near (v * n) d = M at *
    have e1 : (f + 1) * d = f * d + d := by rw [Int.add_mul, Int.one_mul]
    have s1 : -3000000000 ≤ f * d := by omega
    have s2 : f * d ≤ 3000000000 := by omega
    have s3 : -3000000000 ≤ (f + 1) * d := by omega
    have s4 : (f + 1) * d ≤ 3000000000 := by omega
    clear e1 E1 E2
    have t1 : ¬ n < f * d := by omega
    have t2 : ¬ (f + 1) * d ≤ n := by omega
    by_cases hd6 : 1000000 < d
    · clear r1 r2 pd
      rcases g3 with h | h
      · subst h
        have hb : (N != N) = false := by simp
        go_wp2_with fail
        go_ret
        exact ⟨rfl, B5.out⟩
      · subst h
        have hb : (f + 1 != f) = true := by rw [bne_iff_ne]; omega
        have hb2 : (f + 1 != f + 1) = false := by simp
        go_wp2_with fail
        go_ret
        exact ⟨rfl, B5.out⟩
    · obtain ⟨u1, u2⟩ := pd.out (by omega)
      have r3 : 2 * (M * d - v * n) ≤ d := by omega
      have r4 : -d < 2 * (M * d - v * n) := by omega
      clear pd r1 r2
      rcases g3 with h | h
      · subst h
        have hb : (N != N) = false := by simp
        go_wp2_with fail
        go_ret
        exact ⟨ret_bool (by simp <;> omega), B5.out⟩
      · subst h
        have hb : (f + 1 != f) = true := by rw [bne_iff_ne]; omega
        have hb2 : (f + 1 != f + 1) = false := by simp
        go_wp2_with fail
        go_ret
        exact ⟨ret_bool (by simp <;> omega), B5.out⟩
end Go.Proofs.Ythnfkkfonabhkaa

/-
  The plain arithmetic of comparing, and the contract of impl.CompareRatio.
-/
import Derived.Test.YtkagciekoeaijaaDoorRat
namespace Go.Proofs.YtkagciekoeaijaaDoor
open Go.RowKit

theorem mul_bd {a b : Int} (h1 : -1000000000 ≤ a) (h2 : a ≤ 1000000000) (h3 : -1000000000 ≤ b) (h4 : b ≤ 1000000000) : -1000000000000000000 ≤ a * b ∧ a * b ≤ 1000000000000000000 := by
  have e : (a * b).natAbs ≤ 1000000000 * 1000000000 := by rw [Int.natAbs_mul]; exact Nat.mul_le_mul (by omega) (by omega)
  omega

theorem dvd_of_gcd {d n q : Int} (h : d ∣ n * q) (g : Int.gcd n d = 1) : d ∣ q := by
  have h' := Int.natAbs_dvd_natAbs.2 h
  rw [Int.natAbs_mul] at h'
  have g' : Nat.Coprime d.natAbs n.natAbs := by rw [Nat.coprime_comm]; exact g
  exact Int.natAbs_dvd_natAbs.1 (g'.dvd_of_dvd_mul_left h')

/-- Two ratios in lowest terms with equal values have equal terms. -/
theorem cross_eq {n d p q : Int} (h1 : okR n d = true) (h2 : okR p q = true) (h : n * q = p * d) : n = p ∧ d = q := by
  obtain ⟨a1, a2, a3, a4, a5⟩ := okR_true.1 h1
  obtain ⟨b1, b2, b3, b4, b5⟩ := okR_true.1 h2
  have d1 : d ∣ n * q := ⟨p, by rw [h, Int.mul_comm]⟩
  have d2 : d ∣ q := dvd_of_gcd d1 a5
  have d3 : q ∣ p * d := ⟨n, by rw [← h, Int.mul_comm]⟩
  have d4 : q ∣ d := dvd_of_gcd d3 b5
  have e1 : d = q := by
    have := Int.le_of_dvd (by omega) d2
    have := Int.le_of_dvd (by omega) d4
    omega
  subst e1
  exact ⟨Int.eq_of_mul_eq_mul_right (by omega) h, rfl⟩

/-- How two ratios compare; 0 if one is not valid. -/
def cmpV (n d p q : Int) : Int := if n * q < p * d then -1 else if p * d < n * q then 1 else 0
def cmpR (n d p q : Int) : Int := if okR n d = true ∧ okR p q = true then cmpV n d p q else 0
theorem cmpR_no1 {n d p q : Int} (h : okR n d = false) : 0 = cmpR n d p q := by simp [cmpR, h]
theorem cmpR_no2 {n d p q : Int} (h : okR p q = false) : 0 = cmpR n d p q := by simp [cmpR, h]
theorem cmpR_yes {n d p q : Int} (h1 : okR n d = true) (h2 : okR p q = true) : cmpV n d p q = cmpR n d p q := by simp [cmpR, h1, h2]
theorem cmpV_lt {n d p q : Int} (h : n * q < p * d) : -1 = cmpV n d p q := by simp [cmpV, h]
theorem cmpV_gt {n d p q : Int} (h : p * d < n * q) : 1 = cmpV n d p q := by simp [cmpV, h]; omega
theorem cmpV_eq {n d p q : Int} (h1 : ¬ n * q < p * d) (h2 : ¬ p * d < n * q) : 0 = cmpV n d p q := by simp [cmpV, h1, h2]

set_option maxHeartbeats 1000000 in
theorem CompareRatioI_any (n d p q : Int) (w : World) :
    Calls Tryd.prog 16 #[.agg #[.int .i64 n, .int .i64 d], .agg #[.int .i64 p, .int .i64 q]] w fun e w' => e = .returned (.int .i64 (cmpR n d p q)) ∧ Below w.heap.size w w' := by
  cases h1 : okR n d
  · have H := Lib.hid (cmpR_no1 (p := p) (q := q) h1)
    go_enter Tryd.func16, Tryd.ntmps16
    go_wp2_with fail
    refine (valid_any _ _ _).mono ?_
    rintro e w1 ⟨rfl, hb1⟩
    go_wp2_with fail
    go_ret
    exact ⟨ret_int H.out, bT (bA (bA (bR _) _) _) hb1⟩
  · cases h2 : okR p q
    · have H := Lib.hid (cmpR_no2 (n := n) (d := d) h2)
      go_enter Tryd.func16, Tryd.ntmps16
      go_wp2_with fail
      refine (valid_any _ _ _).mono ?_
      rintro e w1 ⟨rfl, hb1⟩
      obtain ⟨hc1, hf1⟩ := bcell hb1
      go_wp2_with fail
      refine (valid_any _ _ _).mono ?_
      rintro e w2 ⟨rfl, hb2⟩
      go_wp2_with fail
      go_ret
      exact ⟨ret_int H.out, bT (bT (bA (bA (bR _) _) _) hb1) hb2⟩
    · have H := Lib.hid (cmpR_yes h1 h2)
      obtain ⟨a1, a2, a3, a4⟩ := okR_bd h1
      obtain ⟨b1, b2, b3, b4⟩ := okR_bd h2
      obtain ⟨m1, m2⟩ := mul_bd a3 a4 (show -1000000000 ≤ q by omega) b2
      obtain ⟨m3, m4⟩ := mul_bd b3 b4 (show -1000000000 ≤ d by omega) a2
      by_cases e1 : n = p
      · subst e1
        by_cases e2 : d = q
        · subst e2
          have HV := Lib.hid (cmpV_eq (n := n) (d := d) (p := n) (q := d) (by omega) (by omega))
          go_enter Tryd.func16, Tryd.ntmps16
          go_wp2_with fail
          refine (valid_any _ _ _).mono ?_
          rintro e w1 ⟨rfl, hb1⟩
          obtain ⟨hc1, hf1⟩ := bcell hb1
          have hs1 : w.heap.size + 1 < w1.heap.size := bsize hb1 (by simp)
          have hs1' : w.heap.size < w1.heap.size := by omega
          go_wp2_with fail
          refine (valid_any _ _ _).mono ?_
          rintro e w2 ⟨rfl, hb2⟩
          obtain ⟨hc2, hf2⟩ := bcell hb2
          go_wp2_with fail
          go_ret
          exact ⟨ret_int (HV.out.trans H.out), bT (bT (bA (bA (bR _) _) _) hb1) hb2⟩
        · have e3 : n * q ≠ n * d := fun h => e2 (cross_eq h1 h2 h).2
          by_cases c1 : n * q < n * d
          · have HV := Lib.hid (cmpV_lt c1)
            clear e3
            go_enter Tryd.func16, Tryd.ntmps16
            go_wp2_with fail
            refine (valid_any _ _ _).mono ?_
            rintro e w1 ⟨rfl, hb1⟩
            obtain ⟨hc1, hf1⟩ := bcell hb1
            have hs1 : w.heap.size + 1 < w1.heap.size := bsize hb1 (by simp)
            have hs1' : w.heap.size < w1.heap.size := by omega
            go_wp2_with fail
            refine (valid_any _ _ _).mono ?_
            rintro e w2 ⟨rfl, hb2⟩
            obtain ⟨hc2, hf2⟩ := bcell hb2
            go_wp2_with fail
            go_ret
            exact ⟨ret_int (HV.out.trans H.out), bT (bT (bA (bA (bR _) _) _) hb1) hb2⟩
          · have c2 : n * d < n * q := by omega
            have HV := Lib.hid (cmpV_gt c2)
            clear e3
            go_enter Tryd.func16, Tryd.ntmps16
            go_wp2_with fail
            refine (valid_any _ _ _).mono ?_
            rintro e w1 ⟨rfl, hb1⟩
            obtain ⟨hc1, hf1⟩ := bcell hb1
            have hs1 : w.heap.size + 1 < w1.heap.size := bsize hb1 (by simp)
            have hs1' : w.heap.size < w1.heap.size := by omega
            go_wp2_with fail
            refine (valid_any _ _ _).mono ?_
            rintro e w2 ⟨rfl, hb2⟩
            obtain ⟨hc2, hf2⟩ := bcell hb2
            go_wp2_with fail
            go_ret
            exact ⟨ret_int (HV.out.trans H.out), bT (bT (bA (bA (bR _) _) _) hb1) hb2⟩
      · have e3 : n * q ≠ p * d := fun h => e1 (cross_eq h1 h2 h).1
        by_cases c1 : n * q < p * d
        · have HV := Lib.hid (cmpV_lt c1)
          clear e3
          go_enter Tryd.func16, Tryd.ntmps16
          go_wp2_with fail
          refine (valid_any _ _ _).mono ?_
          rintro e w1 ⟨rfl, hb1⟩
          obtain ⟨hc1, hf1⟩ := bcell hb1
          have hs1 : w.heap.size + 1 < w1.heap.size := bsize hb1 (by simp)
          have hs1' : w.heap.size < w1.heap.size := by omega
          go_wp2_with fail
          refine (valid_any _ _ _).mono ?_
          rintro e w2 ⟨rfl, hb2⟩
          obtain ⟨hc2, hf2⟩ := bcell hb2
          go_wp2_with fail
          go_ret
          exact ⟨ret_int (HV.out.trans H.out), bT (bT (bA (bA (bR _) _) _) hb1) hb2⟩
        · have c2 : p * d < n * q := by omega
          have HV := Lib.hid (cmpV_gt c2)
          clear e3
          go_enter Tryd.func16, Tryd.ntmps16
          go_wp2_with fail
          refine (valid_any _ _ _).mono ?_
          rintro e w1 ⟨rfl, hb1⟩
          obtain ⟨hc1, hf1⟩ := bcell hb1
          have hs1 : w.heap.size + 1 < w1.heap.size := bsize hb1 (by simp)
          have hs1' : w.heap.size < w1.heap.size := by omega
          go_wp2_with fail
          refine (valid_any _ _ _).mono ?_
          rintro e w2 ⟨rfl, hb2⟩
          obtain ⟨hc2, hf2⟩ := bcell hb2
          go_wp2_with fail
          go_ret
          exact ⟨ret_int (HV.out.trans H.out), bT (bT (bA (bA (bR _) _) _) hb1) hb2⟩

end Go.Proofs.YtkagciekoeaijaaDoor

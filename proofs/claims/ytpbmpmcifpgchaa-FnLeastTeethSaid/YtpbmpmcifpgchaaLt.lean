/-
  The least number of teeth: LeastTeeth, both sides.
-/
import Derived.Test.YtpbmpmcifpgchaaPi
import Derived.Test.YtpbmpmcifpgchaaAnI
namespace Go.Proofs.Ytpbmpmcifpgchaa
open Go.RowKit

/-- The least number of teeth, ahead of the greatest one. -/
def ltZ (s h k : Int) : Int := max (upq (2 * k * h * h) (10 * s * s)) 6
/-- What LeastTeeth returns. -/
def ltF (s c h k : Int) : Int × Int := if okAn s c h = true then (if inB k 1 20 = true then (if 240 < ltZ s h k then (0, 3) else (ltZ s h k, 0)) else (0, 2)) else (0, 1)
theorem ltF_n1 {s c h k : Int} (e : okAn s c h = false) : ltF s c h k = (0, 1) := by simp [ltF, e]
theorem ltF_n2 {s c h k : Int} (e : okAn s c h = true) (e2 : inB k 1 20 = false) : ltF s c h k = (0, 2) := by simp [ltF, e, e2]
theorem ltF_n3 {s c h k : Int} (e : okAn s c h = true) (e2 : inB k 1 20 = true) (e3 : 240 < ltZ s h k) : ltF s c h k = (0, 3) := by simp [ltF, e, e2, e3]
theorem ltF_yes {s c h k : Int} (e : okAn s c h = true) (e2 : inB k 1 20 = true) (e3 : ¬ 240 < ltZ s h k) : ltF s c h k = (ltZ s h k, 0) := by simp [ltF, e, e2, e3]
theorem num_bd {h k : Int} (h1 : 1 ≤ h) (h2 : h ≤ 1000) (k1 : 1 ≤ k) (k2 : k ≤ 20) : (0 ≤ 2 * k * h ∧ 2 * k * h ≤ 40000) ∧ 0 ≤ 2 * k * h * h ∧ 2 * k * h * h ≤ 40000000 := by
  have a := mul_bd0 (x := 2 * k) (y := h) (a := 40) (b := 1000) (by omega) (by omega) (by omega) (by omega)
  have b := mul_bd0 (x := 2 * k * h) (y := h) (a := 40000) (b := 1000) (by omega) (by omega) (by omega) (by omega)
  omega
theorem den_bd {s : Int} (h1 : 1 ≤ s) (h2 : s ≤ 1000) : (10 ≤ 10 * s ∧ 10 * s ≤ 10000) ∧ 10 ≤ 10 * s * s ∧ 10 * s * s ≤ 10000000 := by
  have b := mul_bd0 (x := 10 * s) (y := s) (a := 10000) (b := 1000) (by omega) (by omega) (by omega) (by omega)
  have c : 10 * 1 ≤ 10 * s * s := Int.mul_le_mul (by omega) h1 (by omega) (by omega)
  omega
theorem upq_bd {n d : Int} (h0 : 0 ≤ n) (hd : 1 ≤ d) : 0 ≤ upq n d ∧ upq n d ≤ n := by
  unfold upq
  have := div_bd (x := -n) (d := d) (A := n) h0 (by omega) (by omega) hd
  have h2 : (-n) / d ≤ 0 := Int.ediv_le_of_le_mul (by omega) (by omega)
  omega
set_option maxHeartbeats 1000000 in
theorem LeastTeethI_any (s c h k : Int) (w : World) :
    Calls Try.prog 19 #[.agg #[.int .i64 s, .int .i64 c, .int .i64 h], .int .i64 k] w (TwoIn (ltF s c h k).1 (ltF s c h k).2 w) := by
  have H0 := Lib.hid (AnH.new w s c h 28)
  cases ho : okAn s c h
  · rw [ltF_n1 ho]
    go_enter Try.func19, Try.ntmps19
    go_wp2_with fail
    refine (ValidAngleI_any _ _ _ _).mono ?_
    rw [ho]
    rintro e w1 ⟨rfl, hb⟩
    go_wp2_with fail
    go_ret2
    exact ⟨rfl, bT H0.out.bel hb⟩
  cases h2 : inB k 1 20
  · rw [ltF_n2 ho h2]
    go_enter Try.func19, Try.ntmps19
    go_wp2_with fail
    refine (ValidAngleI_any _ _ _ _).mono ?_
    rw [ho]
    rintro e w1 ⟨rfl, hb⟩
    have H1 := Lib.hid (H0.out.keep hb)
    clear hb
    go_wp2_with fail
    refine (isBetween_any _ _ _ _).mono ?_
    rw [h2]
    rintro e w2 ⟨rfl, rfl⟩
    go_wp2_with fail
    go_ret2
    exact ⟨rfl, H1.out.bel⟩
  have hk := inB_true.1 h2
  obtain ⟨s1, s2, _, _, e1, e2, _⟩ := okAn_bd ho
  obtain ⟨n1, n2⟩ := num_bd e1 e2 hk.1 hk.2
  obtain ⟨d1, d2⟩ := den_bd s1 s2
  have u := upq_bd (n := 2 * k * h * h) (d := 10 * s * s) (by omega) (by omega)
  by_cases h3 : 240 < ltZ s h k
  · rw [ltF_n3 ho h2 h3]
    unfold ltZ at h3
    go_enter Try.func19, Try.ntmps19
    go_wp2_with fail
    refine (ValidAngleI_any _ _ _ _).mono ?_
    rw [ho]
    rintro e w1 ⟨rfl, hb⟩
    have H1 := Lib.hid (H0.out.keep hb)
    clear hb
    obtain ⟨c0, c1, c2, c6, c7⟩ := H1.out
    go_wp2_with fail
    refine (isBetween_any _ _ _ _).mono ?_
    rw [h2]
    rintro e w2 ⟨rfl, rfl⟩
    go_wp2_with fail
    refine (quoU_any _ _ _ (by omega) (by omega) (by omega)).mono ?_
    rintro e w2 ⟨rfl, rfl⟩
    go_wp2_with fail
    go_ret2
    exact ⟨rfl, H1.out.bel⟩
  · rw [ltF_yes ho h2 h3]
    unfold ltZ at h3 ⊢
    go_enter Try.func19, Try.ntmps19
    go_wp2_with fail
    refine (ValidAngleI_any _ _ _ _).mono ?_
    rw [ho]
    rintro e w1 ⟨rfl, hb⟩
    have H1 := Lib.hid (H0.out.keep hb)
    clear hb
    obtain ⟨c0, c1, c2, c6, c7⟩ := H1.out
    go_wp2_with fail
    refine (isBetween_any _ _ _ _).mono ?_
    rw [h2]
    rintro e w2 ⟨rfl, rfl⟩
    go_wp2_with fail
    refine (quoU_any _ _ _ (by omega) (by omega) (by omega)).mono ?_
    rintro e w2 ⟨rfl, rfl⟩
    go_wp2_with fail
    all_goals (go_ret2; exact ⟨ret_pair (by omega) rfl, H1.out.bel⟩)
/-- One tooth more. -/
theorem lt_hit {s h k z : Int} (hd : 1 ≤ 10 * s * s) (h6 : 6 ≤ z) (hz : z ≤ ltZ s h k) (hc : 2 * k * h * h ≤ 10 * z * s * s) : z = ltZ s h k := by
  have e : 10 * z * s * s = z * (10 * s * s) := by grind
  have := (upq_le (n := 2 * k * h * h) (d := 10 * s * s) (z := z) hd).2 (by omega)
  unfold ltZ at *; omega
theorem lt_miss {s h k z : Int} (hd : 1 ≤ 10 * s * s) (_h6 : 6 ≤ z) (hz : z ≤ ltZ s h k) (hc : ¬ 2 * k * h * h ≤ 10 * z * s * s) : z + 1 ≤ ltZ s h k := by
  have e : 10 * z * s * s = z * (10 * s * s) := by grind
  have := (upq_le (n := 2 * k * h * h) (d := 10 * s * s) (z := z) hd)
  have h2 : ¬ upq (2 * k * h * h) (10 * s * s) ≤ z := fun q => hc (by rw [e]; exact this.1 q)
  unfold ltZ at *; omega
theorem zss_bd {s z : Int} (h1 : 1 ≤ s) (h2 : s ≤ 1000) (z1 : 6 ≤ z) (z2 : z ≤ 241) : (60 ≤ 10 * z ∧ 10 * z ≤ 2410) ∧ (0 ≤ 10 * z * s ∧ 10 * z * s ≤ 2410000) ∧ 0 ≤ 10 * z * s * s ∧ 10 * z * s * s ≤ 2410000000 := by
  have a := mul_bd0 (x := 10 * z) (y := s) (a := 2410) (b := 1000) (by omega) (by omega) (by omega) (by omega)
  have b := mul_bd0 (x := 10 * z * s) (y := s) (a := 2410000) (b := 1000) (by omega) (by omega) (by omega) (by omega)
  omega
set_option maxHeartbeats 2000000 in
theorem LeastTeethS_any (s c h k : Int) (w : World) :
    Calls Try.prog 20 #[.agg #[.int .i64 s, .int .i64 c, .int .i64 h], .int .i64 k] w (TwoIn (ltF s c h k).1 (ltF s c h k).2 w) := by
  have H0 := Lib.hid (AnH.new w s c h 28)
  cases ho : okAn s c h
  · rw [ltF_n1 ho]
    go_enter Try.func20, Try.ntmps20
    go_wp2_with fail
    refine (l10Angle_any _ _ _ _).mono ?_
    rw [ho]
    rintro e w1 ⟨rfl, hb⟩
    go_wp2_with fail
    go_ret2
    exact ⟨rfl, bT H0.out.bel hb⟩
  cases h2 : inB k 1 20
  · rw [ltF_n2 ho h2]
    go_enter Try.func20, Try.ntmps20
    go_wp2_with fail
    refine (l10Angle_any _ _ _ _).mono ?_
    rw [ho]
    rintro e w1 ⟨rfl, hb⟩
    have H1 := Lib.hid (H0.out.keep hb)
    clear hb
    go_wp2_with fail
    refine (l00In_any _ _ _ _).mono ?_
    rw [h2]
    rintro e w2 ⟨rfl, rfl⟩
    go_wp2_with fail
    go_ret2
    exact ⟨rfl, H1.out.bel⟩
  have hk := inB_true.1 h2
  obtain ⟨s1, s2, _, _, e1, e2, _⟩ := okAn_bd ho
  obtain ⟨n1, n2⟩ := num_bd e1 e2 hk.1 hk.2
  obtain ⟨d1, d2⟩ := den_bd s1 s2
  have h6 : 6 ≤ ltZ s h k := by unfold ltZ; omega
  have HY := Lib.hid (@ltF_yes s c h k ho h2)
  have HN := Lib.hid (@ltF_n3 s c h k ho h2)
  go_enter Try.func20, Try.ntmps20
  go_wp2_with fail
  refine (l10Angle_any _ _ _ _).mono ?_
  rw [ho]
  rintro e w1 ⟨rfl, hb⟩
  have H1 := Lib.hid (H0.out.keep hb)
  clear hb
  obtain ⟨c0, c1, c2, c6, c7⟩ := H1.out
  go_wp2_with fail
  refine (l00In_any _ _ _ _).mono ?_
  rw [h2]
  rintro e w2 ⟨rfl, rfl⟩
  clear h2 ho
  go_wp2_with fail
  go_loopw [6] (fun i wr => ∃ z : Int, i = .int .i64 z ∧ 6 ≤ z ∧ z ≤ 241 ∧ z ≤ ltZ s h k ∧ wr = w1) (fun i _ => (241 - intOf i).toNat)
  case atStart => exact ⟨6, rfl, by omega, by omega, h6, rfl⟩
  case round =>
    obtain ⟨z, rfl, z1, z2, z3, rfl⟩ := hrel
    by_cases hz : z ≤ 240
    · obtain ⟨b1, b2, b3⟩ := zss_bd s1 s2 z1 z2
      by_cases hc : 2 * k * h * h ≤ 10 * z * s * s
      · have HE := Lib.hid (lt_hit (by omega) z1 z3 hc)
        go_wp2_with fail
        go_ret2
        rw [HY.out (by have := HE.out; omega)]
        exact ⟨ret_pair HE.out rfl, H1.out.bel⟩
      · have HE := Lib.hid (lt_miss (by omega) z1 z3 hc)
        go_wp2_with fail
        go_roundw
        case rel => exact ⟨z + 1, rfl, by omega, by omega, HE.out, by first | trivial | rfl⟩
        case measure => simp [intOf]; omega
    · go_wp2_with fail
      go_ret2
      rw [HN.out (by omega)]
      exact ⟨rfl, H1.out.bel⟩
end Go.Proofs.Ytpbmpmcifpgchaa

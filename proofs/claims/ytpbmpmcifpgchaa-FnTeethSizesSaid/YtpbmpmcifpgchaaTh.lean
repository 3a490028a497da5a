/-
  The thickness of a tooth: ThicknessBounds, both sides.
-/
import Derived.Test.YtpbmpmcifpgchaaPi
import Derived.Test.YtpbmpmcifpgchaaAnI
namespace Go.Proofs.Ytpbmpmcifpgchaa
open Go.RowKit

theorem thickD_any (t m k s c h b : Int) (w : World) (hm : 1 ≤ m ∧ m ≤ 500) (hb : 0 ≤ b ∧ b ≤ 5000) :
    Calls Try.prog 61 #[.int .i64 0, .agg #[.int .i64 t, .int .i64 m, .int .i64 k, .int .i64 s, .int .i64 c, .int .i64 h], .int .i64 b] w (IntB ((piL (10 * m) - b) / 2) w) := by
  have h1 := piL_bd (n := 10 * m) (by omega) (by omega)
  go_enter Try.func61, Try.ntmps61
  go_wp2_with fail
  refine (timesPiD_any _ _ (by omega) (by omega)).mono ?_
  rintro e w1 ⟨rfl, hb1⟩
  go_wp2_with fail
  refine (quoD_any _ _ _ (by omega) (by omega) (by omega)).mono ?_
  rintro e w3 ⟨rfl, rfl⟩
  go_wp2_with fail
  go_ret
  exact ⟨rfl, bT (bA (bR _) _) hb1⟩
theorem thickU_any (t m k s c h b : Int) (w : World) (hm : 1 ≤ m ∧ m ≤ 500) (hb : 0 ≤ b ∧ b ≤ 5000) :
    Calls Try.prog 61 #[.int .i64 1, .agg #[.int .i64 t, .int .i64 m, .int .i64 k, .int .i64 s, .int .i64 c, .int .i64 h], .int .i64 b] w (IntB (upq (piU (10 * m) - b) 2) w) := by
  have h1 := piU_bd (n := 10 * m) (by omega) (by omega)
  go_enter Try.func61, Try.ntmps61
  go_wp2_with fail
  refine (timesPiU_any _ _ (by omega) (by omega)).mono ?_
  rintro e w1 ⟨rfl, hb1⟩
  go_wp2_with fail
  refine (quoU_any _ _ _ (by omega) (by omega) (by omega)).mono ?_
  rintro e w3 ⟨rfl, rfl⟩
  go_wp2_with fail
  go_ret
  exact ⟨rfl, bT (bA (bR _) _) hb1⟩
def thN (d m b : Int) : Int := if d = 1 then upq (piU (10 * m) - b) 2 else (piL (10 * m) - b) / 2
theorem thick_any (d t m k s c h b : Int) (w : World) (hd : d = 0 ∨ d = 1) (hm : 1 ≤ m ∧ m ≤ 500) (hb : 0 ≤ b ∧ b ≤ 5000) :
    Calls Try.prog 61 #[.int .i64 d, .agg #[.int .i64 t, .int .i64 m, .int .i64 k, .int .i64 s, .int .i64 c, .int .i64 h], .int .i64 b] w (IntB (thN d m b) w) := by
  rcases hd with rfl | rfl
  · exact thickD_any t m k s c h b w hm hb
  · exact thickU_any t m k s c h b w hm hb
/-- What ThicknessBounds returns. -/
def thF (t m k s c h b : Int) : Int × Int × Int := if okPf t m k s c h = true then (if inB b 0 (10 * m) = true then ((piL (10 * m) - b) / 2, upq (piU (10 * m) - b) 2, 0) else (0, 0, 2)) else (0, 0, 1)
theorem thF_n1 {t m k s c h b : Int} (e : okPf t m k s c h = false) : thF t m k s c h b = (0, 0, 1) := by simp [thF, e]
theorem thF_n2 {t m k s c h b : Int} (e : okPf t m k s c h = true) (e2 : inB b 0 (10 * m) = false) : thF t m k s c h b = (0, 0, 2) := by simp [thF, e, e2]
theorem thF_yes {t m k s c h b : Int} (e : okPf t m k s c h = true) (e2 : inB b 0 (10 * m) = true) : thF t m k s c h b = ((piL (10 * m) - b) / 2, upq (piU (10 * m) - b) 2, 0) := by simp [thF, e, e2]
theorem ret_trip {a b c d x y : Int} (h : a = b) (h' : c = d) (h2 : x = y) : Ending.returned (.tuple #[.int .i64 a, .int .i64 c, .int .i64 x]) = .returned (.tuple #[.int .i64 b, .int .i64 d, .int .i64 y]) := by rw [h, h', h2]
set_option maxHeartbeats 1000000 in
theorem ThicknessBoundsS_any (t m k s c h b : Int) (w : World) :
    Calls Try.prog 27 #[.agg #[.int .i64 t, .int .i64 m, .int .i64 k, .int .i64 s, .int .i64 c, .int .i64 h], .int .i64 b] w (ThrIn (thF t m k s c h b).1 (thF t m k s c h b).2.1 (thF t m k s c h b).2.2 w) := by
  have H0 := Lib.hid (PfH.new w t m k s c h 30)
  cases ho : okPf t m k s c h
  · rw [thF_n1 ho]
    go_enter Try.func27, Try.ntmps27
    go_wp2_with fail
    refine (l10Ok_any _ _ _ _ _ _ _).mono ?_
    rw [ho]
    rintro e w1 ⟨rfl, hb⟩
    go_wp2_with fail
    go_ret3
    exact ⟨rfl, bT H0.out.bel hb⟩
  have hm := (okPf_bd ho).2.1
  cases h2 : inB b 0 (10 * m)
  · rw [thF_n2 ho h2]
    go_enter Try.func27, Try.ntmps27
    go_wp2_with fail
    refine (l10Ok_any _ _ _ _ _ _ _).mono ?_
    rw [ho]
    rintro e w1 ⟨rfl, hb⟩
    have H1 := Lib.hid (H0.out.keep hb)
    obtain ⟨c0, c1, c2, c3, c4, c5, c6, c7⟩ := H1.out
    go_wp2_with fail
    refine (l00In_any _ _ _ _).mono ?_
    rw [h2]
    rintro e w2 ⟨rfl, rfl⟩
    go_wp2_with fail
    go_ret3
    exact ⟨rfl, H1.out.bel⟩
  · rw [thF_yes ho h2]
    have hb2 := inB_true.1 h2
    have h3 := piL_bd (n := 10 * m) (by omega) (by omega)
    have h4 := piU_bd (n := 10 * m) (by omega) (by omega)
    have HE := Lib.hid (show -((b - piU (10 * m)) / 2) = upq (piU (10 * m) - b) 2 by unfold upq; rw [Int.neg_sub])
    go_enter Try.func27, Try.ntmps27
    go_wp2_with fail
    refine (l10Ok_any _ _ _ _ _ _ _).mono ?_
    rw [ho]
    rintro e w1 ⟨rfl, hb⟩
    have H1 := Lib.hid (H0.out.keep hb)
    clear hb
    obtain ⟨c0, c1, c2, c3, c4, c5, c6, c7⟩ := H1.out
    go_wp2_with fail
    refine (l00In_any _ _ _ _).mono ?_
    rw [h2]
    rintro e w2 ⟨rfl, rfl⟩
    go_wp2_with fail
    refine (l10Pi_any _ _ (by omega) (by omega)).mono ?_
    rintro e w2 ⟨rfl, rfl⟩
    go_wp2_with fail
    refine (l02Down_any _ _ _ (by omega) (by omega) (by omega)).mono ?_
    rintro e w3 ⟨rfl, rfl⟩
    go_wp2_with fail
    refine (l02Down_any _ _ _ (by omega) (by omega) (by omega)).mono ?_
    rintro e w3 ⟨rfl, rfl⟩
    go_wp2_with fail
    go_ret3
    exact ⟨ret_trip rfl HE.out rfl, H1.out.bel⟩
set_option maxHeartbeats 1000000 in
theorem ThicknessBoundsI_any (t m k s c h b : Int) (w : World) :
    Calls Try.prog 26 #[.agg #[.int .i64 t, .int .i64 m, .int .i64 k, .int .i64 s, .int .i64 c, .int .i64 h], .int .i64 b] w (ThrIn (thF t m k s c h b).1 (thF t m k s c h b).2.1 (thF t m k s c h b).2.2 w) := by
  have H0 := Lib.hid (PfH.new w t m k s c h 30)
  cases ho : okPf t m k s c h
  · rw [thF_n1 ho]
    go_enter Try.func26, Try.ntmps26
    go_wp2_with fail
    refine (ValidProfileI_any _ _ _ _ _ _ _).mono ?_
    rw [ho]
    rintro e w1 ⟨rfl, hb⟩
    go_wp2_with fail
    go_ret3
    exact ⟨rfl, bT H0.out.bel hb⟩
  have hm := (okPf_bd ho).2.1
  cases h2 : inB b 0 (10 * m)
  · rw [thF_n2 ho h2]
    go_enter Try.func26, Try.ntmps26
    go_wp2_with fail
    refine (ValidProfileI_any _ _ _ _ _ _ _).mono ?_
    rw [ho]
    rintro e w1 ⟨rfl, hb⟩
    have H1 := Lib.hid (H0.out.keep hb)
    obtain ⟨c0, c1, c2, c3, c4, c5, c6, c7⟩ := H1.out
    go_wp2_with fail
    refine (isBetween_any _ _ _ _).mono ?_
    rw [h2]
    rintro e w2 ⟨rfl, rfl⟩
    go_wp2_with fail
    go_ret3
    exact ⟨rfl, H1.out.bel⟩
  · rw [thF_yes ho h2]
    have hb2 := inB_true.1 h2
    have hb3 : 0 ≤ b ∧ b ≤ 5000 := by omega
    go_enter Try.func26, Try.ntmps26
    go_wp2_with fail
    refine (ValidProfileI_any _ _ _ _ _ _ _).mono ?_
    rw [ho]
    rintro e W1 ⟨rfl, hb⟩
    have H1 := H0.out.keep hb
    have HM := Lib.hid (And.intro hm hb3)
    clear hb hb3 ho
    obtain ⟨c0, c1, c2, c3, c4, c5, c6, c7⟩ := id H1
    go_upto_region 5 with (go_at_call 51; refine (isBetween_any _ _ _ _).mono ?_; rw [h2]; rintro e w2 ⟨rfl, rfl⟩)
    clear c0 c1 c2 c3 c4 c5 c6 c7 hm hb2 h2
    go_region_held3 (fun w' => w'.cell? ⟨w.heap.size, 0, none⟩ = some (.int .i64 t) ∧ w'.cell? ⟨w.heap.size, 1, none⟩ = some (.int .i64 m) ∧ w'.cell? ⟨w.heap.size, 2, none⟩ = some (.int .i64 k) ∧ w'.cell? ⟨w.heap.size, 3, none⟩ = some (.int .i64 s) ∧ w'.cell? ⟨w.heap.size, 4, none⟩ = some (.int .i64 c) ∧ w'.cell? ⟨w.heap.size, 5, none⟩ = some (.int .i64 h) ∧ w.heap.size < w'.heap.size ∧ Below w.heap.size w w') (first | exact H1.drew | assumption | exact PfH.keep hb (by assumption))
      (first
        | (go_at_call 61; refine (thick_any _ _ _ _ _ _ _ _ _ (by first | exact Or.inl rfl | exact Or.inr rfl) HM.out.1 HM.out.2).mono ?_; rintro e w' ⟨rfl, hb⟩))
    have H2 : PfH w w.heap.size t m k s c h w' := by assumption
    have L := Lib.hid H2.bel
    clear hb H1 H2
    go_wp2_with fail
    go_ret3
    exact ⟨rfl, L.out⟩
end Go.Proofs.Ytpbmpmcifpgchaa

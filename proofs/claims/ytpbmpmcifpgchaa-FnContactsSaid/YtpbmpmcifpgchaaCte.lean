/-
  Contact ratios: the contact in a direction; ContactBounds, both sides.
-/
import Derived.Test.YtpbmpmcifpgchaaCtd
namespace Go.Proofs.Ytpbmpmcifpgchaa
open Go.RowKit

/-- The way of contact in a direction. -/
def wayN (d t m k s c h t2 k2 : Int) : Int := rdN d (sqd t m k c h) + rdN d (sqd t2 m k2 c h) - (pit t m + pit t2 m) * s
/-- The bounds of the contact ratio. -/
def ctD (t m k s c h t2 k2 : Int) : Int := 1000 * wayN 0 t m k s c h t2 k2 * 33215 / (20 * m * c * 104348)
def ctU (t m k s c h t2 k2 : Int) : Int := upq (1000 * wayN 1 t m k s c h t2 k2 * 33102) (20 * m * c * 103993)
def ctN (d t m k s c h t2 k2 : Int) : Int := if d = 1 then ctU t m k s c h t2 k2 else ctD t m k s c h t2 k2
theorem way_bd {d t m k s c h t2 k2 : Int} (e : okPf t m k s c h = true) (e2 : okPf t2 m k2 s c h = true) : -2400000000 ≤ wayN d t m k s c h t2 k2 ∧ wayN d t m k s c h t2 k2 ≤ 2440000002 := by
  have p1 := rd_bdS (d := d) e
  have p2 := rd_bdS (d := d) e2
  have L := lim_of e
  have L2 := lim_of e2
  have l := ln_bd L.1 L.2.1 L2.1 L2.2.1 L.2.2.2.1
  unfold wayN; omega
theorem mc_bd {m c : Int} (hm : 1 ≤ m ∧ m ≤ 500) (hc : 1 ≤ c ∧ c ≤ 1000) : 1 ≤ 20 * m * c ∧ 20 * m * c ≤ 10000000 := by
  have a := mul_bd0 (x := 20 * m) (y := c) (a := 10000) (b := 1000) (by omega) (by omega) (by omega) (by omega)
  have b : 20 * 1 ≤ 20 * m * c := Int.mul_le_mul (by omega) hc.1 (by omega) (by omega)
  omega
theorem opposite_any (d : Int) (w : World) (hd : d = 0 ∨ d = 1) : Calls Try.prog 79 #[.int .i64 d] w fun e w' => e = .returned (.int .i64 (1 - d)) ∧ w = w' := by
  go_enter Try.func79, Try.ntmps79
  go_wp2_with fail
  go_ret
  exact ⟨rfl, rfl⟩
set_option maxRecDepth 100000 in
set_option maxHeartbeats 4000000 in
theorem contactD_any (t m k s c h t2 k2 : Int) (w : World) (e : okPf t m k s c h = true) (e2 : okPf t2 m k2 s c h = true) :
    Calls Try.prog 47 #[.agg #[.int .i64 t, .int .i64 m, .int .i64 k, .int .i64 s, .int .i64 c, .int .i64 h, .int .i64 t2, .int .i64 m, .int .i64 k2, .int .i64 s, .int .i64 c, .int .i64 h], .int .i64 0] w (IntB (ctD t m k s c h t2 k2) w) := by
  have b := way_bd (d := 0) e e2
  have L := lim_of e
  have b2 := mc_bd L.2.1 L.2.2.2.2.1
  have q1 := wrI (wayN 0 t m k s c h t2 k2) (by omega)
  have HS := Lib.hid (fun W => sumReach_any 0 t m k s c h t2 m k2 s c h W (by omega) e e2)
  have HN := Lib.hid (fun W => line_any t m k s c h t2 m k2 s c h W L (lim_of e2))
  have HB := Lib.hid (And.intro b (And.intro b2 L.2.1))
  unfold ctD
  unfold wayN at q1
  have H0 := EgH.new w t m k s c h t2 m k2 s c h 61
  clear b b2 e e2 L
  go_enter Try.func47, Try.ntmps47
  go_upto_region 1 with fail
  generalize w.alloc (.cells #[.int .i64 t, .int .i64 m, .int .i64 k, .int .i64 s, .int .i64 c, .int .i64 h, .int .i64 t2, .int .i64 m, .int .i64 k2, .int .i64 s, .int .i64 c, .int .i64 h] 61) = W0 at *
  go_region_held3 (fun w' => w'.cell? ⟨w.heap.size, 0, none⟩ = some (.int .i64 t) ∧ w'.cell? ⟨w.heap.size, 1, none⟩ = some (.int .i64 m) ∧ w'.cell? ⟨w.heap.size, 2, none⟩ = some (.int .i64 k) ∧ w'.cell? ⟨w.heap.size, 3, none⟩ = some (.int .i64 s) ∧ w'.cell? ⟨w.heap.size, 4, none⟩ = some (.int .i64 c) ∧ w'.cell? ⟨w.heap.size, 5, none⟩ = some (.int .i64 h) ∧ w'.cell? ⟨w.heap.size, 6, none⟩ = some (.int .i64 t2) ∧ w'.cell? ⟨w.heap.size, 7, none⟩ = some (.int .i64 m) ∧ w'.cell? ⟨w.heap.size, 8, none⟩ = some (.int .i64 k2) ∧ w'.cell? ⟨w.heap.size, 9, none⟩ = some (.int .i64 s) ∧ w'.cell? ⟨w.heap.size, 10, none⟩ = some (.int .i64 c) ∧ w'.cell? ⟨w.heap.size, 11, none⟩ = some (.int .i64 h) ∧ w.heap.size < w'.heap.size ∧ Below w.heap.size w w') (first | exact H0.drew | assumption | exact EgH.keep hb (by assumption))
    (first
      | (go_at_call 77; refine (HS.out _).mono ?_; rintro e w' ⟨rfl, hb⟩)
      | (go_at_call 73; refine (HN.out _).mono ?_; rintro e w' ⟨rfl, hb⟩))
  have H1 : EgH w w.heap.size t m k s c h t2 m k2 s c h w' := by assumption
  clear hb H0 q1 HS HN
  have HW : rdN 0 (sqd t m k c h) + rdN 0 (sqd t2 m k2 c h) - (pit t m + pit t2 m) * s = wayN 0 t m k s c h t2 k2 := rfl
  rw [HW]
  clear HW
  generalize wayN 0 t m k s c h t2 k2 = y at *
  go_wp2_with fail
  refine (opposite_any _ _ (by omega)).mono ?_
  rintro e w2 ⟨rfl, rfl⟩
  go_wp2_with fail
  refine (piU_any _).mono ?_
  rintro e w2 ⟨rfl, hb⟩
  have H2 := H1.keep (hb.trans (bA (bR w2) (.cells #[.int .i64 104348, .int .i64 33215] 94) |>.mono hb.size))
  obtain ⟨g0, g1, g2, g3, g4, g5, g6, g7, g8, g9, g10, g11, g12, g13⟩ := H2
  have G := Lib.hid g13
  clear H1 hb g13
  obtain ⟨⟨b0, b1⟩, ⟨b2, b3⟩, b4, b5⟩ := HB.out
  go_wp2_with fail
  refine (quoD_any _ _ _ (by omega) (by omega) (by omega)).mono ?_
  rintro e w3 ⟨rfl, rfl⟩
  go_wp2_with fail
  go_ret
  exact ⟨rfl, G.out⟩
set_option maxRecDepth 100000 in
set_option maxHeartbeats 4000000 in
theorem contactU_any (t m k s c h t2 k2 : Int) (w : World) (e : okPf t m k s c h = true) (e2 : okPf t2 m k2 s c h = true) :
    Calls Try.prog 47 #[.agg #[.int .i64 t, .int .i64 m, .int .i64 k, .int .i64 s, .int .i64 c, .int .i64 h, .int .i64 t2, .int .i64 m, .int .i64 k2, .int .i64 s, .int .i64 c, .int .i64 h], .int .i64 1] w (IntB (ctU t m k s c h t2 k2) w) := by
  have b := way_bd (d := 1) e e2
  have L := lim_of e
  have b2 := mc_bd L.2.1 L.2.2.2.2.1
  have q1 := wrI (wayN 1 t m k s c h t2 k2) (by omega)
  have HS := Lib.hid (fun W => sumReach_any 1 t m k s c h t2 m k2 s c h W (by omega) e e2)
  have HN := Lib.hid (fun W => line_any t m k s c h t2 m k2 s c h W L (lim_of e2))
  have HB := Lib.hid (And.intro b (And.intro b2 L.2.1))
  unfold ctU
  unfold wayN at q1
  have H0 := EgH.new w t m k s c h t2 m k2 s c h 61
  clear b b2 e e2 L
  go_enter Try.func47, Try.ntmps47
  go_upto_region 1 with fail
  generalize w.alloc (.cells #[.int .i64 t, .int .i64 m, .int .i64 k, .int .i64 s, .int .i64 c, .int .i64 h, .int .i64 t2, .int .i64 m, .int .i64 k2, .int .i64 s, .int .i64 c, .int .i64 h] 61) = W0 at *
  go_region_held3 (fun w' => w'.cell? ⟨w.heap.size, 0, none⟩ = some (.int .i64 t) ∧ w'.cell? ⟨w.heap.size, 1, none⟩ = some (.int .i64 m) ∧ w'.cell? ⟨w.heap.size, 2, none⟩ = some (.int .i64 k) ∧ w'.cell? ⟨w.heap.size, 3, none⟩ = some (.int .i64 s) ∧ w'.cell? ⟨w.heap.size, 4, none⟩ = some (.int .i64 c) ∧ w'.cell? ⟨w.heap.size, 5, none⟩ = some (.int .i64 h) ∧ w'.cell? ⟨w.heap.size, 6, none⟩ = some (.int .i64 t2) ∧ w'.cell? ⟨w.heap.size, 7, none⟩ = some (.int .i64 m) ∧ w'.cell? ⟨w.heap.size, 8, none⟩ = some (.int .i64 k2) ∧ w'.cell? ⟨w.heap.size, 9, none⟩ = some (.int .i64 s) ∧ w'.cell? ⟨w.heap.size, 10, none⟩ = some (.int .i64 c) ∧ w'.cell? ⟨w.heap.size, 11, none⟩ = some (.int .i64 h) ∧ w.heap.size < w'.heap.size ∧ Below w.heap.size w w') (first | exact H0.drew | assumption | exact EgH.keep hb (by assumption))
    (first
      | (go_at_call 77; refine (HS.out _).mono ?_; rintro e w' ⟨rfl, hb⟩)
      | (go_at_call 73; refine (HN.out _).mono ?_; rintro e w' ⟨rfl, hb⟩))
  have H1 : EgH w w.heap.size t m k s c h t2 m k2 s c h w' := by assumption
  clear hb H0 q1 HS HN
  have HW : rdN 1 (sqd t m k c h) + rdN 1 (sqd t2 m k2 c h) - (pit t m + pit t2 m) * s = wayN 1 t m k s c h t2 k2 := rfl
  rw [HW]
  clear HW
  generalize wayN 1 t m k s c h t2 k2 = y at *
  go_wp2_with fail
  refine (opposite_any _ _ (by omega)).mono ?_
  rintro e w2 ⟨rfl, rfl⟩
  go_wp2_with fail
  refine (piD_any _).mono ?_
  rintro e w2 ⟨rfl, hb⟩
  have H2 := H1.keep (hb.trans (bA (bR w2) (.cells #[.int .i64 103993, .int .i64 33102] 94) |>.mono hb.size))
  obtain ⟨g0, g1, g2, g3, g4, g5, g6, g7, g8, g9, g10, g11, g12, g13⟩ := H2
  have G := Lib.hid g13
  clear H1 hb g13
  obtain ⟨⟨b0, b1⟩, ⟨b2, b3⟩, b4, b5⟩ := HB.out
  go_wp2_with fail
  refine (quoU_any _ _ _ (by omega) (by omega) (by omega)).mono ?_
  rintro e w3 ⟨rfl, rfl⟩
  go_wp2_with fail
  go_ret
  exact ⟨rfl, G.out⟩
theorem contact_any (d t m k s c h t2 k2 : Int) (w : World) (hd : d = 0 ∨ d = 1) (e : okPf t m k s c h = true) (e2 : okPf t2 m k2 s c h = true) :
    Calls Try.prog 47 #[.agg #[.int .i64 t, .int .i64 m, .int .i64 k, .int .i64 s, .int .i64 c, .int .i64 h, .int .i64 t2, .int .i64 m, .int .i64 k2, .int .i64 s, .int .i64 c, .int .i64 h], .int .i64 d] w (IntB (ctN d t m k s c h t2 k2) w) := by
  rcases hd with rfl | rfl
  · exact contactD_any t m k s c h t2 k2 w e e2
  · exact contactU_any t m k s c h t2 k2 w e e2
/-- What ContactBounds returns. -/
def cbN (t m k s c h t2 m2 k2 s2 c2 h2 : Int) : Int × Int × Int := if twC t m k s c h t2 m2 k2 s2 c2 h2 = 0 then (ctD t m k s c h t2 k2, ctU t m k s c h t2 k2, 0) else (0, 0, twC t m k s c h t2 m2 k2 s2 c2 h2)
theorem cbN_no {t m k s c h t2 m2 k2 s2 c2 h2 : Int} (e : ¬ twC t m k s c h t2 m2 k2 s2 c2 h2 = 0) : cbN t m k s c h t2 m2 k2 s2 c2 h2 = (0, 0, twC t m k s c h t2 m2 k2 s2 c2 h2) := by simp [cbN, e]
theorem cbN_yes {t m k s c h t2 m2 k2 s2 c2 h2 : Int} (e : twC t m k s c h t2 m2 k2 s2 c2 h2 = 0) : cbN t m k s c h t2 m2 k2 s2 c2 h2 = (ctD t m k s c h t2 k2, ctU t m k s c h t2 k2, 0) := by simp [cbN, e]
set_option maxRecDepth 100000 in
set_option maxHeartbeats 4000000 in
theorem ContactBoundsI_any (t m k s c h t2 m2 k2 s2 c2 h2 : Int) (w : World) :
    Calls Try.prog 16 #[.agg #[.int .i64 t, .int .i64 m, .int .i64 k, .int .i64 s, .int .i64 c, .int .i64 h], .agg #[.int .i64 t2, .int .i64 m2, .int .i64 k2, .int .i64 s2, .int .i64 c2, .int .i64 h2]] w (ThrIn (cbN t m k s c h t2 m2 k2 s2 c2 h2).1 (cbN t m k s c h t2 m2 k2 s2 c2 h2).2.1 (cbN t m k s c h t2 m2 k2 s2 c2 h2).2.2 w) := by
  have H0 := Lib.hid (PwH.new w t m k s c h t2 m2 k2 s2 c2 h2 30 30)
  have X0 := Lib.hid (EgH.new ((w.alloc (.cells #[.int .i64 t, .int .i64 m, .int .i64 k, .int .i64 s, .int .i64 c, .int .i64 h] 30)).alloc (.cells #[.int .i64 t2, .int .i64 m2, .int .i64 k2, .int .i64 s2, .int .i64 c2, .int .i64 h2] 30)) t m k s c h t2 m2 k2 s2 c2 h2 61)
  have e2 : ((w.alloc (.cells #[.int .i64 t, .int .i64 m, .int .i64 k, .int .i64 s, .int .i64 c, .int .i64 h] 30)).alloc (.cells #[.int .i64 t2, .int .i64 m2, .int .i64 k2, .int .i64 s2, .int .i64 c2, .int .i64 h2] 30)).heap.size = w.heap.size + 1 + 1 := by simp
  rw [e2] at X0
  clear e2
  have CO := Lib.hid (fun W => code_any t m k s c h t2 m2 k2 s2 c2 h2 W)
  by_cases hz : twC t m k s c h t2 m2 k2 s2 c2 h2 = 0
  · rw [cbN_yes hz]
    obtain ⟨o1, o2, rfl, rfl, rfl, rfl⟩ := twC_zero hz
    rw [hz] at CO
    have HO := Lib.hid (And.intro o1 o2)
    clear hz o1 o2
    go_enter Try.func16, Try.ntmps16
    go_wp2_with fail
    refine (CO.out _).mono ?_
    rintro e w1 ⟨rfl, hb⟩
    have X1 := X0.out.keep hb
    have L1 := Lib.hid (bT H0.out.bel X1.bel)
    clear hb X0 H0 CO
    go_upto_region 5 with fail
    generalize hb3 : w.heap.size + 1 + 1 = b3 at *
    clear hb3
    have X1 : EgH w1 b3 t m2 k s2 c2 h2 t2 m2 k2 s2 c2 h2 w1 := by
      obtain ⟨c0, c1, c2', c3, c4, c5, d0, d1, d2, d3, d4, d5, e0, e1⟩ := X1
      exact ⟨c0, c1, c2', c3, c4, c5, d0, d1, d2, d3, d4, d5, e0, bR _⟩
    go_region_held3 (fun w' => w'.cell? ⟨b3, 0, none⟩ = some (.int .i64 t) ∧ w'.cell? ⟨b3, 1, none⟩ = some (.int .i64 m2) ∧ w'.cell? ⟨b3, 2, none⟩ = some (.int .i64 k) ∧ w'.cell? ⟨b3, 3, none⟩ = some (.int .i64 s2) ∧ w'.cell? ⟨b3, 4, none⟩ = some (.int .i64 c2) ∧ w'.cell? ⟨b3, 5, none⟩ = some (.int .i64 h2) ∧ w'.cell? ⟨b3, 6, none⟩ = some (.int .i64 t2) ∧ w'.cell? ⟨b3, 7, none⟩ = some (.int .i64 m2) ∧ w'.cell? ⟨b3, 8, none⟩ = some (.int .i64 k2) ∧ w'.cell? ⟨b3, 9, none⟩ = some (.int .i64 s2) ∧ w'.cell? ⟨b3, 10, none⟩ = some (.int .i64 c2) ∧ w'.cell? ⟨b3, 11, none⟩ = some (.int .i64 h2) ∧ b3 < w'.heap.size ∧ Below w1.heap.size w1 w') (first | exact X1.drew | assumption | exact EgH.keep hb (by assumption))
      (first
        | (go_at_call 47; refine (contact_any _ _ _ _ _ _ _ _ _ _ (by first | exact Or.inl rfl | exact Or.inr rfl) HO.out.1 HO.out.2).mono ?_; rintro e w' ⟨rfl, hb⟩))
    have X2 : EgH w1 b3 t m2 k s2 c2 h2 t2 m2 k2 s2 c2 h2 w' := by assumption
    have L2 := Lib.hid (bT L1.out X2.bel)
    clear hb X1 X2
    go_wp2_with fail
    go_ret3
    exact ⟨rfl, L2.out⟩
  · rw [cbN_no hz]
    generalize twC t m k s c h t2 m2 k2 s2 c2 h2 = z at *
    have hz1 : (z != 0) = true := by simpa using hz
    go_enter Try.func16, Try.ntmps16
    go_wp2_with fail
    refine (CO.out _).mono ?_
    rintro e w1 ⟨rfl, hb⟩
    have X1 := Lib.hid (X0.out.keep hb)
    have L1 := Lib.hid (bT H0.out.bel X1.out.bel)
    clear hb
    go_wp2_with fail
    go_ret3
    exact ⟨rfl, L1.out⟩
end Go.Proofs.Ytpbmpmcifpgchaa

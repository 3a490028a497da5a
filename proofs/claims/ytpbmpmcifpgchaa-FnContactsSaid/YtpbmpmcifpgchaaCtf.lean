/-
  ContactBounds, the document's side; the walk of laws.FnExactContactBounds.
-/
import Derived.Test.YtpbmpmcifpgchaaCte
namespace Go.Proofs.Ytpbmpmcifpgchaa
open Go.RowKit

theorem ret_tri {a b c d x y : Int} (h : a = b) (h' : c = d) (h2 : x = y) : Ending.returned (.tuple #[.int .i64 a, .int .i64 c, .int .i64 x]) = .returned (.tuple #[.int .i64 b, .int .i64 d, .int .i64 y]) := by rw [h, h', h2]
set_option maxRecDepth 100000 in
set_option maxHeartbeats 8000000 in
theorem ContactBoundsS_any (t m k s c h t2 m2 k2 s2 c2 h2 : Int) (w : World) :
    Calls Try.prog 15 #[.agg #[.int .i64 t, .int .i64 m, .int .i64 k, .int .i64 s, .int .i64 c, .int .i64 h], .agg #[.int .i64 t2, .int .i64 m2, .int .i64 k2, .int .i64 s2, .int .i64 c2, .int .i64 h2]] w (ThrIn (cbN t m k s c h t2 m2 k2 s2 c2 h2).1 (cbN t m k s c h t2 m2 k2 s2 c2 h2).2.1 (cbN t m k s c h t2 m2 k2 s2 c2 h2).2.2 w) := by
  have H0 := Lib.hid (PwH.new w t m k s c h t2 m2 k2 s2 c2 h2 30 30)
  have CO := Lib.hid (fun W => l10Two_any t m k s c h t2 m2 k2 s2 c2 h2 W)
  by_cases hz : twC t m k s c h t2 m2 k2 s2 c2 h2 = 0
  · rw [cbN_yes hz]
    obtain ⟨o1, o2, rfl, rfl, rfl, rfl⟩ := twC_zero hz
    rw [hz] at CO
    have L := lim_of o1
    have L2 := lim_of o2
    have ln := ln_bd L.1 L.2.1 L2.1 L2.2.1 L.2.2.2.1
    have p1 := pit_bd L.1 L.2.1
    have p2 := pit_bd L2.1 L2.2.1
    have b0 := way_bd (d := 0) o1 o2
    have b1 := way_bd (d := 1) o1 o2
    have bm := mc_bd L.2.1 L.2.2.2.2.1
    have r1 := rt_bdS o1
    have r2 := rt_bdS o2
    have q0 := wrI (pit t m2 + pit t2 m2) (by omega)
    have q1 := wrI ((pit t m2 + pit t2 m2) * s2) (by omega)
    have q2 := wrI (rt (sqd t m2 k c2 h2) + rt (sqd t2 m2 k2 c2 h2)) (by omega)
    have q3 := wrI (rt (sqd t m2 k c2 h2) + rt (sqd t2 m2 k2 c2 h2) - (pit t m2 + pit t2 m2) * s2) (by omega)
    have q4 := wrI (ru (sqd t m2 k c2 h2) + ru (sqd t2 m2 k2 c2 h2)) (by omega)
    have q5 := wrI (ru (sqd t m2 k c2 h2) + ru (sqd t2 m2 k2 c2 h2) - (pit t m2 + pit t2 m2) * s2) (by omega)
    have HL := Lib.hid (And.intro L L2)
    have HO := Lib.hid (And.intro o1 o2)
    have HQ := Lib.hid (And.intro (sqd_bd o1) (sqd_bd o2))
    have HB := Lib.hid (And.intro b0 (And.intro b1 (And.intro bm L.2.1)))
    clear hz o1 o2 L L2 ln p1 p2 b0 b1 bm r1 r2
    go_enter Try.func15, Try.ntmps15
    go_wp2_with fail
    refine (CO.out _).mono ?_
    rintro e w1 ⟨rfl, hb⟩
    have H1 := H0.out.keep hb
    clear hb H0 CO
    go_upto_region 4 with fail
    generalize w.heap.size + 1 = bx at *
    go_region_held3 (fun w' => w'.cell? ⟨w.heap.size, 0, none⟩ = some (.int .i64 t) ∧ w'.cell? ⟨w.heap.size, 1, none⟩ = some (.int .i64 m2) ∧ w'.cell? ⟨w.heap.size, 2, none⟩ = some (.int .i64 k) ∧ w'.cell? ⟨w.heap.size, 3, none⟩ = some (.int .i64 s2) ∧ w'.cell? ⟨w.heap.size, 4, none⟩ = some (.int .i64 c2) ∧ w'.cell? ⟨w.heap.size, 5, none⟩ = some (.int .i64 h2) ∧ w'.cell? ⟨bx, 0, none⟩ = some (.int .i64 t2) ∧ w'.cell? ⟨bx, 1, none⟩ = some (.int .i64 m2) ∧ w'.cell? ⟨bx, 2, none⟩ = some (.int .i64 k2) ∧ w'.cell? ⟨bx, 3, none⟩ = some (.int .i64 s2) ∧ w'.cell? ⟨bx, 4, none⟩ = some (.int .i64 c2) ∧ w'.cell? ⟨bx, 5, none⟩ = some (.int .i64 h2) ∧ w.heap.size < w'.heap.size ∧ bx < w'.heap.size ∧ Below w.heap.size w w') (first | exact H1.drew | assumption | exact PwH.keep hb (by assumption))
      (first | (go_at_call 42; refine (l10Pitch_any _ _ _ _ _ _ _ (by first | exact HL.out.1.1 | exact HL.out.2.1) (by first | exact HL.out.1.2.1 | exact HL.out.2.2.1)).mono ?_; rintro e w' ⟨rfl, hb⟩))
    have H2 : PwH w w.heap.size bx t m2 k s2 c2 h2 t2 m2 k2 s2 c2 h2 w' := by assumption
    clear hb H1
    go_upto_region 5 with fail
    generalize w' = W2 at *
    go_region_held3 (fun w' => w'.cell? ⟨w.heap.size, 0, none⟩ = some (.int .i64 t) ∧ w'.cell? ⟨w.heap.size, 1, none⟩ = some (.int .i64 m2) ∧ w'.cell? ⟨w.heap.size, 2, none⟩ = some (.int .i64 k) ∧ w'.cell? ⟨w.heap.size, 3, none⟩ = some (.int .i64 s2) ∧ w'.cell? ⟨w.heap.size, 4, none⟩ = some (.int .i64 c2) ∧ w'.cell? ⟨w.heap.size, 5, none⟩ = some (.int .i64 h2) ∧ w'.cell? ⟨bx, 0, none⟩ = some (.int .i64 t2) ∧ w'.cell? ⟨bx, 1, none⟩ = some (.int .i64 m2) ∧ w'.cell? ⟨bx, 2, none⟩ = some (.int .i64 k2) ∧ w'.cell? ⟨bx, 3, none⟩ = some (.int .i64 s2) ∧ w'.cell? ⟨bx, 4, none⟩ = some (.int .i64 c2) ∧ w'.cell? ⟨bx, 5, none⟩ = some (.int .i64 h2) ∧ w.heap.size < w'.heap.size ∧ bx < w'.heap.size ∧ Below w.heap.size w w') (first | exact H2.drew | assumption | exact PwH.keep hb (by assumption))
      (first
        | (go_at_call 44; refine (l10Square_any _ _ _ _ _ _ _ (by first | exact HO.out.1 | exact HO.out.2)).mono ?_; rintro e w' ⟨rfl, hb⟩)
        | (go_at_call 43; refine (l10Root_any _ _ (by have := HQ.out; omega) (by have := HQ.out; omega)).mono ?_; rintro e w' ⟨rfl, rfl⟩; have hb := bR w'))
    have H3 : PwH w w.heap.size bx t m2 k s2 c2 h2 t2 m2 k2 s2 c2 h2 w' := by assumption
    clear hb H2
    go_upto_region 6 with fail
    generalize w' = W3 at *
    go_region_held3 (fun w' => w'.cell? ⟨w.heap.size, 0, none⟩ = some (.int .i64 t) ∧ w'.cell? ⟨w.heap.size, 1, none⟩ = some (.int .i64 m2) ∧ w'.cell? ⟨w.heap.size, 2, none⟩ = some (.int .i64 k) ∧ w'.cell? ⟨w.heap.size, 3, none⟩ = some (.int .i64 s2) ∧ w'.cell? ⟨w.heap.size, 4, none⟩ = some (.int .i64 c2) ∧ w'.cell? ⟨w.heap.size, 5, none⟩ = some (.int .i64 h2) ∧ w'.cell? ⟨bx, 0, none⟩ = some (.int .i64 t2) ∧ w'.cell? ⟨bx, 1, none⟩ = some (.int .i64 m2) ∧ w'.cell? ⟨bx, 2, none⟩ = some (.int .i64 k2) ∧ w'.cell? ⟨bx, 3, none⟩ = some (.int .i64 s2) ∧ w'.cell? ⟨bx, 4, none⟩ = some (.int .i64 c2) ∧ w'.cell? ⟨bx, 5, none⟩ = some (.int .i64 h2) ∧ w.heap.size < w'.heap.size ∧ bx < w'.heap.size ∧ Below w.heap.size w w') (first | exact H3.drew | assumption | exact PwH.keep hb (by assumption))
      (first
        | (go_at_call 44; refine (l10Square_any _ _ _ _ _ _ _ (by first | exact HO.out.1 | exact HO.out.2)).mono ?_; rintro e w' ⟨rfl, hb⟩)
        | (go_at_call 45; refine (l10Above_any _ _ (by have := HQ.out; omega) (by have := HQ.out; omega)).mono ?_; rintro e w' ⟨rfl, rfl⟩; have hb := bR w'))
    have H4 : PwH w w.heap.size bx t m2 k s2 c2 h2 t2 m2 k2 s2 c2 h2 w' := by assumption
    clear hb H3 q0 q1 q2 q3 q4 q5
    have W0 : rt (sqd t m2 k c2 h2) + rt (sqd t2 m2 k2 c2 h2) - (pit t m2 + pit t2 m2) * s2 = wayN 0 t m2 k s2 c2 h2 t2 k2 := rfl
    have W1 : ru (sqd t m2 k c2 h2) + ru (sqd t2 m2 k2 c2 h2) - (pit t m2 + pit t2 m2) * s2 = wayN 1 t m2 k s2 c2 h2 t2 k2 := rfl
    rw [W0, W1]
    clear W0 W1 HL HO HQ
    have HCD := Lib.hid (show 1000 * wayN 0 t m2 k s2 c2 h2 t2 k2 * 33215 / (20 * m2 * c2 * 104348) = ctD t m2 k s2 c2 h2 t2 k2 from rfl)
    have HCU := Lib.hid (show upq (1000 * wayN 1 t m2 k s2 c2 h2 t2 k2 * 33102) (20 * m2 * c2 * 103993) = ctU t m2 k s2 c2 h2 t2 k2 from rfl)
    generalize wayN 0 t m2 k s2 c2 h2 t2 k2 = y at *
    generalize wayN 1 t m2 k s2 c2 h2 t2 k2 = z at *
    obtain ⟨⟨b0, b1⟩, ⟨b2, b3⟩, ⟨b4, b5⟩, b6, b7⟩ := HB.out
    have db := div_bd (x := -1000 * z * 33102) (d := 20 * m2 * c2 * 103993) (A := 4000000000000000000) (by omega) (by omega) (by omega) (by omega)
    have HE := Lib.hid (show -(-1000 * z * 33102 / (20 * m2 * c2 * 103993)) = upq (1000 * z * 33102) (20 * m2 * c2 * 103993) by unfold upq; rw [show -1000 * z * 33102 = -(1000 * z * 33102) by omega])
    obtain ⟨g0, g1, g2, g3, g4, g5, g6, g7, g8, g9, g10, g11, g12, g13, g14⟩ := H4
    have G := Lib.hid g14
    clear g14
    go_wp2_with fail
    refine (l02Down_any _ _ _ (by omega) (by omega) (by omega)).mono ?_
    rintro e w2 ⟨rfl, rfl⟩
    go_wp2_with fail
    refine (l02Down_any _ _ _ (by omega) (by omega) (by omega)).mono ?_
    rintro e w2 ⟨rfl, rfl⟩
    go_wp2_with fail
    go_ret3
    exact ⟨ret_tri HCD.out (HE.out.trans HCU.out) rfl, G.out⟩
  · rw [cbN_no hz]
    generalize twC t m k s c h t2 m2 k2 s2 c2 h2 = z at *
    have hz1 : (z != 0) = true := by simpa using hz
    go_enter Try.func15, Try.ntmps15
    go_wp2_with fail
    refine (CO.out _).mono ?_
    rintro e w1 ⟨rfl, hb⟩
    go_wp2_with fail
    go_ret3
    exact ⟨rfl, bT H0.out.bel hb⟩
end Go.Proofs.Ytpbmpmcifpgchaa

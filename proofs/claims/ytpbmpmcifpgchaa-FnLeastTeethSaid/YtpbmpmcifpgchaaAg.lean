/-
  The draw of an angle with an addendum: spec.DrawLeastTeeth; the walk of laws.FnLeastTeeth.
-/
import Derived.Test.YtpbmpmcifpgchaaAe
import Derived.Test.YtpbmpmcifpgchaaRoll
import Derived.Test.YtpbmpmcifpgchaaAnI
import Derived.Test.YtpbmpmcifpgchaaLt
namespace Go.Proofs.Ytpbmpmcifpgchaa
open Go.RowKit

theorem AnH.grown {w : World} {b p : Nat} {s c h : Int} {w' w2 : World} (H : AnH w b s c h w') (g : w'.grownBy w2 (some p)) (hn : b ≠ p) (hp : w.heap.size ≤ p) : AnH w b s c h w2 := by
  obtain ⟨c0, c1, c2, e0, e1⟩ := H
  exact ⟨((gcell g).1 b 0 e0 hn).trans c0, ((gcell g).1 b 1 e0 hn).trans c1, ((gcell g).1 b 2 e0 hn).trans c2, Nat.lt_of_lt_of_le e0 g.size, below_grown e1 g hp⟩
theorem AnH.set3 {w : World} {b r : Nat} {s c h : Int} {w' : World} {u v x : Value} (H : AnH w b s c h w') (hn : b ≠ r) (hr : w.heap.size ≤ r) : AnH w b s c h (((w'.setCell ⟨r, 0, none⟩ u).setCell ⟨r, 1, none⟩ v).setCell ⟨r, 2, none⟩ x) := by
  obtain ⟨c0, c1, c2, e0, e1⟩ := H
  have e : ∀ o, (((w'.setCell ⟨r, 0, none⟩ u).setCell ⟨r, 1, none⟩ v).setCell ⟨r, 2, none⟩ x).cell? ⟨b, o, none⟩ = w'.cell? ⟨b, o, none⟩ := fun o => (World.cell?_of_block (Below.heap_setCell _ _ _ _ hn)).trans ((World.cell?_of_block (Below.heap_setCell _ _ _ _ hn)).trans (World.cell?_of_block (Below.heap_setCell _ _ _ _ hn)))
  exact ⟨(e 0).trans c0, (e 1).trans c1, (e 2).trans c2, by simpa [World.setCell] using e0, ((e1.setCell hr _).setCell hr _).setCell hr _⟩
def AnkDraw (w : World) (e : Ending) (w' : World) : Prop := ∃ s c h k : Int, (0 ≤ k ∧ k ≤ 21) ∧ e = .returned (.tuple #[.agg #[.int .i64 s, .int .i64 c, .int .i64 h], .int .i64 k]) ∧ Below w.heap.size w w'
set_option maxRecDepth 100000 in
set_option maxHeartbeats 2500000 in
theorem DrawLeastTeeth_any (w : World) (a : Option Addr) (len cap : Nat) (zs : List Int) (h : IsRow .u8 w a len cap zs) :
    Calls Try.prog 18 #[.slice a len cap] w (AnkDraw w) := by
  have A0 := Lib.hid (h.keep (bA (bR w) (.cells #[.int .i64 0, .int .i64 0, .int .i64 0] 28)))
  have L0 := Lib.hid (bA (bR w) (.cells #[.int .i64 0, .int .i64 0, .int .i64 0] 28))
  have Q0 := Lib.hid (BoxL.new w [.int .i64 0, .int .i64 0, .int .i64 0] 28)
  have hw : (w.alloc (.cells #[.int .i64 0, .int .i64 0, .int .i64 0] 28)).heap.size = w.heap.size + 1 := by simp
  clear h
  go_enter Try.func18, Try.ntmps18
  go_wp2_with fail
  generalize w.alloc (.cells #[.int .i64 0, .int .i64 0, .int .i64 0] 28) = W0 at *
  refine (l00From_any W0 a len cap zs A0.out).mono ?_
  rintro e w1 ⟨rfl, s1, hb⟩
  have S1 := Lib.hid s1
  have L1 := Lib.hid (bT L0.out hb)
  have Q1 := Lib.hid (Q0.out.keep hb)
  clear s1 hb A0 L0 Q0
  generalize hpp : W0.heap.size = p at S1 ⊢
  have hwp : w.heap.size ≤ p := by omega
  have hwn : w.heap.size ≠ p := by omega
  go_wp2_with fail
  refine (l10BentAngle_any _ p a len cap 0 S1.out (by omega)).mono ?_
  rintro e w2 ⟨s, c, h, hs, hc, hh, rfl, d2⟩
  have L2 := Lib.hid (below_grown L1.out d2.gr hwp)
  have Q2 := Lib.hid (Q1.out.grownA d2.gr hwn)
  have S2 := Lib.hid d2.src
  clear d2 L1 Q1 S1
  have hp2 := S2.out.lt
  have H0 := AnH.new w2 s c h 28
  have Q3 := Lib.hid (Q2.out.alloc (.cells #[.int .i64 s, .int .i64 c, .int .i64 h] 28))
  have S3 := Lib.hid ((S2.out.keep (bA (bR w2) (.cells #[.int .i64 s, .int .i64 c, .int .i64 h] 28))).keep (bR _).drew)
  have h3 : AnH w w2.heap.size s c h (w2.alloc (.cells #[.int .i64 s, .int .i64 c, .int .i64 h] 28)) := ⟨H0.1, H0.2.1, H0.2.2.1, H0.2.2.2.1, bT L2.out H0.bel⟩
  have hnp : w2.heap.size ≠ p := by omega
  have hnr : w2.heap.size ≠ w.heap.size := by have := Q2.out.lt; omega
  clear H0 L2 Q2 S2
  go_upto_region 3 with fail
  generalize w2.alloc (.cells #[.int .i64 s, .int .i64 c, .int .i64 h] 28) = W2 at *
  generalize w2.heap.size = b5 at *
  go_region_held3 (fun w' => w'.cell? ⟨b5, 0, none⟩ = some (.int .i64 s) ∧ w'.cell? ⟨b5, 1, none⟩ = some (.int .i64 c) ∧ w'.cell? ⟨b5, 2, none⟩ = some (.int .i64 h) ∧ b5 < w'.heap.size ∧ Below w.heap.size w w') (first | exact h3.drew | assumption | exact AnH.grown (by first | assumption | exact h3.drew) g hnp hwp | exact AnH.set3 (by first | assumption | exact h3.drew) hnr (Nat.le_refl _))
    (first
      | (go_at_call 50; refine (pick_any _ p a len cap _ 22 (by exact S3.out) (by omega) (by omega) (by omega)).mono ?_; rintro e w' ⟨k, k0, k1, rfl, s', g⟩; have Z1 := BoxL.grownA (BoxL.keep Q3.out (bR _).drew) g hwn; obtain ⟨z0, z1, z2, z3⟩ := Z1.c3; obtain ⟨y0, y1, y2⟩ := Z1.f3))
  have H4 : AnH w b5 s c h (((w'.setCell ⟨w.heap.size, 0, none⟩ (.int .i64 s)).setCell ⟨w.heap.size, 1, none⟩ (.int .i64 c)).setCell ⟨w.heap.size, 2, none⟩ (.int .i64 h)) := by assumption
  have L := Lib.hid H4.bel
  clear H4 h3
  go_wp2_with fail
  exact bodyPost_ret (v := .tuple #[.agg #[.int .i64 s, .int .i64 c, .int .i64 h], .int .i64 k]) (by simp [results, Try.results18, go_sem, z0, z1, z2]) rfl ⟨s, c, h, k, by omega, rfl, L.out⟩
theorem zssb {s z : Int} (h1 : 1 ≤ s) (h2 : s ≤ 1000) (z1 : 0 ≤ z) (z2 : z ≤ 241) : (0 ≤ 10 * z * s ∧ 10 * z * s ≤ 2410000) ∧ 0 ≤ 10 * z * s * s ∧ 10 * z * s * s ≤ 2410000000 := by
  have a := mul_bd0 (x := 10 * z) (y := s) (a := 2410) (b := 1000) (by omega) (by omega) (by omega) (by omega)
  have b := mul_bd0 (x := 10 * z * s) (y := s) (a := 2410000) (b := 1000) (by omega) (by omega) (by omega) (by omega)
  omega
theorem lt_fits {s h k : Int} (h1 : 1 ≤ s) (h2 : s ≤ 1000) : 2 * k * h * h ≤ 10 * ltZ s h k * s * s ∧ (6 < ltZ s h k → ¬ 2 * k * h * h ≤ 10 * (ltZ s h k - 1) * s * s) := by
  obtain ⟨_, d2⟩ := den_bd h1 h2
  have e : ∀ z : Int, 10 * z * s * s = z * (10 * s * s) := fun z => by grind
  have u : upq (2 * k * h * h) (10 * s * s) ≤ ltZ s h k := by unfold ltZ; omega
  refine ⟨by rw [e]; exact (upq_le (by omega)).1 u, fun h6 hc => ?_⟩
  rw [e] at hc
  have := (upq_le (n := 2 * k * h * h) (d := 10 * s * s) (z := ltZ s h k - 1) (by omega)).2 hc
  unfold ltZ at *; omega
theorem lt_grow {s h k : Int} (h1 : 1 ≤ s) (h2 : s ≤ 1000) (hh : 1 ≤ h) : ltZ s h k ≤ ltZ s h (k + 1) := by
  obtain ⟨_, d2⟩ := den_bd h1 h2
  have a : 2 * k * h * h ≤ 2 * (k + 1) * h * h := Int.mul_le_mul_of_nonneg_right (Int.mul_le_mul_of_nonneg_right (by omega) (by omega)) (by omega)
  have b : (-(2 * (k + 1) * h * h)) / (10 * s * s) ≤ (-(2 * k * h * h)) / (10 * s * s) := Int.ediv_le_ediv (by omega) (by omega)
  unfold ltZ upq; omega
theorem ltF_code {s c h k : Int} : (ltF s c h k).2 = 0 ∧ okAn s c h = true ∧ (1 ≤ k ∧ k ≤ 20) ∧ ltZ s h k ≤ 240 ∧ (ltF s c h k).1 = ltZ s h k ∨ ((ltF s c h k).2 != 0) = true := by
  cases o1 : okAn s c h
  · rw [ltF_n1 o1]; exact .inr rfl
  cases o2 : inB k 1 20
  · rw [ltF_n2 o1 o2]; exact .inr rfl
  by_cases h3 : 240 < ltZ s h k
  · rw [ltF_n3 o1 o2 h3]; exact .inr rfl
  · rw [ltF_yes o1 o2 h3]; exact .inl ⟨rfl, rfl, inB_true.1 o2, by omega, rfl⟩
set_option maxRecDepth 100000 in
set_option maxHeartbeats 8000000 in
theorem FnLeastTeeth_walk (a : Option Addr) (len cap : Nat) (zs : List Int) (w : World) (h : IsRow .u8 w a len cap zs) :
    Calls Try.prog 6 #[.slice a len cap] w fun e w' => e = .returned (.bool true) ∧ Below w.heap.size w w' := by
  have l1 := (row_of h).1
  unfold maxLen at l1
  have HA := Lib.hid h
  clear h
  by_cases hl : 4096 < len
  · have hd : decide (4096 < (len : Int)) = true := decide_eq_true (by omega)
    go_enter Try.func6, Try.ntmps6
    go_wp2_with fail
    refine (f6bigR_any _ _ _ _ (by omega)).mono ?_
    rw [hd]
    rintro e w1 ⟨rfl, rfl⟩
    go_wp2_with fail
    go_ret
    exact ⟨rfl, bR _⟩
  have hd : decide (4096 < (len : Int)) = false := decide_eq_false (by omega)
  go_enter Try.func6, Try.ntmps6
  go_wp2_with fail
  refine (f6bigR_any _ _ _ _ (by omega)).mono ?_
  rw [hd]
  rintro e w1 ⟨rfl, rfl⟩
  go_wp2_with fail
  refine (DrawLeastTeeth_any _ a len cap zs HA.out).mono ?_
  rintro e w1 ⟨s, c, h, k, hk, rfl, hb⟩
  have L0 := Lib.hid hb
  have H0 := Lib.hid (AnH.new w1 s c h 28)
  have CI := Lib.hid (fun W => LeastTeethI_any s c h k W)
  have CS := Lib.hid (fun W => LeastTeethS_any s c h k W)
  have CN := Lib.hid (fun W => LeastTeethI_any s c h (k + 1) W)
  have VI := Lib.hid (fun W => ValidAngleI_any s c h W)
  have VS := Lib.hid (fun W => ValidAngleS_any s c h W)
  have HC := Lib.hid (ltF_code (s := s) (c := c) (h := h) (k := k))
  have HN := Lib.hid (ltF_code (s := s) (c := c) (h := h) (k := k + 1))
  have HO := Lib.hid (fun q : okAn s c h = true => okAn_bd q)
  clear hb HA hd hl l1
  generalize ltF s c h k = r at *
  obtain ⟨z, cd⟩ := r
  generalize ltF s c h (k + 1) = r2 at *
  obtain ⟨z2, cd2⟩ := r2
  generalize hv : okAn s c h = v at *
  clear hv
  simp only at CI CS CN HC HN
  have n1 : (z != z) = false := by simp
  have n2 : (cd != cd) = false := by simp
  have n3 : (v != v) = false := by simp
  go_wp2_with fail
  refine (CI.out _).mono ?_
  rintro e w2 ⟨rfl, hb⟩
  have H1 := Lib.hid (H0.out.keep hb)
  clear hb H0
  obtain ⟨g0, g1, g2, g3, g4⟩ := H1.out
  go_wp2_with fail
  refine (CS.out _).mono ?_
  rintro e w3 ⟨rfl, hb⟩
  have H2 := H1.out.keep hb
  clear hb H1 g0 g1 g2 g3 g4
  go_upto_region 6 with fail
  generalize w1.heap.size = b3 at *
  go_region_held3 (fun w' => w'.cell? ⟨b3, 0, none⟩ = some (.int .i64 s) ∧ w'.cell? ⟨b3, 1, none⟩ = some (.int .i64 c) ∧ w'.cell? ⟨b3, 2, none⟩ = some (.int .i64 h) ∧ b3 < w'.heap.size ∧ Below w1.heap.size w1 w') (first | exact H2.drew | assumption | exact AnH.keep hb (by assumption))
    (first
      | (go_at_call 21; refine (VI.out _).mono ?_; rintro e w' ⟨rfl, hb⟩)
      | (go_at_call 22; refine (VS.out _).mono ?_; rintro e w' ⟨rfl, hb⟩))
  have H3 : AnH w1 b3 s c h w' := by assumption
  have L3 := Lib.hid (bT L0.out H3.bel)
  clear hb H2
  rcases HC.out with ⟨rfl, rfl, hk1, hz, rfl⟩ | hcd
  · obtain ⟨s1, s2, _, _, h1, h2, _⟩ := HO.out rfl
    obtain ⟨n4, n5⟩ := num_bd h1 h2 hk1.1 hk1.2
    have h6 : 6 ≤ ltZ s h k := by unfold ltZ; omega
    obtain ⟨b1, b2⟩ := zssb s1 s2 (z := ltZ s h k) (by omega) (by omega)
    obtain ⟨b3', b4⟩ := zssb s1 s2 (z := ltZ s h k - 1) (by omega) (by omega)
    obtain ⟨f1, f2⟩ := lt_fits (h := h) (k := k) s1 s2
    have fg := Lib.hid (lt_grow (k := k) s1 s2 h1)
    have K3 := Lib.hid H3
    obtain ⟨g0, g1, g2, g3, g4⟩ := H3
    clear HC HO CI CS VI VS
    generalize ltZ s h k = Z at *
    go_wp2_with fail
    refine (CN.out _).mono ?_
    rintro e w5 ⟨rfl, hb⟩
    have K4 := Lib.hid (K3.out.keep hb)
    have L4 := Lib.hid (bT L3.out hb)
    clear hb g0 g1 g2 g3 g4 K3
    obtain ⟨g0, g1, g2, g3, g4⟩ := K4.out
    have hN := HN.out
    by_cases h7 : 6 < Z
    · have f3 : decide (2 * k * h * h ≤ 10 * (Z - 1) * s * s) = false := decide_eq_false (by have := f2 h7; omega)
      rcases hN with ⟨rfl, _, _, _, rfl⟩ | hcd2
      · have f4 := fg.out
        go_wp2_with fail
        go_ret
        exact ⟨by first | rfl | exact ret_bool (by rw [f3]; rfl), L4.out⟩
      · go_wp2_with fail
        go_ret
        exact ⟨by first | rfl | exact ret_bool (by rw [f3]; rfl), L4.out⟩
    · rcases hN with ⟨rfl, _, _, _, rfl⟩ | hcd2
      · have f4 := fg.out
        go_wp2_with fail
        go_ret
        exact ⟨rfl, L4.out⟩
      · go_wp2_with fail
        go_ret
        exact ⟨rfl, L4.out⟩
  · clear H3 HC HN HO
    go_wp2_with fail
    go_ret
    exact ⟨rfl, L3.out⟩
end Go.Proofs.Ytpbmpmcifpgchaa

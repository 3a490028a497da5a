/-
  Two profiles that engage: the squares of a profile, the line, and interference, the program's side.
-/
import Derived.Test.YtpbmpmcifpgchaaAnI
import Derived.Test.YtpbmpmcifpgchaaSqx
namespace Go.Proofs.Ytpbmpmcifpgchaa
open Go.RowKit

theorem PfH.set2 {w : World} {b b2 : Nat} {t m k s c h : Int} {w' : World} {x y : Value} (H : PfH w b t m k s c h w') (hn : b ≠ b2) (hl : w.heap.size ≤ b2) : PfH w b t m k s c h ((w'.setCell ⟨b2, 0, none⟩ x).setCell ⟨b2, 1, none⟩ y) := by
  obtain ⟨c0, c1, c2, c3, c4, c5, e0, e1⟩ := H
  have e : ∀ o, ((w'.setCell ⟨b2, 0, none⟩ x).setCell ⟨b2, 1, none⟩ y).cell? ⟨b, o, none⟩ = w'.cell? ⟨b, o, none⟩ := fun o => (World.cell?_of_block (Below.heap_setCell _ _ _ _ hn)).trans (World.cell?_of_block (Below.heap_setCell _ _ _ _ hn))
  exact ⟨(e 0).trans c0, (e 1).trans c1, (e 2).trans c2, (e 3).trans c3, (e 4).trans c4, (e 5).trans c5, by simpa [World.setCell] using e0, (e1.setCell hl _).setCell hl _⟩
theorem oh_bd {t m k h : Int} (ht : 6 ≤ t ∧ t ≤ 240) (hm : 1 ≤ m ∧ m ≤ 500) (hk : 1 ≤ k ∧ k ≤ 20) (hh : 1 ≤ h ∧ h ≤ 1000) : 0 ≤ out_ t m k * h ∧ out_ t m k * h ≤ 1220000000 := by
  have h1 := pit_bd ht hm
  have h2 := out_bd ht hm hk
  exact mul_bd0 (a := 1220000) (b := 1000) (by omega) (by omega) (by omega) (by omega)
theorem pc_bd {t m c : Int} (ht : 6 ≤ t ∧ t ≤ 240) (hm : 1 ≤ m ∧ m ≤ 500) (hc : 1 ≤ c ∧ c ≤ 1000) : 0 ≤ pit t m * c ∧ pit t m * c ≤ 1200000000 := by
  have h1 := pit_bd ht hm
  exact mul_bd0 (a := 1200000) (b := 1000) (by omega) (by omega) (by omega) (by omega)
/-- A profile whose numbers are within the limits. -/
def Lim (t m k s c h : Int) : Prop := (6 ≤ t ∧ t ≤ 240) ∧ (1 ≤ m ∧ m ≤ 500) ∧ (1 ≤ k ∧ k ≤ 20) ∧ (1 ≤ s ∧ s ≤ 1000) ∧ (1 ≤ c ∧ c ≤ 1000) ∧ 1 ≤ h ∧ h ≤ 1000
theorem lim_of {t m k s c h : Int} (e : okPf t m k s c h = true) : Lim t m k s c h := by
  obtain ⟨h1, h2, h3, h4⟩ := okPf_bd e
  have := okAn_bd h4
  exact ⟨h1, h2, h3, by omega, by omega, by omega, by omega⟩
set_option maxRecDepth 100000 in
set_option maxHeartbeats 2000000 in
theorem outsideSquare_any (t m k s c h : Int) (w : World) (hl : Lim t m k s c h) :
    Calls Try.prog 74 #[.agg #[.int .i64 t, .int .i64 m, .int .i64 k, .int .i64 s, .int .i64 c, .int .i64 h]] w (SqIn ((out_ t m k * h) * (out_ t m k * h)) w) := by
  obtain ⟨ht, hm, hk, hs, hc, hh⟩ := hl
  have q := oh_bd ht hm hk hh
  have q1 := wrI (out_ t m k * h) (by omega)
  have HT := Lib.hid (And.intro ht (And.intro hm (And.intro hk q)))
  clear ht hm hk hs hc hh q
  have H0 := (PfH.new w t m k s c h 30).keep (bA (bR _) (.cells #[.int .u64 0, .int .u64 0] 76))
  have Q0 := Lib.hid (BoxL.at_ (w := w.alloc (.cells #[.int .i64 t, .int .i64 m, .int .i64 k, .int .i64 s, .int .i64 c, .int .i64 h] 30)) (b := w.heap.size + 1) (vs := [.int .u64 0, .int .u64 0]) (T := 76) (by simp))
  have hn : w.heap.size ≠ w.heap.size + 1 := by omega
  have hl : w.heap.size ≤ w.heap.size + 1 := by omega
  go_enter Try.func74, Try.ntmps74
  go_upto_region 1 with fail
  generalize (w.alloc (.cells #[.int .i64 t, .int .i64 m, .int .i64 k, .int .i64 s, .int .i64 c, .int .i64 h] 30)).alloc (.cells #[.int .u64 0, .int .u64 0] 76) = W0 at *
  generalize w.heap.size + 1 = b2 at *
  go_region_held3 (fun w' => w'.cell? ⟨w.heap.size, 0, none⟩ = some (.int .i64 t) ∧ w'.cell? ⟨w.heap.size, 1, none⟩ = some (.int .i64 m) ∧ w'.cell? ⟨w.heap.size, 2, none⟩ = some (.int .i64 k) ∧ w'.cell? ⟨w.heap.size, 3, none⟩ = some (.int .i64 s) ∧ w'.cell? ⟨w.heap.size, 4, none⟩ = some (.int .i64 c) ∧ w'.cell? ⟨w.heap.size, 5, none⟩ = some (.int .i64 h) ∧ w.heap.size < w'.heap.size ∧ Below w.heap.size w w') (first | exact H0.drew | assumption | exact PfH.keep hb (by assumption) | exact PfH.set2 (by assumption) hn hl)
    (first
      | (go_at_call 65; refine (outside_any _ _ _ _ _ _ _ HT.out.1 HT.out.2.1 HT.out.2.2.1).mono ?_; rintro e w' ⟨rfl, hb⟩; have Z1 := Lib.hid (BoxL.keep (BoxL.keep Q0.out (bR _).drew) hb))
      | (go_at_call 55; refine (squareOf_any _ _ (by have := HT.out.2.2.2; omega) (by have := HT.out.2.2.2; omega)).mono ?_; rintro e w' ⟨rfl, hb⟩; have Z2 := BoxL.keep Z1.out hb; obtain ⟨z0, z1, z2⟩ := Z2.c2; obtain ⟨y0, y1⟩ := Z2.f2))
  have H1 : PfH w w.heap.size t m k s c h ((w'.setCell ⟨b2, 0, none⟩ (.int .u64 0)).setCell ⟨b2, 1, none⟩ (.int .u64 (out_ t m k * h * (out_ t m k * h)))) := by assumption
  have L := Lib.hid H1.bel
  clear hb H0 H1
  go_wp2_with fail
  exact bodyPost_ret (v := .agg #[.int .u64 0, .int .u64 (out_ t m k * h * (out_ t m k * h))]) (by simp [results, Try.results74, go_sem, z0, z1]) rfl ⟨rfl, L.out⟩
set_option maxRecDepth 100000 in
set_option maxHeartbeats 2000000 in
theorem baseSquare_any (t m k s c h : Int) (w : World) (hl : Lim t m k s c h) :
    Calls Try.prog 76 #[.agg #[.int .i64 t, .int .i64 m, .int .i64 k, .int .i64 s, .int .i64 c, .int .i64 h]] w (SqIn ((pit t m * c) * (pit t m * c)) w) := by
  obtain ⟨ht, hm, hk, hs, hc, hh⟩ := hl
  have q := pc_bd ht hm hc
  have q1 := wrI (pit t m * c) (by omega)
  have HT := Lib.hid (And.intro ht (And.intro hm (And.intro hk q)))
  clear ht hm hk hs hc hh q
  have H0 := (PfH.new w t m k s c h 30).keep (bA (bR _) (.cells #[.int .u64 0, .int .u64 0] 76))
  have Q0 := Lib.hid (BoxL.at_ (w := w.alloc (.cells #[.int .i64 t, .int .i64 m, .int .i64 k, .int .i64 s, .int .i64 c, .int .i64 h] 30)) (b := w.heap.size + 1) (vs := [.int .u64 0, .int .u64 0]) (T := 76) (by simp))
  have hn : w.heap.size ≠ w.heap.size + 1 := by omega
  have hl : w.heap.size ≤ w.heap.size + 1 := by omega
  go_enter Try.func76, Try.ntmps76
  go_upto_region 1 with fail
  generalize (w.alloc (.cells #[.int .i64 t, .int .i64 m, .int .i64 k, .int .i64 s, .int .i64 c, .int .i64 h] 30)).alloc (.cells #[.int .u64 0, .int .u64 0] 76) = W0 at *
  generalize w.heap.size + 1 = b2 at *
  go_region_held3 (fun w' => w'.cell? ⟨w.heap.size, 0, none⟩ = some (.int .i64 t) ∧ w'.cell? ⟨w.heap.size, 1, none⟩ = some (.int .i64 m) ∧ w'.cell? ⟨w.heap.size, 2, none⟩ = some (.int .i64 k) ∧ w'.cell? ⟨w.heap.size, 3, none⟩ = some (.int .i64 s) ∧ w'.cell? ⟨w.heap.size, 4, none⟩ = some (.int .i64 c) ∧ w'.cell? ⟨w.heap.size, 5, none⟩ = some (.int .i64 h) ∧ w.heap.size < w'.heap.size ∧ Below w.heap.size w w') (first | exact H0.drew | assumption | exact PfH.keep hb (by assumption) | exact PfH.set2 (by assumption) hn hl)
    (first
      | (go_at_call 64; refine (pitch_any _ _ _ _ _ _ _ HT.out.1 HT.out.2.1).mono ?_; rintro e w' ⟨rfl, hb⟩; have Z1 := Lib.hid (BoxL.keep (BoxL.keep Q0.out (bR _).drew) hb))
      | (go_at_call 55; refine (squareOf_any _ _ (by have := HT.out.2.2.2; omega) (by have := HT.out.2.2.2; omega)).mono ?_; rintro e w' ⟨rfl, hb⟩; have Z2 := BoxL.keep Z1.out hb; obtain ⟨z0, z1, z2⟩ := Z2.c2; obtain ⟨y0, y1⟩ := Z2.f2))
  have H1 : PfH w w.heap.size t m k s c h ((w'.setCell ⟨b2, 0, none⟩ (.int .u64 0)).setCell ⟨b2, 1, none⟩ (.int .u64 (pit t m * c * (pit t m * c)))) := by assumption
  have L := Lib.hid H1.bel
  clear hb H0 H1
  go_wp2_with fail
  exact bodyPost_ret (v := .agg #[.int .u64 0, .int .u64 (pit t m * c * (pit t m * c))]) (by simp [results, Try.results76, go_sem, z0, z1]) rfl ⟨rfl, L.out⟩
/-- What a call keeps of two profiles in box b. -/
def EgH (w : World) (b : Nat) (t m k s c h t2 m2 k2 s2 c2 h2 : Int) (w' : World) : Prop :=
  w'.cell? ⟨b, 0, none⟩ = some (.int .i64 t) ∧ w'.cell? ⟨b, 1, none⟩ = some (.int .i64 m) ∧ w'.cell? ⟨b, 2, none⟩ = some (.int .i64 k) ∧ w'.cell? ⟨b, 3, none⟩ = some (.int .i64 s) ∧ w'.cell? ⟨b, 4, none⟩ = some (.int .i64 c) ∧ w'.cell? ⟨b, 5, none⟩ = some (.int .i64 h) ∧
  w'.cell? ⟨b, 6, none⟩ = some (.int .i64 t2) ∧ w'.cell? ⟨b, 7, none⟩ = some (.int .i64 m2) ∧ w'.cell? ⟨b, 8, none⟩ = some (.int .i64 k2) ∧ w'.cell? ⟨b, 9, none⟩ = some (.int .i64 s2) ∧ w'.cell? ⟨b, 10, none⟩ = some (.int .i64 c2) ∧ w'.cell? ⟨b, 11, none⟩ = some (.int .i64 h2) ∧ b < w'.heap.size ∧ Below w.heap.size w w'
theorem EgH.keep {w : World} {b : Nat} {t m k s c h t2 m2 k2 s2 c2 h2 : Int} {w' x : World} (hb : Below w'.heap.size w' x) (H : EgH w b t m k s c h t2 m2 k2 s2 c2 h2 w') : EgH w b t m k s c h t2 m2 k2 s2 c2 h2 x := by
  obtain ⟨c0, c1, c2', c3, c4, c5, d0, d1, d2, d3, d4, d5, e0, e1⟩ := H
  have e : ∀ o, x.cell? ⟨b, o, none⟩ = w'.cell? ⟨b, o, none⟩ := fun o => hb.cell (p := ⟨b, o, none⟩) e0
  exact ⟨(e 0).trans c0, (e 1).trans c1, (e 2).trans c2', (e 3).trans c3, (e 4).trans c4, (e 5).trans c5, (e 6).trans d0, (e 7).trans d1, (e 8).trans d2, (e 9).trans d3, (e 10).trans d4, (e 11).trans d5, Nat.lt_of_lt_of_le e0 hb.size, bT e1 hb⟩
theorem EgH.drew {w : World} {b : Nat} {t m k s c h t2 m2 k2 s2 c2 h2 : Int} {w' : World} (H : EgH w b t m k s c h t2 m2 k2 s2 c2 h2 w') : EgH w b t m k s c h t2 m2 k2 s2 c2 h2 w'.drew := H.keep (bR _).drew
theorem EgH.bel {w : World} {b : Nat} {t m k s c h t2 m2 k2 s2 c2 h2 : Int} {w' : World} (H : EgH w b t m k s c h t2 m2 k2 s2 c2 h2 w') : Below w.heap.size w w' := H.2.2.2.2.2.2.2.2.2.2.2.2.2
theorem EgH.new (w : World) (t m k s c h t2 m2 k2 s2 c2 h2 : Int) (T : TypeId) : EgH w w.heap.size t m k s c h t2 m2 k2 s2 c2 h2 (w.alloc (.cells #[.int .i64 t, .int .i64 m, .int .i64 k, .int .i64 s, .int .i64 c, .int .i64 h, .int .i64 t2, .int .i64 m2, .int .i64 k2, .int .i64 s2, .int .i64 c2, .int .i64 h2] T)) :=
  ⟨by simp [go_sem], by simp [go_sem], by simp [go_sem], by simp [go_sem], by simp [go_sem], by simp [go_sem], by simp [go_sem], by simp [go_sem], by simp [go_sem], by simp [go_sem], by simp [go_sem], by simp [go_sem], by simp, bA (bR _) _⟩
set_option maxHeartbeats 1000000 in
theorem sumPitch_any (t m k s c h t2 m2 k2 s2 c2 h2 : Int) (w : World) (hl : Lim t m k s c h) (hl2 : Lim t2 m2 k2 s2 c2 h2) :
    Calls Try.prog 77 #[.agg #[.int .i64 t, .int .i64 m, .int .i64 k, .int .i64 s, .int .i64 c, .int .i64 h, .int .i64 t2, .int .i64 m2, .int .i64 k2, .int .i64 s2, .int .i64 c2, .int .i64 h2], .func (.func 64) #[] #[]] w (IntB (pit t m + pit t2 m2) w) := by
  have p1 := pit_bd hl.1 hl.2.1
  have p2 := pit_bd hl2.1 hl2.2.1
  have q1 := wrI (pit t m + pit t2 m2) (by omega)
  have HL := Lib.hid (And.intro hl hl2)
  clear hl hl2 p1 p2
  have H0 := EgH.new w t m k s c h t2 m2 k2 s2 c2 h2 61
  go_enter Try.func77, Try.ntmps77
  go_upto_region 1 with fail
  generalize w.alloc (.cells #[.int .i64 t, .int .i64 m, .int .i64 k, .int .i64 s, .int .i64 c, .int .i64 h, .int .i64 t2, .int .i64 m2, .int .i64 k2, .int .i64 s2, .int .i64 c2, .int .i64 h2] 61) = W0 at *
  go_region_held3 (fun w' => w'.cell? ⟨w.heap.size, 0, none⟩ = some (.int .i64 t) ∧ w'.cell? ⟨w.heap.size, 1, none⟩ = some (.int .i64 m) ∧ w'.cell? ⟨w.heap.size, 2, none⟩ = some (.int .i64 k) ∧ w'.cell? ⟨w.heap.size, 3, none⟩ = some (.int .i64 s) ∧ w'.cell? ⟨w.heap.size, 4, none⟩ = some (.int .i64 c) ∧ w'.cell? ⟨w.heap.size, 5, none⟩ = some (.int .i64 h) ∧ w'.cell? ⟨w.heap.size, 6, none⟩ = some (.int .i64 t2) ∧ w'.cell? ⟨w.heap.size, 7, none⟩ = some (.int .i64 m2) ∧ w'.cell? ⟨w.heap.size, 8, none⟩ = some (.int .i64 k2) ∧ w'.cell? ⟨w.heap.size, 9, none⟩ = some (.int .i64 s2) ∧ w'.cell? ⟨w.heap.size, 10, none⟩ = some (.int .i64 c2) ∧ w'.cell? ⟨w.heap.size, 11, none⟩ = some (.int .i64 h2) ∧ w.heap.size < w'.heap.size ∧ Below w.heap.size w w') (first | exact H0.drew | assumption | exact EgH.keep hb (by assumption))
    (first
      | (go_at_call 64; refine (pitch_any _ _ _ _ _ _ _ (by first | exact HL.out.1.1 | exact HL.out.2.1) (by first | exact HL.out.1.2.1 | exact HL.out.2.2.1)).mono ?_; rintro e w' ⟨rfl, hb⟩))
  have H1 : EgH w w.heap.size t m k s c h t2 m2 k2 s2 c2 h2 w' := by assumption
  have L := Lib.hid H1.bel
  clear hb H0 H1
  go_wp2_with fail
  go_ret
  exact ⟨rfl, L.out⟩
theorem ln_bd {t m s t2 m2 : Int} (ht : 6 ≤ t ∧ t ≤ 240) (hm : 1 ≤ m ∧ m ≤ 500) (ht2 : 6 ≤ t2 ∧ t2 ≤ 240) (hm2 : 1 ≤ m2 ∧ m2 ≤ 500) (hs : 1 ≤ s ∧ s ≤ 1000) : 0 ≤ (pit t m + pit t2 m2) * s ∧ (pit t m + pit t2 m2) * s ≤ 2400000000 := by
  have h1 := pit_bd ht hm
  have h2 := pit_bd ht2 hm2
  exact mul_bd0 (a := 2400000) (b := 1000) (by omega) (by omega) (by omega) (by omega)
set_option maxHeartbeats 1000000 in
theorem line_any (t m k s c h t2 m2 k2 s2 c2 h2 : Int) (w : World) (hl : Lim t m k s c h) (hl2 : Lim t2 m2 k2 s2 c2 h2) :
    Calls Try.prog 73 #[.agg #[.int .i64 t, .int .i64 m, .int .i64 k, .int .i64 s, .int .i64 c, .int .i64 h, .int .i64 t2, .int .i64 m2, .int .i64 k2, .int .i64 s2, .int .i64 c2, .int .i64 h2]] w (IntB ((pit t m + pit t2 m2) * s) w) := by
  have p1 := ln_bd hl.1 hl.2.1 hl2.1 hl2.2.1 hl.2.2.2.1
  have q1 := wrI ((pit t m + pit t2 m2) * s) (by omega)
  have HL := Lib.hid (And.intro hl hl2)
  clear hl hl2 p1
  have H0 := EgH.new w t m k s c h t2 m2 k2 s2 c2 h2 61
  go_enter Try.func73, Try.ntmps73
  go_upto_region 1 with fail
  generalize w.alloc (.cells #[.int .i64 t, .int .i64 m, .int .i64 k, .int .i64 s, .int .i64 c, .int .i64 h, .int .i64 t2, .int .i64 m2, .int .i64 k2, .int .i64 s2, .int .i64 c2, .int .i64 h2] 61) = W0 at *
  go_region_held3 (fun w' => w'.cell? ⟨w.heap.size, 0, none⟩ = some (.int .i64 t) ∧ w'.cell? ⟨w.heap.size, 1, none⟩ = some (.int .i64 m) ∧ w'.cell? ⟨w.heap.size, 2, none⟩ = some (.int .i64 k) ∧ w'.cell? ⟨w.heap.size, 3, none⟩ = some (.int .i64 s) ∧ w'.cell? ⟨w.heap.size, 4, none⟩ = some (.int .i64 c) ∧ w'.cell? ⟨w.heap.size, 5, none⟩ = some (.int .i64 h) ∧ w'.cell? ⟨w.heap.size, 6, none⟩ = some (.int .i64 t2) ∧ w'.cell? ⟨w.heap.size, 7, none⟩ = some (.int .i64 m2) ∧ w'.cell? ⟨w.heap.size, 8, none⟩ = some (.int .i64 k2) ∧ w'.cell? ⟨w.heap.size, 9, none⟩ = some (.int .i64 s2) ∧ w'.cell? ⟨w.heap.size, 10, none⟩ = some (.int .i64 c2) ∧ w'.cell? ⟨w.heap.size, 11, none⟩ = some (.int .i64 h2) ∧ w.heap.size < w'.heap.size ∧ Below w.heap.size w w') (first | exact H0.drew | assumption | exact EgH.keep hb (by assumption))
    (first
      | (go_at_call 77; refine (sumPitch_any _ _ _ _ _ _ _ _ _ _ _ _ _ HL.out.1 HL.out.2).mono ?_; rintro e w' ⟨rfl, hb⟩))
  have H1 : EgH w w.heap.size t m k s c h t2 m2 k2 s2 c2 h2 w' := by assumption
  have L := Lib.hid H1.bel
  clear hb H0 H1
  go_wp2_with fail
  go_ret
  exact ⟨rfl, L.out⟩
end Go.Proofs.Ytpbmpmcifpgchaa

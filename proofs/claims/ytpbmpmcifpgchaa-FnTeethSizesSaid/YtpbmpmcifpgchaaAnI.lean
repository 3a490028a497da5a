/-
  Angles and profiles: the program's side of validity and diameters; the conversions of the laws.
-/
import Derived.Test.YtpbmpmcifpgchaaAn
import Derived.Test.YtpbmpmcifpgchaaSqu
namespace Go.Proofs.Ytpbmpmcifpgchaa
open Go.RowKit

/-- What a call keeps of an angle in box b. -/
def AnH (w : World) (b : Nat) (s c h : Int) (w' : World) : Prop :=
  w'.cell? ⟨b, 0, none⟩ = some (.int .i64 s) ∧ w'.cell? ⟨b, 1, none⟩ = some (.int .i64 c) ∧ w'.cell? ⟨b, 2, none⟩ = some (.int .i64 h) ∧ b < w'.heap.size ∧ Below w.heap.size w w'
theorem AnH.keep {w : World} {b : Nat} {s c h : Int} {w' w2 : World} (hb : Below w'.heap.size w' w2) (H : AnH w b s c h w') : AnH w b s c h w2 := by
  obtain ⟨c0, c1, c2, e0, e1⟩ := H
  exact ⟨(hb.cell (p := ⟨b, 0, none⟩) e0).trans c0, (hb.cell (p := ⟨b, 1, none⟩) e0).trans c1, (hb.cell (p := ⟨b, 2, none⟩) e0).trans c2, Nat.lt_of_lt_of_le e0 hb.size, bT e1 hb⟩
theorem AnH.drew {w : World} {b : Nat} {s c h : Int} {w' : World} (H : AnH w b s c h w') : AnH w b s c h w'.drew := H.keep (bR _).drew
theorem AnH.new (w : World) (s c h : Int) (T : TypeId) : AnH w w.heap.size s c h (w.alloc (.cells #[.int .i64 s, .int .i64 c, .int .i64 h] T)) :=
  ⟨by simp [go_sem], by simp [go_sem], by simp [go_sem], by simp, bA (bR _) _⟩
theorem AnH.bel {w : World} {b : Nat} {s c h : Int} {w' : World} (H : AnH w b s c h w') : Below w.heap.size w w' := H.2.2.2.2
set_option maxRecDepth 100000 in
set_option maxHeartbeats 1000000 in
theorem ValidAngleI_any (s c h : Int) (w : World) :
    Calls Try.prog 21 #[.agg #[.int .i64 s, .int .i64 c, .int .i64 h]] w (BoolBel (okAn s c h) w) := by
  cases e1 : inB s 1 1000
  · rw [okAn_n1 e1]
    go_enter Try.func21, Try.ntmps21
    go_wp2_with (go_at_call 51; refine (isBetween_any _ _ _ _).mono ?_; rintro e w1 ⟨rfl, rfl⟩)
    go_ret
    exact ⟨rfl, bA (bR _) _⟩
  cases e2 : inB c 1 1000
  · rw [okAn_n2 e2]
    go_enter Try.func21, Try.ntmps21
    go_wp2_with (go_at_call 51; refine (isBetween_any _ _ _ _).mono ?_; rintro e w1 ⟨rfl, rfl⟩)
    go_ret
    exact ⟨rfl, bA (bR _) _⟩
  cases e3 : inB h 1 1000
  · rw [okAn_n3 e3]
    go_enter Try.func21, Try.ntmps21
    go_wp2_with (go_at_call 51; refine (isBetween_any _ _ _ _).mono ?_; rintro e w1 ⟨rfl, rfl⟩)
    go_ret
    exact ⟨rfl, bA (bR _) _⟩
  rw [okAn_go e1 e2 e3]
  have b1 := inB_true.1 e1
  have b2 := inB_true.1 e2
  have b3 := inB_true.1 e3
  have a1 := sqq (x := s) (m := 1000) (by omega) (by omega)
  have a2 := sqq (x := c) (m := 1000) (by omega) (by omega)
  by_cases hq : s * s + c * c = h * h
  · have hq1 : (s * s + c * c == h * h) = true := by simpa using hq
    rw [hq1]
    have H0 := AnH.new w s c h 28
    go_enter Try.func21, Try.ntmps21
    go_upto_region 3 with (go_at_call 51; refine (isBetween_any _ _ _ _).mono ?_; rintro e w1 ⟨rfl, rfl⟩)
    generalize w.alloc (.cells #[.int .i64 s, .int .i64 c, .int .i64 h] 28) = W0 at *
    clear e1 e2 e3
    go_region_held3 (fun w' => w'.cell? ⟨w.heap.size, 0, none⟩ = some (.int .i64 s) ∧ w'.cell? ⟨w.heap.size, 1, none⟩ = some (.int .i64 c) ∧ w'.cell? ⟨w.heap.size, 2, none⟩ = some (.int .i64 h) ∧ w.heap.size < w'.heap.size ∧ Below w.heap.size w w') (first | exact H0.drew | assumption | exact AnH.keep hb (by assumption))
      (first
        | (go_at_call 55; refine (squareOf_any _ _ (by omega) (by omega)).mono ?_; rintro e w' ⟨rfl, hb⟩)
        | (go_at_call 56; refine (plus_any _ _ _ (by omega) (by omega) (by omega) (by omega)).mono ?_; rintro e w' ⟨rfl, hb⟩))
    have H1 : AnH w w.heap.size s c h w' := by assumption
    have L := Lib.hid H1.bel
    clear hb H0 H1
    go_wp2_with fail
    go_ret
    exact ⟨rfl, L.out⟩
  · have hq1 : (s * s + c * c == h * h) = false := by simpa using hq
    rw [hq1]
    have H0 := AnH.new w s c h 28
    go_enter Try.func21, Try.ntmps21
    go_upto_region 3 with (go_at_call 51; refine (isBetween_any _ _ _ _).mono ?_; rintro e w1 ⟨rfl, rfl⟩)
    generalize w.alloc (.cells #[.int .i64 s, .int .i64 c, .int .i64 h] 28) = W0 at *
    clear e1 e2 e3
    go_region_held3 (fun w' => w'.cell? ⟨w.heap.size, 0, none⟩ = some (.int .i64 s) ∧ w'.cell? ⟨w.heap.size, 1, none⟩ = some (.int .i64 c) ∧ w'.cell? ⟨w.heap.size, 2, none⟩ = some (.int .i64 h) ∧ w.heap.size < w'.heap.size ∧ Below w.heap.size w w') (first | exact H0.drew | assumption | exact AnH.keep hb (by assumption))
      (first
        | (go_at_call 55; refine (squareOf_any _ _ (by omega) (by omega)).mono ?_; rintro e w' ⟨rfl, hb⟩)
        | (go_at_call 56; refine (plus_any _ _ _ (by omega) (by omega) (by omega) (by omega)).mono ?_; rintro e w' ⟨rfl, hb⟩))
    have H1 : AnH w w.heap.size s c h w' := by assumption
    have L := Lib.hid H1.bel
    clear hb H0 H1
    go_wp2_with fail
    go_ret
    exact ⟨rfl, L.out⟩
set_option maxHeartbeats 1000000 in
theorem ValidProfileI_any (t m k s c h : Int) (w : World) :
    Calls Try.prog 30 #[.agg #[.int .i64 t, .int .i64 m, .int .i64 k, .int .i64 s, .int .i64 c, .int .i64 h]] w (BoolBel (okPf t m k s c h) w) := by
  cases e1 : inB t 6 240
  · rw [okPf_n1 e1]
    go_enter Try.func30, Try.ntmps30
    go_wp2_with (first | (go_at_call 67; refine (toothValid_any _ _).mono ?_; rintro e w1 ⟨rfl, rfl⟩) | (go_at_call 51; refine (isBetween_any _ _ _ _).mono ?_; rintro e w1 ⟨rfl, rfl⟩))
    go_ret
    exact ⟨rfl, bA (bR _) _⟩
  cases e2 : inB m 1 500
  · rw [okPf_n2 e2]
    go_enter Try.func30, Try.ntmps30
    go_wp2_with (first | (go_at_call 67; refine (toothValid_any _ _).mono ?_; rintro e w1 ⟨rfl, rfl⟩) | (go_at_call 51; refine (isBetween_any _ _ _ _).mono ?_; rintro e w1 ⟨rfl, rfl⟩))
    go_ret
    exact ⟨rfl, bA (bR _) _⟩
  cases e3 : inB k 1 20
  · rw [okPf_n3 e3]
    go_enter Try.func30, Try.ntmps30
    go_wp2_with (first | (go_at_call 67; refine (toothValid_any _ _).mono ?_; rintro e w1 ⟨rfl, rfl⟩) | (go_at_call 51; refine (isBetween_any _ _ _ _).mono ?_; rintro e w1 ⟨rfl, rfl⟩))
    go_ret
    exact ⟨rfl, bA (bR _) _⟩
  rw [okPf_go e1 e2 e3]
  go_enter Try.func30, Try.ntmps30
  go_wp2_with (first | (go_at_call 67; refine (toothValid_any _ _).mono ?_; rintro e w1 ⟨rfl, rfl⟩) | (go_at_call 51; refine (isBetween_any _ _ _ _).mono ?_; rintro e w1 ⟨rfl, rfl⟩))
  refine (ValidAngleI_any _ _ _ _).mono ?_
  rintro e w1 ⟨rfl, hb⟩
  go_wp2_with fail
  go_ret
  exact ⟨rfl, bT (bA (bR _) _) hb⟩
theorem pitch_any (t m k s c h : Int) (w : World) (ht : 6 ≤ t ∧ t ≤ 240) (hm : 1 ≤ m ∧ m ≤ 500) :
    Calls Try.prog 64 #[.agg #[.int .i64 t, .int .i64 m, .int .i64 k, .int .i64 s, .int .i64 c, .int .i64 h]] w (IntB (pit t m) w) := by
  have h1 := pit_bd ht hm
  unfold pit at h1 ⊢
  go_enter Try.func64, Try.ntmps64
  go_wp2_with fail
  go_ret
  exact ⟨rfl, bA (bR _) _⟩
set_option maxHeartbeats 1000000 in
theorem outside_any (t m k s c h : Int) (w : World) (ht : 6 ≤ t ∧ t ≤ 240) (hm : 1 ≤ m ∧ m ≤ 500) (hk : 1 ≤ k ∧ k ≤ 20) :
    Calls Try.prog 65 #[.agg #[.int .i64 t, .int .i64 m, .int .i64 k, .int .i64 s, .int .i64 c, .int .i64 h]] w (IntB (out_ t m k) w) := by
  have h1 := pit_bd ht hm
  have h2 := km_bd hm hk
  have q1 := wrI (2 * k) (by omega)
  have q2 := wrI (2 * k * m) (by omega)
  have q3 := wrI (pit t m + 2 * k * m) (by omega)
  have HT := Lib.hid (And.intro ht hm)
  clear ht hm hk h1 h2
  have H0 := PfH.new w t m k s c h 30
  unfold out_
  go_enter Try.func65, Try.ntmps65
  go_upto_region 1 with fail
  generalize w.alloc (.cells #[.int .i64 t, .int .i64 m, .int .i64 k, .int .i64 s, .int .i64 c, .int .i64 h] 30) = W0 at *
  go_region_held3 (fun w' => w'.cell? ⟨w.heap.size, 0, none⟩ = some (.int .i64 t) ∧ w'.cell? ⟨w.heap.size, 1, none⟩ = some (.int .i64 m) ∧ w'.cell? ⟨w.heap.size, 2, none⟩ = some (.int .i64 k) ∧ w'.cell? ⟨w.heap.size, 3, none⟩ = some (.int .i64 s) ∧ w'.cell? ⟨w.heap.size, 4, none⟩ = some (.int .i64 c) ∧ w'.cell? ⟨w.heap.size, 5, none⟩ = some (.int .i64 h) ∧ w.heap.size < w'.heap.size ∧ Below w.heap.size w w') (first | exact H0.drew | assumption | exact PfH.keep hb (by assumption))
    (first | (go_at_call 64; refine (pitch_any _ _ _ _ _ _ _ HT.out.1 HT.out.2).mono ?_; rintro e w' ⟨rfl, hb⟩))
  have H1 : PfH w w.heap.size t m k s c h w' := by assumption
  have L := Lib.hid H1.bel
  clear hb H0 H1
  go_wp2_with fail
  go_ret
  exact ⟨rfl, L.out⟩
/-- The diameters of a profile, and the code. -/
def diF (t m k s c h : Int) : Int × Int × Int × Int := if okPf t m k s c h = true then (pit t m, out_ t m k, roo t m k, 0) else (0, 0, 0, 1)
theorem diF_no {t m k s c h : Int} (e : okPf t m k s c h = false) : diF t m k s c h = (0, 0, 0, 1) := by simp [diF, e]
theorem diF_yes {t m k s c h : Int} (e : okPf t m k s c h = true) : diF t m k s c h = (pit t m, out_ t m k, roo t m k, 0) := by simp [diF, e]
set_option maxRecDepth 100000 in
set_option maxHeartbeats 1000000 in
theorem DiametersS_any (t m k s c h : Int) (w : World) :
    Calls Try.prog 29 #[.agg #[.int .i64 t, .int .i64 m, .int .i64 k, .int .i64 s, .int .i64 c, .int .i64 h]] w (FouIn (diF t m k s c h).1 (diF t m k s c h).2.1 (diF t m k s c h).2.2.1 (diF t m k s c h).2.2.2 w) := by
  have H0 := Lib.hid (PfH.new w t m k s c h 30)
  cases ho : okPf t m k s c h
  · rw [diF_no ho]
    have L0 := Lib.hid H0.out.bel
    go_enter Try.func29, Try.ntmps29
    go_wp2_with fail
    refine (l10Ok_any _ _ _ _ _ _ _).mono ?_
    rw [ho]
    rintro e w1 ⟨rfl, hb⟩
    go_wp2_with fail
    exact bodyPost_ret (v := .tuple #[.int .i64 0, .int .i64 0, .int .i64 0, .int .i64 1]) (by simp [results, Try.results29, go_sem]) rfl ⟨rfl, bT L0.out hb⟩
  · rw [diF_yes ho]
    obtain ⟨ht, hm, hk, _⟩ := okPf_bd ho
    have h1 := pit_bd ht hm
    have h2 := km2_bd hm hk
    have q1 := wrI (k + 2) (by omega)
    have q2 := wrI (2 * (k + 2)) (by omega)
    have q3 := wrI (2 * (k + 2) * m) (by omega)
    have q4 := wrI (pit t m - 2 * (k + 2) * m) (by omega)
    have HT := Lib.hid (And.intro ht (And.intro hm hk))
    clear ht hm hk h1 h2
    unfold roo
    go_enter Try.func29, Try.ntmps29
    go_wp2_with fail
    refine (l10Ok_any _ _ _ _ _ _ _).mono ?_
    rw [ho]
    rintro e W1 ⟨rfl, hb⟩
    have H1 := H0.out.keep hb
    clear hb H0 ho
    go_upto_region 3 with fail
    go_region_held3 (fun w' => w'.cell? ⟨w.heap.size, 0, none⟩ = some (.int .i64 t) ∧ w'.cell? ⟨w.heap.size, 1, none⟩ = some (.int .i64 m) ∧ w'.cell? ⟨w.heap.size, 2, none⟩ = some (.int .i64 k) ∧ w'.cell? ⟨w.heap.size, 3, none⟩ = some (.int .i64 s) ∧ w'.cell? ⟨w.heap.size, 4, none⟩ = some (.int .i64 c) ∧ w'.cell? ⟨w.heap.size, 5, none⟩ = some (.int .i64 h) ∧ w.heap.size < w'.heap.size ∧ Below w.heap.size w w') (first | exact H1.drew | assumption | exact PfH.keep hb (by assumption))
      (first
        | (go_at_call 42; refine (l10Pitch_any _ _ _ _ _ _ _ HT.out.1 HT.out.2.1).mono ?_; rintro e w' ⟨rfl, hb⟩)
        | (go_at_call 66; refine (l10Outside_any _ _ _ _ _ _ _ HT.out.1 HT.out.2.1 HT.out.2.2).mono ?_; rintro e w' ⟨rfl, hb⟩))
    have H2 : PfH w w.heap.size t m k s c h w' := by assumption
    have L := Lib.hid H2.bel
    clear hb H1 H2
    go_wp2_with fail
    exact bodyPost_ret (v := .tuple #[.int .i64 (pit t m), .int .i64 (out_ t m k), .int .i64 (pit t m - 2 * (k + 2) * m), .int .i64 0]) (by simp [results, Try.results29, go_sem]) rfl ⟨rfl, L.out⟩
set_option maxRecDepth 100000 in
set_option maxHeartbeats 1000000 in
theorem DiametersI_any (t m k s c h : Int) (w : World) :
    Calls Try.prog 28 #[.agg #[.int .i64 t, .int .i64 m, .int .i64 k, .int .i64 s, .int .i64 c, .int .i64 h]] w (FouIn (diF t m k s c h).1 (diF t m k s c h).2.1 (diF t m k s c h).2.2.1 (diF t m k s c h).2.2.2 w) := by
  have H0 := Lib.hid (PfH.new w t m k s c h 30)
  cases ho : okPf t m k s c h
  · rw [diF_no ho]
    have L0 := Lib.hid H0.out.bel
    go_enter Try.func28, Try.ntmps28
    go_wp2_with fail
    refine (ValidProfileI_any _ _ _ _ _ _ _).mono ?_
    rw [ho]
    rintro e w1 ⟨rfl, hb⟩
    go_wp2_with fail
    exact bodyPost_ret (v := .tuple #[.int .i64 0, .int .i64 0, .int .i64 0, .int .i64 1]) (by simp [results, Try.results28, go_sem]) rfl ⟨rfl, bT L0.out hb⟩
  · rw [diF_yes ho]
    obtain ⟨ht, hm, hk, _⟩ := okPf_bd ho
    have h1 := pit_bd ht hm
    have h2 := km2_bd hm hk
    have q1 := wrI (k + 2) (by omega)
    have q2 := wrI (2 * (k + 2)) (by omega)
    have q3 := wrI (2 * (k + 2) * m) (by omega)
    have q4 := wrI (pit t m - 2 * (k + 2) * m) (by omega)
    have HT := Lib.hid (And.intro ht (And.intro hm hk))
    clear ht hm hk h1 h2
    unfold roo
    go_enter Try.func28, Try.ntmps28
    go_wp2_with fail
    refine (ValidProfileI_any _ _ _ _ _ _ _).mono ?_
    rw [ho]
    rintro e W1 ⟨rfl, hb⟩
    have H1 := H0.out.keep hb
    clear hb H0 ho
    go_upto_region 3 with fail
    go_region_held3 (fun w' => w'.cell? ⟨w.heap.size, 0, none⟩ = some (.int .i64 t) ∧ w'.cell? ⟨w.heap.size, 1, none⟩ = some (.int .i64 m) ∧ w'.cell? ⟨w.heap.size, 2, none⟩ = some (.int .i64 k) ∧ w'.cell? ⟨w.heap.size, 3, none⟩ = some (.int .i64 s) ∧ w'.cell? ⟨w.heap.size, 4, none⟩ = some (.int .i64 c) ∧ w'.cell? ⟨w.heap.size, 5, none⟩ = some (.int .i64 h) ∧ w.heap.size < w'.heap.size ∧ Below w.heap.size w w') (first | exact H1.drew | assumption | exact PfH.keep hb (by assumption))
      (first
        | (go_at_call 64; refine (pitch_any _ _ _ _ _ _ _ HT.out.1 HT.out.2.1).mono ?_; rintro e w' ⟨rfl, hb⟩)
        | (go_at_call 65; refine (outside_any _ _ _ _ _ _ _ HT.out.1 HT.out.2.1 HT.out.2.2).mono ?_; rintro e w' ⟨rfl, hb⟩))
    have H2 : PfH w w.heap.size t m k s c h w' := by assumption
    have L := Lib.hid H2.bel
    clear hb H1 H2
    go_wp2_with fail
    exact bodyPost_ret (v := .tuple #[.int .i64 (pit t m), .int .i64 (out_ t m k), .int .i64 (pit t m - 2 * (k + 2) * m), .int .i64 0]) (by simp [results, Try.results28, go_sem]) rfl ⟨rfl, L.out⟩
def AnB (s c h : Int) (w : World) (e : Ending) (w' : World) : Prop := e = .returned (.agg #[.int .i64 s, .int .i64 c, .int .i64 h]) ∧ Below w.heap.size w w'
def PfB (t m k s c h : Int) (w : World) (e : Ending) (w' : World) : Prop := e = .returned (.agg #[.int .i64 t, .int .i64 m, .int .i64 k, .int .i64 s, .int .i64 c, .int .i64 h]) ∧ Below w.heap.size w w'
theorem toAngle_any (s c h : Int) (w : World) :
    Calls Try.prog 38 #[.agg #[.int .i64 s, .int .i64 c, .int .i64 h]] w (AnB s c h w) := by
  go_enter Try.func38, Try.ntmps38
  go_wp2
  exact bodyPost_ret (v := .agg #[.int .i64 s, .int .i64 c, .int .i64 h]) (by simp [results, Try.results38, go_sem]) rfl ⟨rfl, bA (bA (bA (bR _) _) _) _⟩
set_option maxHeartbeats 2000000 in
theorem toProfile_any (t m k s c h : Int) (w : World) :
    Calls Try.prog 11 #[.agg #[.int .i64 t, .int .i64 m, .int .i64 k, .int .i64 s, .int .i64 c, .int .i64 h]] w (PfB t m k s c h w) := by
  have A1 := Lib.hid (((BoxL.new w [.int .i64 t, .int .i64 m, .int .i64 k, .int .i64 s, .int .i64 c, .int .i64 h] 25).alloc (.cells #[.int .i64 0, .int .i64 0, .int .i64 0, .int .i64 0, .int .i64 0, .int .i64 0] 30)).alloc (.cells #[.int .i64 t, .int .i64 m, .int .i64 k, .int .i64 0, .int .i64 0, .int .i64 0] 30))
  have A2 := Lib.hid ((BoxL.at_ (w := w.alloc (.cells #[.int .i64 t, .int .i64 m, .int .i64 k, .int .i64 s, .int .i64 c, .int .i64 h] 25)) (b := w.heap.size + 1) (vs := [.int .i64 0, .int .i64 0, .int .i64 0, .int .i64 0, .int .i64 0, .int .i64 0]) (T := 30) (by simp)).alloc (.cells #[.int .i64 t, .int .i64 m, .int .i64 k, .int .i64 0, .int .i64 0, .int .i64 0] 30))
  have A3 := Lib.hid (BoxL.at_ (w := (w.alloc (.cells #[.int .i64 t, .int .i64 m, .int .i64 k, .int .i64 s, .int .i64 c, .int .i64 h] 25)).alloc (.cells #[.int .i64 0, .int .i64 0, .int .i64 0, .int .i64 0, .int .i64 0, .int .i64 0] 30)) (b := w.heap.size + 1 + 1) (vs := [.int .i64 t, .int .i64 m, .int .i64 k, .int .i64 0, .int .i64 0, .int .i64 0]) (T := 30) (by simp))
  have L0 := Lib.hid (bA (bA (bA (bR w) (.cells #[.int .i64 t, .int .i64 m, .int .i64 k, .int .i64 s, .int .i64 c, .int .i64 h] 25)) (.cells #[.int .i64 0, .int .i64 0, .int .i64 0, .int .i64 0, .int .i64 0, .int .i64 0] 30)) (.cells #[.int .i64 t, .int .i64 m, .int .i64 k, .int .i64 0, .int .i64 0, .int .i64 0] 30))
  go_enter Try.func11, Try.ntmps11
  go_wp2_with fail
  generalize ((w.alloc (.cells #[.int .i64 t, .int .i64 m, .int .i64 k, .int .i64 s, .int .i64 c, .int .i64 h] 25)).alloc (.cells #[.int .i64 0, .int .i64 0, .int .i64 0, .int .i64 0, .int .i64 0, .int .i64 0] 30)).alloc (.cells #[.int .i64 t, .int .i64 m, .int .i64 k, .int .i64 0, .int .i64 0, .int .i64 0] 30) = W at *
  refine (toAngle_any _ _ _ _).mono ?_
  rintro e w1 ⟨rfl, hb⟩
  have L1 := Lib.hid (bT L0.out hb)
  obtain ⟨a0, a1, a2, a3, a4, a5, a6⟩ := (A1.out.keep hb).c6
  obtain ⟨z0, z1, z2, z3, z4, z5, z6⟩ := (A2.out.keep hb).c6
  obtain ⟨y0, y1, y2, y3, y4, y5⟩ := (A2.out.keep hb).f6
  obtain ⟨u0, u1, u2, u3, u4, u5, u6⟩ := (A3.out.keep hb).c6
  obtain ⟨v0, v1, v2, v3, v4, v5⟩ := (A3.out.keep hb).f6
  clear hb A1 A2 A3 L0
  generalize hb3 : w.heap.size + 1 + 1 = b3 at *
  generalize hb2 : w.heap.size + 1 = b2 at *
  generalize hb1 : w.heap.size = b1 at a0 a1 a2 a3 a4 a5 a6
  have hn12 : ¬ b1 = b2 := by omega
  have hn13 : ¬ b1 = b3 := by omega
  have hn23 : ¬ b2 = b3 := by omega
  have hn32 : ¬ b3 = b2 := by omega
  have hl2 : w.heap.size ≤ b2 := by omega
  have hl3 : w.heap.size ≤ b3 := by omega
  go_wp2_with fail
  refine bodyPost_ret (v := .agg #[.int .i64 t, .int .i64 m, .int .i64 k, .int .i64 s, .int .i64 c, .int .i64 h]) ?_ rfl ⟨rfl, (((((((((L1.out.setCell hl3 _).setCell hl3 _).setCell hl3 _).setCell hl2 _).setCell hl2 _).setCell hl2 _).setCell hl2 _).setCell hl2 _).setCell hl2 _)⟩
  simp [results, Try.results11, go_sem, z0, z1, z2, z3, z4, z5]
end Go.Proofs.Ytpbmpmcifpgchaa

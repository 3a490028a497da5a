/-
  Interference, the program's side: impl.engagement.interferes.
-/
import Derived.Test.YtpbmpmcifpgchaaEn
namespace Go.Proofs.Ytpbmpmcifpgchaa
open Go.RowKit

/-- What a call keeps of two profiles in box b and of a square in box b2. -/
def EsH (w : World) (b b2 : Nat) (t m k s c h t2 m2 k2 s2 c2 h2 v : Int) (w' : World) : Prop := (fun w' => w'.cell? ⟨b, 0, none⟩ = some (.int .i64 t) ∧ w'.cell? ⟨b, 1, none⟩ = some (.int .i64 m) ∧ w'.cell? ⟨b, 2, none⟩ = some (.int .i64 k) ∧ w'.cell? ⟨b, 3, none⟩ = some (.int .i64 s) ∧ w'.cell? ⟨b, 4, none⟩ = some (.int .i64 c) ∧ w'.cell? ⟨b, 5, none⟩ = some (.int .i64 h) ∧ w'.cell? ⟨b, 6, none⟩ = some (.int .i64 t2) ∧ w'.cell? ⟨b, 7, none⟩ = some (.int .i64 m2) ∧ w'.cell? ⟨b, 8, none⟩ = some (.int .i64 k2) ∧ w'.cell? ⟨b, 9, none⟩ = some (.int .i64 s2) ∧ w'.cell? ⟨b, 10, none⟩ = some (.int .i64 c2) ∧ w'.cell? ⟨b, 11, none⟩ = some (.int .i64 h2) ∧ w'.cell? ⟨b2, 0, none⟩ = some (.int .u64 0) ∧ w'.cell? ⟨b2, 1, none⟩ = some (.int .u64 (v)) ∧ b < w'.heap.size ∧ b2 < w'.heap.size ∧ Below w.heap.size w w') w'
theorem EsH.keep {w : World} {b b2 : Nat} {t m k s c h t2 m2 k2 s2 c2 h2 v : Int} {w' x : World} (hb : Below w'.heap.size w' x) (H : EsH w b b2 t m k s c h t2 m2 k2 s2 c2 h2 v w') : EsH w b b2 t m k s c h t2 m2 k2 s2 c2 h2 v x := by
  obtain ⟨c0, c1, c2', c3, c4, c5, d0, d1, d2, d3, d4, d5, f0, f1, e0, e2, e1⟩ := H
  have e : ∀ o, x.cell? ⟨b, o, none⟩ = w'.cell? ⟨b, o, none⟩ := fun o => hb.cell (p := ⟨b, o, none⟩) e0
  have e' : ∀ o, x.cell? ⟨b2, o, none⟩ = w'.cell? ⟨b2, o, none⟩ := fun o => hb.cell (p := ⟨b2, o, none⟩) e2
  exact ⟨(e 0).trans c0, (e 1).trans c1, (e 2).trans c2', (e 3).trans c3, (e 4).trans c4, (e 5).trans c5, (e 6).trans d0, (e 7).trans d1, (e 8).trans d2, (e 9).trans d3, (e 10).trans d4, (e 11).trans d5, (e' 0).trans f0, (e' 1).trans f1, Nat.lt_of_lt_of_le e0 hb.size, Nat.lt_of_lt_of_le e2 hb.size, bT e1 hb⟩
theorem EsH.drew {w : World} {b b2 : Nat} {t m k s c h t2 m2 k2 s2 c2 h2 v : Int} {w' : World} (H : EsH w b b2 t m k s c h t2 m2 k2 s2 c2 h2 v w') : EsH w b b2 t m k s c h t2 m2 k2 s2 c2 h2 v w'.drew := H.keep (bR _).drew
theorem EsH.bel {w : World} {b b2 : Nat} {t m k s c h t2 m2 k2 s2 c2 h2 v : Int} {w' : World} (H : EsH w b b2 t m k s c h t2 m2 k2 s2 c2 h2 v w') : Below w.heap.size w w' := H.2.2.2.2.2.2.2.2.2.2.2.2.2.2.2.2
theorem EsH.new {w : World} {b : Nat} {t m k s c h t2 m2 k2 s2 c2 h2 v : Int} {w' : World} (H : EgH w b t m k s c h t2 m2 k2 s2 c2 h2 w') (T : TypeId) : EsH w b w'.heap.size t m k s c h t2 m2 k2 s2 c2 h2 v (w'.alloc (.cells #[.int .u64 0, .int .u64 v] T)) := by
  have hb : Below w'.heap.size w' (w'.alloc (.cells #[.int .u64 0, .int .u64 v] T)) := bA (bR _) _
  obtain ⟨c0, c1, c2', c3, c4, c5, d0, d1, d2, d3, d4, d5, e0, e1⟩ := H.keep hb
  exact ⟨c0, c1, c2', c3, c4, c5, d0, d1, d2, d3, d4, d5, by simp [go_sem], by simp [go_sem], e0, by simp, e1⟩
/-- Profile 1 reaches too far: the square of its outside is greater than that of its base and of the line. -/
def bey (o p l : Int) : Bool := decide (p * p + l * l < o * o)
def itF (t m k s c h t2 k2 : Int) : Bool := bey (out_ t m k * h) (pit t m * c) ((pit t m + pit t2 m) * s) || bey (out_ t2 m k2 * h) (pit t2 m * c) ((pit t m + pit t2 m) * s)
set_option maxRecDepth 100000 in
set_option maxHeartbeats 4000000 in
theorem interferes_any (t m k s c h t2 k2 : Int) (w : World) (hl : Lim t m k s c h) (hl2 : Lim t2 m k2 s c h) :
    Calls Try.prog 40 #[.agg #[.int .i64 t, .int .i64 m, .int .i64 k, .int .i64 s, .int .i64 c, .int .i64 h, .int .i64 t2, .int .i64 m, .int .i64 k2, .int .i64 s, .int .i64 c, .int .i64 h]] w (BoolBel (itF t m k s c h t2 k2) w) := by
  have a1 := ln_bd hl.1 hl.2.1 hl2.1 hl2.2.1 hl.2.2.2.1
  have a2 := oh_bd hl.1 hl.2.1 hl.2.2.1 hl.2.2.2.2.2
  have a3 := oh_bd hl2.1 hl2.2.1 hl2.2.2.1 hl2.2.2.2.2.2
  have a4 := pc_bd hl.1 hl.2.1 hl.2.2.2.2.1
  have a5 := pc_bd hl2.1 hl2.2.1 hl2.2.2.2.2.1
  have HS := Lib.hid (fun W => squareOf_any ((pit t m + pit t2 m) * s) W (by omega) (by omega))
  have q1 := sqq a1.1 a1.2
  have q4 := sqq a4.1 a4.2
  have q5 := sqq a5.1 a5.2
  have HP := Lib.hid (show ((0 ≤ (pit t m + pit t2 m) * s * ((pit t m + pit t2 m) * s)) ∧ (pit t m + pit t2 m) * s * ((pit t m + pit t2 m) * s) ≤ 9000000000000000000) ∧ (0 ≤ pit t m * c * (pit t m * c) ∧ pit t m * c * (pit t m * c) ≤ 9000000000000000000) ∧ (0 ≤ pit t2 m * c * (pit t2 m * c) ∧ pit t2 m * c * (pit t2 m * c) ≤ 9000000000000000000) by omega)
  have HL := Lib.hid (And.intro hl hl2)
  clear hl hl2 a1 a2 a3 a4 a5 q1 q4 q5
  have H0 := Lib.hid (EgH.new w t m k s c h t2 m k2 s c h 61)
  have HF := Lib.hid (show itF t m k s c h t2 k2 = (bey (out_ t m k * h) (pit t m * c) ((pit t m + pit t2 m) * s) || bey (out_ t2 m k2 * h) (pit t2 m * c) ((pit t m + pit t2 m) * s)) from rfl)
  unfold bey at HF
  cases hx : decide (pit t m * c * (pit t m * c) + (pit t m + pit t2 m) * s * ((pit t m + pit t2 m) * s) < out_ t m k * h * (out_ t m k * h))
  · cases hy : decide (pit t2 m * c * (pit t2 m * c) + (pit t m + pit t2 m) * s * ((pit t m + pit t2 m) * s) < out_ t2 m k2 * h * (out_ t2 m k2 * h))
    · rw [hx, hy] at HF
      rw [HF.out]
      go_enter Try.func40, Try.ntmps40
      go_wp2_with fail
      refine (line_any _ _ _ _ _ _ _ _ _ _ _ _ _ HL.out.1 HL.out.2).mono ?_
      rintro e w1 ⟨rfl, hb⟩
      have H1 := Lib.hid (H0.out.keep hb)
      clear hb
      go_wp2_with fail
      refine (HS.out _).mono ?_
      rintro e W2 ⟨rfl, hb⟩
      have H2 := Lib.hid (H1.out.keep hb)
      clear hb
      go_upto_region 2 with fail
      have H3 := EsH.new (v := (pit t m + pit t2 m) * s * ((pit t m + pit t2 m) * s)) H2.out 76
      generalize W2.alloc (.cells #[.int .u64 0, .int .u64 ((pit t m + pit t2 m) * s * ((pit t m + pit t2 m) * s))] 76) = W3 at *
      generalize W2.heap.size = b2 at *
      clear H0 H1 H2 HS HF
      go_region_held3 (fun w' => w'.cell? ⟨w.heap.size, 0, none⟩ = some (.int .i64 t) ∧ w'.cell? ⟨w.heap.size, 1, none⟩ = some (.int .i64 m) ∧ w'.cell? ⟨w.heap.size, 2, none⟩ = some (.int .i64 k) ∧ w'.cell? ⟨w.heap.size, 3, none⟩ = some (.int .i64 s) ∧ w'.cell? ⟨w.heap.size, 4, none⟩ = some (.int .i64 c) ∧ w'.cell? ⟨w.heap.size, 5, none⟩ = some (.int .i64 h) ∧ w'.cell? ⟨w.heap.size, 6, none⟩ = some (.int .i64 t2) ∧ w'.cell? ⟨w.heap.size, 7, none⟩ = some (.int .i64 m) ∧ w'.cell? ⟨w.heap.size, 8, none⟩ = some (.int .i64 k2) ∧ w'.cell? ⟨w.heap.size, 9, none⟩ = some (.int .i64 s) ∧ w'.cell? ⟨w.heap.size, 10, none⟩ = some (.int .i64 c) ∧ w'.cell? ⟨w.heap.size, 11, none⟩ = some (.int .i64 h) ∧ w'.cell? ⟨b2, 0, none⟩ = some (.int .u64 0) ∧ w'.cell? ⟨b2, 1, none⟩ = some (.int .u64 ((pit t m + pit t2 m) * s * ((pit t m + pit t2 m) * s))) ∧ w.heap.size < w'.heap.size ∧ b2 < w'.heap.size ∧ Below w.heap.size w w') (first | exact H3.drew | assumption | exact EsH.keep hb (by assumption))
        (first
          | (go_at_call 74; refine (outsideSquare_any _ _ _ _ _ _ _ (by first | exact HL.out.1 | exact HL.out.2)).mono ?_; rintro e w' ⟨rfl, hb⟩)
          | (go_at_call 76; refine (baseSquare_any _ _ _ _ _ _ _ (by first | exact HL.out.1 | exact HL.out.2)).mono ?_; rintro e w' ⟨rfl, hb⟩)
          | (go_at_call 56; refine (plus_any _ _ _ (by have := HP.out; omega) (by have := HP.out; omega) (by have := HP.out; omega) (by have := HP.out; omega)).mono ?_; rintro e w' ⟨rfl, hb⟩)
          | (go_at_call 75; refine (exceeds_any _ _ _).mono ?_; (first | rw [hx] | rw [hy]); rintro e w' ⟨rfl, hb⟩))
      have H4 : EsH w w.heap.size b2 t m k s c h t2 m k2 s c h ((pit t m + pit t2 m) * s * ((pit t m + pit t2 m) * s)) w' := by assumption
      have L := Lib.hid H4.bel
      clear hb H3 H4
      go_wp2_with fail
      go_ret
      exact ⟨rfl, L.out⟩
    · rw [hx, hy] at HF
      rw [HF.out]
      go_enter Try.func40, Try.ntmps40
      go_wp2_with fail
      refine (line_any _ _ _ _ _ _ _ _ _ _ _ _ _ HL.out.1 HL.out.2).mono ?_
      rintro e w1 ⟨rfl, hb⟩
      have H1 := Lib.hid (H0.out.keep hb)
      clear hb
      go_wp2_with fail
      refine (HS.out _).mono ?_
      rintro e W2 ⟨rfl, hb⟩
      have H2 := Lib.hid (H1.out.keep hb)
      clear hb
      go_upto_region 2 with fail
      have H3 := EsH.new (v := (pit t m + pit t2 m) * s * ((pit t m + pit t2 m) * s)) H2.out 76
      generalize W2.alloc (.cells #[.int .u64 0, .int .u64 ((pit t m + pit t2 m) * s * ((pit t m + pit t2 m) * s))] 76) = W3 at *
      generalize W2.heap.size = b2 at *
      clear H0 H1 H2 HS HF
      go_region_held3 (fun w' => w'.cell? ⟨w.heap.size, 0, none⟩ = some (.int .i64 t) ∧ w'.cell? ⟨w.heap.size, 1, none⟩ = some (.int .i64 m) ∧ w'.cell? ⟨w.heap.size, 2, none⟩ = some (.int .i64 k) ∧ w'.cell? ⟨w.heap.size, 3, none⟩ = some (.int .i64 s) ∧ w'.cell? ⟨w.heap.size, 4, none⟩ = some (.int .i64 c) ∧ w'.cell? ⟨w.heap.size, 5, none⟩ = some (.int .i64 h) ∧ w'.cell? ⟨w.heap.size, 6, none⟩ = some (.int .i64 t2) ∧ w'.cell? ⟨w.heap.size, 7, none⟩ = some (.int .i64 m) ∧ w'.cell? ⟨w.heap.size, 8, none⟩ = some (.int .i64 k2) ∧ w'.cell? ⟨w.heap.size, 9, none⟩ = some (.int .i64 s) ∧ w'.cell? ⟨w.heap.size, 10, none⟩ = some (.int .i64 c) ∧ w'.cell? ⟨w.heap.size, 11, none⟩ = some (.int .i64 h) ∧ w'.cell? ⟨b2, 0, none⟩ = some (.int .u64 0) ∧ w'.cell? ⟨b2, 1, none⟩ = some (.int .u64 ((pit t m + pit t2 m) * s * ((pit t m + pit t2 m) * s))) ∧ w.heap.size < w'.heap.size ∧ b2 < w'.heap.size ∧ Below w.heap.size w w') (first | exact H3.drew | assumption | exact EsH.keep hb (by assumption))
        (first
          | (go_at_call 74; refine (outsideSquare_any _ _ _ _ _ _ _ (by first | exact HL.out.1 | exact HL.out.2)).mono ?_; rintro e w' ⟨rfl, hb⟩)
          | (go_at_call 76; refine (baseSquare_any _ _ _ _ _ _ _ (by first | exact HL.out.1 | exact HL.out.2)).mono ?_; rintro e w' ⟨rfl, hb⟩)
          | (go_at_call 56; refine (plus_any _ _ _ (by have := HP.out; omega) (by have := HP.out; omega) (by have := HP.out; omega) (by have := HP.out; omega)).mono ?_; rintro e w' ⟨rfl, hb⟩)
          | (go_at_call 75; refine (exceeds_any _ _ _).mono ?_; (first | rw [hx] | rw [hy]); rintro e w' ⟨rfl, hb⟩))
      have H4 : EsH w w.heap.size b2 t m k s c h t2 m k2 s c h ((pit t m + pit t2 m) * s * ((pit t m + pit t2 m) * s)) w' := by assumption
      have L := Lib.hid H4.bel
      clear hb H3 H4
      go_wp2_with fail
      go_ret
      exact ⟨rfl, L.out⟩
  · rw [hx, Bool.true_or] at HF
    rw [HF.out]
    go_enter Try.func40, Try.ntmps40
    go_wp2_with fail
    refine (line_any _ _ _ _ _ _ _ _ _ _ _ _ _ HL.out.1 HL.out.2).mono ?_
    rintro e w1 ⟨rfl, hb⟩
    have H1 := Lib.hid (H0.out.keep hb)
    clear hb
    go_wp2_with fail
    refine (HS.out _).mono ?_
    rintro e W2 ⟨rfl, hb⟩
    have H2 := Lib.hid (H1.out.keep hb)
    clear hb
    go_upto_region 2 with fail
    have H3 := EsH.new (v := (pit t m + pit t2 m) * s * ((pit t m + pit t2 m) * s)) H2.out 76
    generalize W2.alloc (.cells #[.int .u64 0, .int .u64 ((pit t m + pit t2 m) * s * ((pit t m + pit t2 m) * s))] 76) = W3 at *
    generalize W2.heap.size = b2 at *
    clear H0 H1 H2 HS HF
    refine wp_region_held_drew (S := EsH w w.heap.size b2 t m k s c h t2 m k2 s c h ((pit t m + pit t2 m) * s * ((pit t m + pit t2 m) * s))) (by kernel_rfl) H3.drew (fun hHeld => ?_)
    clear H3
    refine wpAnyH_take (i := 0) (oi := { dst := some 7, op := Op.fieldAddr 61 (Operand.tmp 1) 0, type := 0, pos := "l10_profiles.go:185", after := #[], guard := none }) (v := ?_) rfl (by kernel_rfl) (by kernel_rfl) (by kernel_rfl) (fun _ _ _ h => h) (Or.inl ⟨by rfl, ?_⟩) (by assumption) ?_
    rotate_left 1
    · ((intro w hSw; obtain ⟨g0, g1, g2, g3, g4, g5, g6, g7, g8, g9, g10, g11, g12, g13, g14, g15, g16⟩ := hSw; go_simp; try with_reducible rfl))
    (try simp only [Act.put, List.setIfInBounds_toArray, List.set_cons_zero, List.set_cons_succ])
    refine wpAnyH_take (i := 1) (oi := { dst := some 8, op := Op.load 30 (Operand.tmp 7), type := 30, pos := "l10_profiles.go:185", after := #[{ on := 0, ground := Ground.data }], guard := none }) (v := ?_) rfl (by kernel_rfl) (by kernel_rfl) (by kernel_rfl) (fun _ _ _ h => h) (Or.inl ⟨by rfl, ?_⟩) (by assumption) ?_
    rotate_left 1
    · ((intro w hSw; obtain ⟨g0, g1, g2, g3, g4, g5, g6, g7, g8, g9, g10, g11, g12, g13, g14, g15, g16⟩ := hSw; go_simp; try with_reducible rfl))
    (try simp only [Act.put, List.setIfInBounds_toArray, List.set_cons_zero, List.set_cons_succ])
    refine wpAnyH_take (i := 3) (oi := { dst := some 10, op := Op.fieldAddr 61 (Operand.tmp 1) 0, type := 0, pos := "l10_profiles.go:185", after := #[], guard := none }) (v := ?_) rfl (by kernel_rfl) (by kernel_rfl) (by kernel_rfl) (fun _ _ _ h => h) (Or.inl ⟨by rfl, ?_⟩) (by assumption) ?_
    rotate_left 1
    · ((intro w hSw; obtain ⟨g0, g1, g2, g3, g4, g5, g6, g7, g8, g9, g10, g11, g12, g13, g14, g15, g16⟩ := hSw; go_simp; try with_reducible rfl))
    (try simp only [Act.put, List.setIfInBounds_toArray, List.set_cons_zero, List.set_cons_succ])
    refine wpAnyH_take (i := 4) (oi := { dst := some 11, op := Op.load 30 (Operand.tmp 10), type := 30, pos := "l10_profiles.go:185", after := #[{ on := 3, ground := Ground.data }], guard := none }) (v := ?_) rfl (by kernel_rfl) (by kernel_rfl) (by kernel_rfl) (fun _ _ _ h => h) (Or.inl ⟨by rfl, ?_⟩) (by assumption) ?_
    rotate_left 1
    · ((intro w hSw; obtain ⟨g0, g1, g2, g3, g4, g5, g6, g7, g8, g9, g10, g11, g12, g13, g14, g15, g16⟩ := hSw; go_simp; try with_reducible rfl))
    (try simp only [Act.put, List.setIfInBounds_toArray, List.set_cons_zero, List.set_cons_succ])
    refine wpAnyH_take (i := 6) (oi := { dst := some 13, op := Op.load 76 (Operand.tmp 3), type := 76, pos := "l10_profiles.go:185", after := #[], guard := none }) (v := ?_) rfl (by kernel_rfl) (by kernel_rfl) (by kernel_rfl) (fun _ _ _ h => h) (Or.inl ⟨by rfl, ?_⟩) (by assumption) ?_
    rotate_left 1
    · ((intro w hSw; obtain ⟨g0, g1, g2, g3, g4, g5, g6, g7, g8, g9, g10, g11, g12, g13, g14, g15, g16⟩ := hSw; go_simp; try with_reducible rfl))
    (try simp only [Act.put, List.setIfInBounds_toArray, List.set_cons_zero, List.set_cons_succ])
    refine wpAnyH_ready (rs := [2]) (by kernel_rfl) (by simp) ?_
    refine AllReadyH.cons (o := { dst := some 9, op := Op.call { callee := Callee.value (Operand.func 74), args := #[Operand.tmp 8], argTypes := #[30] }, type := 76, pos := "l10_profiles.go:185", after := #[{ on := 1, ground := Ground.data }], guard := none }) rfl (fun K hK => ?_) AllReadyH.nil
    go_simp
    go_at_call 74
    refine (outsideSquare_any _ _ _ _ _ _ _ HL.out.1).mono ?_
    rintro e w' ⟨rfl, hb⟩
    refine hK.out _ _ (EsH.keep hb hHeld) (fun hHeld2 => ?_)
    clear hK K hHeld hb
    have hHeld := hHeld2
    clear hHeld2
    (try simp only [Act.put, List.setIfInBounds_toArray, List.set_cons_zero, List.set_cons_succ])
    refine wpAnyH_ready (rs := [5]) (by kernel_rfl) (by simp) ?_
    refine AllReadyH.cons (o := { dst := some 12, op := Op.call { callee := Callee.value (Operand.func 76), args := #[Operand.tmp 11], argTypes := #[30] }, type := 76, pos := "l10_profiles.go:185", after := #[{ on := 4, ground := Ground.data }, { on := 2, ground := Ground.chain }], guard := none }) rfl (fun K hK => ?_) AllReadyH.nil
    go_simp
    go_at_call 76
    refine (baseSquare_any _ _ _ _ _ _ _ HL.out.1).mono ?_
    rintro e w' ⟨rfl, hb⟩
    refine hK.out _ _ (EsH.keep hb hHeld) (fun hHeld2 => ?_)
    clear hK K hHeld hb
    have hHeld := hHeld2
    clear hHeld2
    (try simp only [Act.put, List.setIfInBounds_toArray, List.set_cons_zero, List.set_cons_succ])
    refine wpAnyH_ready (rs := [7]) (by kernel_rfl) (by simp) ?_
    refine AllReadyH.cons (o := { dst := some 14, op := Op.call { callee := Callee.value (Operand.func 56), args := #[Operand.tmp 12, Operand.tmp 13], argTypes := #[76, 76] }, type := 76, pos := "l10_profiles.go:185", after := #[{ on := 5, ground := Ground.data }, { on := 6, ground := Ground.data }, { on := 5, ground := Ground.chain }], guard := none }) rfl (fun K hK => ?_) AllReadyH.nil
    go_simp
    go_at_call 56
    refine (plus_any _ _ _ (by have := HP.out; omega) (by have := HP.out; omega) (by have := HP.out; omega) (by have := HP.out; omega)).mono ?_
    rintro e w' ⟨rfl, hb⟩
    refine hK.out _ _ (EsH.keep hb hHeld) (fun hHeld2 => ?_)
    clear hK K hHeld hb
    have hHeld := hHeld2
    clear hHeld2
    (try simp only [Act.put, List.setIfInBounds_toArray, List.set_cons_zero, List.set_cons_succ])
    refine wpAnyH_ready (rs := [8]) (by kernel_rfl) (by simp) ?_
    refine AllReadyH.cons (o := { dst := some 15, op := Op.call { callee := Callee.value (Operand.func 75), args := #[Operand.tmp 9, Operand.tmp 14], argTypes := #[76, 76] }, type := 4, pos := "l10_profiles.go:185", after := #[{ on := 2, ground := Ground.data }, { on := 7, ground := Ground.data }, { on := 7, ground := Ground.chain }], guard := none }) rfl (fun K hK => ?_) AllReadyH.nil
    go_simp
    go_at_call 75
    refine (exceeds_any _ _ _).mono ?_
    rw [hx]
    rintro e w' ⟨rfl, hb⟩
    refine hK.out _ _ (EsH.keep hb hHeld) (fun hHeld2 => ?_)
    clear hK K hHeld hb
    have hHeld := hHeld2
    clear hHeld2
    (try simp only [Act.put, List.setIfInBounds_toArray, List.set_cons_zero, List.set_cons_succ])
    refine wpAnyH_take (i := 9) (oi := { dst := some 16, op := Op.move (Operand.tmp 15), type := 4, pos := "l10_profiles.go:185", after := #[{ on := 8, ground := Ground.data }, { on := 8, ground := Ground.chain }], guard := none }) (v := ?_) rfl (by kernel_rfl) (by kernel_rfl) (by kernel_rfl) (fun _ _ _ h => h) (Or.inl ⟨by rfl, ?_⟩) (by assumption) ?_
    rotate_left 1
    · ((intro w hSw; obtain ⟨g0, g1, g2, g3, g4, g5, g6, g7, g8, g9, g10, g11, g12, g13, g14, g15, g16⟩ := hSw; go_simp; try with_reducible rfl))
    (try simp only [Act.put, List.setIfInBounds_toArray, List.set_cons_zero, List.set_cons_succ])
    refine wpAnyH_take (i := 10) (oi := { dst := some 17, op := Op.fieldAddr 61 (Operand.tmp 1) 1, type := 0, pos := "l10_profiles.go:185", after := #[{ on := 9, ground := Ground.guard }], guard := some (9, false) }) (v := undef) rfl (by kernel_rfl) (by kernel_rfl) (by kernel_rfl) (fun _ _ _ h => h) (Or.inr ⟨by rfl, rfl⟩) (by assumption) ?_
    (try simp only [Act.put, List.setIfInBounds_toArray, List.set_cons_zero, List.set_cons_succ])
    refine wpAnyH_take (i := 11) (oi := { dst := some 18, op := Op.load 30 (Operand.tmp 17), type := 30, pos := "l10_profiles.go:185", after := #[{ on := 10, ground := Ground.data }, { on := 9, ground := Ground.guard }], guard := some (9, false) }) (v := undef) rfl (by kernel_rfl) (by kernel_rfl) (by kernel_rfl) (fun _ _ _ h => h) (Or.inr ⟨by rfl, rfl⟩) (by assumption) ?_
    (try simp only [Act.put, List.setIfInBounds_toArray, List.set_cons_zero, List.set_cons_succ])
    refine wpAnyH_take (i := 12) (oi := { dst := some 19, op := Op.call { callee := Callee.value (Operand.func 74), args := #[Operand.tmp 18], argTypes := #[30] }, type := 76, pos := "l10_profiles.go:185", after := #[{ on := 11, ground := Ground.data }, { on := 9, ground := Ground.chain }, { on := 9, ground := Ground.guard }], guard := some (9, false) }) (v := undef) rfl (by kernel_rfl) (by kernel_rfl) (by kernel_rfl) (fun _ _ _ h => h) (Or.inr ⟨by rfl, rfl⟩) (by assumption) ?_
    (try simp only [Act.put, List.setIfInBounds_toArray, List.set_cons_zero, List.set_cons_succ])
    refine wpAnyH_take (i := 13) (oi := { dst := some 20, op := Op.fieldAddr 61 (Operand.tmp 1) 1, type := 0, pos := "l10_profiles.go:185", after := #[{ on := 9, ground := Ground.guard }], guard := some (9, false) }) (v := undef) rfl (by kernel_rfl) (by kernel_rfl) (by kernel_rfl) (fun _ _ _ h => h) (Or.inr ⟨by rfl, rfl⟩) (by assumption) ?_
    (try simp only [Act.put, List.setIfInBounds_toArray, List.set_cons_zero, List.set_cons_succ])
    refine wpAnyH_take (i := 14) (oi := { dst := some 21, op := Op.load 30 (Operand.tmp 20), type := 30, pos := "l10_profiles.go:185", after := #[{ on := 13, ground := Ground.data }, { on := 9, ground := Ground.guard }], guard := some (9, false) }) (v := undef) rfl (by kernel_rfl) (by kernel_rfl) (by kernel_rfl) (fun _ _ _ h => h) (Or.inr ⟨by rfl, rfl⟩) (by assumption) ?_
    (try simp only [Act.put, List.setIfInBounds_toArray, List.set_cons_zero, List.set_cons_succ])
    refine wpAnyH_take (i := 15) (oi := { dst := some 22, op := Op.call { callee := Callee.value (Operand.func 76), args := #[Operand.tmp 21], argTypes := #[30] }, type := 76, pos := "l10_profiles.go:185", after := #[{ on := 14, ground := Ground.data }, { on := 12, ground := Ground.chain }, { on := 9, ground := Ground.guard }], guard := some (9, false) }) (v := undef) rfl (by kernel_rfl) (by kernel_rfl) (by kernel_rfl) (fun _ _ _ h => h) (Or.inr ⟨by rfl, rfl⟩) (by assumption) ?_
    (try simp only [Act.put, List.setIfInBounds_toArray, List.set_cons_zero, List.set_cons_succ])
    refine wpAnyH_take (i := 16) (oi := { dst := some 23, op := Op.load 76 (Operand.tmp 3), type := 76, pos := "l10_profiles.go:185", after := #[{ on := 9, ground := Ground.guard }], guard := some (9, false) }) (v := undef) rfl (by kernel_rfl) (by kernel_rfl) (by kernel_rfl) (fun _ _ _ h => h) (Or.inr ⟨by rfl, rfl⟩) (by assumption) ?_
    (try simp only [Act.put, List.setIfInBounds_toArray, List.set_cons_zero, List.set_cons_succ])
    refine wpAnyH_take (i := 17) (oi := { dst := some 24, op := Op.call { callee := Callee.value (Operand.func 56), args := #[Operand.tmp 22, Operand.tmp 23], argTypes := #[76, 76] }, type := 76, pos := "l10_profiles.go:185", after := #[{ on := 15, ground := Ground.data }, { on := 16, ground := Ground.data }, { on := 15, ground := Ground.chain }, { on := 9, ground := Ground.guard }], guard := some (9, false) }) (v := undef) rfl (by kernel_rfl) (by kernel_rfl) (by kernel_rfl) (fun _ _ _ h => h) (Or.inr ⟨by rfl, rfl⟩) (by assumption) ?_
    (try simp only [Act.put, List.setIfInBounds_toArray, List.set_cons_zero, List.set_cons_succ])
    refine wpAnyH_take (i := 18) (oi := { dst := some 25, op := Op.call { callee := Callee.value (Operand.func 75), args := #[Operand.tmp 19, Operand.tmp 24], argTypes := #[76, 76] }, type := 4, pos := "l10_profiles.go:185", after := #[{ on := 12, ground := Ground.data }, { on := 17, ground := Ground.data }, { on := 17, ground := Ground.chain }, { on := 9, ground := Ground.guard }], guard := some (9, false) }) (v := undef) rfl (by kernel_rfl) (by kernel_rfl) (by kernel_rfl) (fun _ _ _ h => h) (Or.inr ⟨by rfl, rfl⟩) (by assumption) ?_
    (try simp only [Act.put, List.setIfInBounds_toArray, List.set_cons_zero, List.set_cons_succ])
    refine wpAnyH_take (i := 19) (oi := { dst := some 26, op := Op.pick (Operand.tmp 16) (Operand.const (Value.bool true)) (Operand.tmp 25), type := 4, pos := "l10_profiles.go:185", after := #[{ on := 9, ground := Ground.data }, { on := 18, ground := Ground.data }], guard := none }) (v := ?_) rfl (by kernel_rfl) (by kernel_rfl) (by kernel_rfl) (fun _ _ _ h => h) (Or.inl ⟨by rfl, ?_⟩) (by assumption) ?_
    rotate_left 1
    · ((intro w hSw; obtain ⟨g0, g1, g2, g3, g4, g5, g6, g7, g8, g9, g10, g11, g12, g13, g14, g15, g16⟩ := hSw; go_simp; try with_reducible rfl))
    (try simp only [Act.put, List.setIfInBounds_toArray, List.set_cons_zero, List.set_cons_succ])
    refine wpAnyH_take (i := 20) (oi := { dst := some 2, op := Op.assign (Operand.tmp 26), type := 4, pos := "l10_profiles.go:185", after := #[{ on := 19, ground := Ground.data }, { on := 18, ground := Ground.chain }, { on := 0, ground := Ground.phase }, { on := 1, ground := Ground.phase }, { on := 2, ground := Ground.phase }, { on := 3, ground := Ground.phase }, { on := 4, ground := Ground.phase }, { on := 5, ground := Ground.phase }, { on := 6, ground := Ground.phase }, { on := 7, ground := Ground.phase }, { on := 8, ground := Ground.phase }, { on := 9, ground := Ground.phase }, { on := 10, ground := Ground.phase }, { on := 11, ground := Ground.phase }, { on := 12, ground := Ground.phase }, { on := 13, ground := Ground.phase }, { on := 14, ground := Ground.phase }, { on := 15, ground := Ground.phase }, { on := 16, ground := Ground.phase }, { on := 17, ground := Ground.phase }, { on := 18, ground := Ground.phase }, { on := 19, ground := Ground.phase }], guard := none }) (v := ?_) rfl (by kernel_rfl) (by kernel_rfl) (by kernel_rfl) (fun _ _ _ h => h) (Or.inl ⟨by rfl, ?_⟩) (by assumption) ?_
    rotate_left 1
    · ((intro w hSw; obtain ⟨g0, g1, g2, g3, g4, g5, g6, g7, g8, g9, g10, g11, g12, g13, g14, g15, g16⟩ := hSw; go_simp; try with_reducible rfl))
    (try simp only [Act.put, List.setIfInBounds_toArray, List.set_cons_zero, List.set_cons_succ])
    refine wpAnyH_done (by kernel_rfl) ?_ _
    have L := Lib.hid hHeld.bel
    clear hHeld
    go_wp2_with fail
    go_ret
    exact ⟨rfl, L.out⟩
end Go.Proofs.Ytpbmpmcifpgchaa

/-
  Interference: the document's side, and Interferes on both sides.
-/
import Derived.Test.YtpbmpmcifpgchaaEnI
import Derived.Test.YtpbmpmcifpgchaaTwo
namespace Go.Proofs.Ytpbmpmcifpgchaa
open Go.RowKit

/-- What a call keeps of two profiles in boxes b and b2. -/
def PwH (w : World) (b b2 : Nat) (t m k s c h t2 m2 k2 s2 c2 h2 : Int) (w' : World) : Prop := (fun w' => w'.cell? ⟨b, 0, none⟩ = some (.int .i64 t) ∧ w'.cell? ⟨b, 1, none⟩ = some (.int .i64 m) ∧ w'.cell? ⟨b, 2, none⟩ = some (.int .i64 k) ∧ w'.cell? ⟨b, 3, none⟩ = some (.int .i64 s) ∧ w'.cell? ⟨b, 4, none⟩ = some (.int .i64 c) ∧ w'.cell? ⟨b, 5, none⟩ = some (.int .i64 h) ∧ w'.cell? ⟨b2, 0, none⟩ = some (.int .i64 t2) ∧ w'.cell? ⟨b2, 1, none⟩ = some (.int .i64 m2) ∧ w'.cell? ⟨b2, 2, none⟩ = some (.int .i64 k2) ∧ w'.cell? ⟨b2, 3, none⟩ = some (.int .i64 s2) ∧ w'.cell? ⟨b2, 4, none⟩ = some (.int .i64 c2) ∧ w'.cell? ⟨b2, 5, none⟩ = some (.int .i64 h2) ∧ b < w'.heap.size ∧ b2 < w'.heap.size ∧ Below w.heap.size w w') w'
theorem PwH.keep {w : World} {b b2 : Nat} {t m k s c h t2 m2 k2 s2 c2 h2 : Int} {w' x : World} (hb : Below w'.heap.size w' x) (H : PwH w b b2 t m k s c h t2 m2 k2 s2 c2 h2 w') : PwH w b b2 t m k s c h t2 m2 k2 s2 c2 h2 x := by
  obtain ⟨c0, c1, c2', c3, c4, c5, d0, d1, d2, d3, d4, d5, e0, e2, e1⟩ := H
  have e : ∀ o, x.cell? ⟨b, o, none⟩ = w'.cell? ⟨b, o, none⟩ := fun o => hb.cell (p := ⟨b, o, none⟩) e0
  have e' : ∀ o, x.cell? ⟨b2, o, none⟩ = w'.cell? ⟨b2, o, none⟩ := fun o => hb.cell (p := ⟨b2, o, none⟩) e2
  exact ⟨(e 0).trans c0, (e 1).trans c1, (e 2).trans c2', (e 3).trans c3, (e 4).trans c4, (e 5).trans c5, (e' 0).trans d0, (e' 1).trans d1, (e' 2).trans d2, (e' 3).trans d3, (e' 4).trans d4, (e' 5).trans d5, Nat.lt_of_lt_of_le e0 hb.size, Nat.lt_of_lt_of_le e2 hb.size, bT e1 hb⟩
theorem PwH.drew {w : World} {b b2 : Nat} {t m k s c h t2 m2 k2 s2 c2 h2 : Int} {w' : World} (H : PwH w b b2 t m k s c h t2 m2 k2 s2 c2 h2 w') : PwH w b b2 t m k s c h t2 m2 k2 s2 c2 h2 w'.drew := H.keep (bR _).drew
theorem PwH.bel {w : World} {b b2 : Nat} {t m k s c h t2 m2 k2 s2 c2 h2 : Int} {w' : World} (H : PwH w b b2 t m k s c h t2 m2 k2 s2 c2 h2 w') : Below w.heap.size w w' := H.2.2.2.2.2.2.2.2.2.2.2.2.2.2
theorem PwH.new (w : World) (t m k s c h t2 m2 k2 s2 c2 h2 : Int) (T U : TypeId) : PwH w w.heap.size (w.heap.size + 1) t m k s c h t2 m2 k2 s2 c2 h2 ((w.alloc (.cells #[.int .i64 t, .int .i64 m, .int .i64 k, .int .i64 s, .int .i64 c, .int .i64 h] T)).alloc (.cells #[.int .i64 t2, .int .i64 m2, .int .i64 k2, .int .i64 s2, .int .i64 c2, .int .i64 h2] U)) := by
  obtain ⟨⟨c0, c1, c2', c3, c4, c5, e0, e1⟩, ⟨d0, d1, d2, d3, d4, d5, f0, f1⟩⟩ := PqH.new w t m k s c h t2 m2 k2 s2 c2 h2 T U
  exact ⟨c0, c1, c2', c3, c4, c5, d0, d1, d2, d3, d4, d5, e0, f0, e1⟩
set_option maxRecDepth 100000 in
set_option maxHeartbeats 4000000 in
theorem l10Beyond_any (t m k s c h t2 m2 k2 s2 c2 h2 : Int) (w : World) (hl : Lim t m k s c h) (hl2 : Lim t2 m2 k2 s2 c2 h2) :
    Calls Try.prog 37 #[.agg #[.int .i64 t, .int .i64 m, .int .i64 k, .int .i64 s, .int .i64 c, .int .i64 h], .agg #[.int .i64 t2, .int .i64 m2, .int .i64 k2, .int .i64 s2, .int .i64 c2, .int .i64 h2]] w (BoolBel (bey (out_ t m k * h) (pit t m * c) ((pit t m + pit t2 m2) * s)) w) := by
  have a1 := ln_bd hl.1 hl.2.1 hl2.1 hl2.2.1 hl.2.2.2.1
  have a2 := oh_bd hl.1 hl.2.1 hl.2.2.1 hl.2.2.2.2.2
  have a4 := pc_bd hl.1 hl.2.1 hl.2.2.2.2.1
  have q0 := wrI (out_ t m k * h) (by omega)
  have q1 := wrI (pit t m * c) (by omega)
  have p1 := pit_bd hl.1 hl.2.1
  have p2 := pit_bd hl2.1 hl2.2.1
  have q2 := wrI (pit t m + pit t2 m2) (by omega)
  have q3 := wrI ((pit t m + pit t2 m2) * s) (by omega)
  have HL := Lib.hid (And.intro hl hl2)
  have HB := Lib.hid (And.intro a1 (And.intro a2 a4))
  clear hl hl2 a1 a2 a4 p1 p2
  have H0 := PwH.new w t m k s c h t2 m2 k2 s2 c2 h2 30 30
  unfold bey
  go_enter Try.func37, Try.ntmps37
  go_upto_region 1 with fail
  generalize (w.alloc (.cells #[.int .i64 t, .int .i64 m, .int .i64 k, .int .i64 s, .int .i64 c, .int .i64 h] 30)).alloc (.cells #[.int .i64 t2, .int .i64 m2, .int .i64 k2, .int .i64 s2, .int .i64 c2, .int .i64 h2] 30) = W0 at *
  generalize w.heap.size + 1 = b2 at *
  go_region_held3 (fun w' => w'.cell? ⟨w.heap.size, 0, none⟩ = some (.int .i64 t) ∧ w'.cell? ⟨w.heap.size, 1, none⟩ = some (.int .i64 m) ∧ w'.cell? ⟨w.heap.size, 2, none⟩ = some (.int .i64 k) ∧ w'.cell? ⟨w.heap.size, 3, none⟩ = some (.int .i64 s) ∧ w'.cell? ⟨w.heap.size, 4, none⟩ = some (.int .i64 c) ∧ w'.cell? ⟨w.heap.size, 5, none⟩ = some (.int .i64 h) ∧ w'.cell? ⟨b2, 0, none⟩ = some (.int .i64 t2) ∧ w'.cell? ⟨b2, 1, none⟩ = some (.int .i64 m2) ∧ w'.cell? ⟨b2, 2, none⟩ = some (.int .i64 k2) ∧ w'.cell? ⟨b2, 3, none⟩ = some (.int .i64 s2) ∧ w'.cell? ⟨b2, 4, none⟩ = some (.int .i64 c2) ∧ w'.cell? ⟨b2, 5, none⟩ = some (.int .i64 h2) ∧ w.heap.size < w'.heap.size ∧ b2 < w'.heap.size ∧ Below w.heap.size w w') (first | exact H0.drew | assumption | exact PwH.keep hb (by assumption))
    (first | (go_at_call 66; refine (l10Outside_any _ _ _ _ _ _ _ HL.out.1.1 HL.out.1.2.1 HL.out.1.2.2.1).mono ?_; rintro e w' ⟨rfl, hb⟩))
  have H1 : PwH w w.heap.size b2 t m k s c h t2 m2 k2 s2 c2 h2 w' := by assumption
  clear hb H0
  go_upto_region 2 with fail
  generalize w' = W1 at *
  go_region_held3 (fun w' => w'.cell? ⟨w.heap.size, 0, none⟩ = some (.int .i64 t) ∧ w'.cell? ⟨w.heap.size, 1, none⟩ = some (.int .i64 m) ∧ w'.cell? ⟨w.heap.size, 2, none⟩ = some (.int .i64 k) ∧ w'.cell? ⟨w.heap.size, 3, none⟩ = some (.int .i64 s) ∧ w'.cell? ⟨w.heap.size, 4, none⟩ = some (.int .i64 c) ∧ w'.cell? ⟨w.heap.size, 5, none⟩ = some (.int .i64 h) ∧ w'.cell? ⟨b2, 0, none⟩ = some (.int .i64 t2) ∧ w'.cell? ⟨b2, 1, none⟩ = some (.int .i64 m2) ∧ w'.cell? ⟨b2, 2, none⟩ = some (.int .i64 k2) ∧ w'.cell? ⟨b2, 3, none⟩ = some (.int .i64 s2) ∧ w'.cell? ⟨b2, 4, none⟩ = some (.int .i64 c2) ∧ w'.cell? ⟨b2, 5, none⟩ = some (.int .i64 h2) ∧ w.heap.size < w'.heap.size ∧ b2 < w'.heap.size ∧ Below w.heap.size w w') (first | exact H1.drew | assumption | exact PwH.keep hb (by assumption))
    (first | (go_at_call 42; refine (l10Pitch_any _ _ _ _ _ _ _ HL.out.1.1 HL.out.1.2.1).mono ?_; rintro e w' ⟨rfl, hb⟩))
  have H2 : PwH w w.heap.size b2 t m k s c h t2 m2 k2 s2 c2 h2 w' := by assumption
  clear hb H1
  go_upto_region 3 with fail
  generalize w' = W2 at *
  go_region_held3 (fun w' => w'.cell? ⟨w.heap.size, 0, none⟩ = some (.int .i64 t) ∧ w'.cell? ⟨w.heap.size, 1, none⟩ = some (.int .i64 m) ∧ w'.cell? ⟨w.heap.size, 2, none⟩ = some (.int .i64 k) ∧ w'.cell? ⟨w.heap.size, 3, none⟩ = some (.int .i64 s) ∧ w'.cell? ⟨w.heap.size, 4, none⟩ = some (.int .i64 c) ∧ w'.cell? ⟨w.heap.size, 5, none⟩ = some (.int .i64 h) ∧ w'.cell? ⟨b2, 0, none⟩ = some (.int .i64 t2) ∧ w'.cell? ⟨b2, 1, none⟩ = some (.int .i64 m2) ∧ w'.cell? ⟨b2, 2, none⟩ = some (.int .i64 k2) ∧ w'.cell? ⟨b2, 3, none⟩ = some (.int .i64 s2) ∧ w'.cell? ⟨b2, 4, none⟩ = some (.int .i64 c2) ∧ w'.cell? ⟨b2, 5, none⟩ = some (.int .i64 h2) ∧ w.heap.size < w'.heap.size ∧ b2 < w'.heap.size ∧ Below w.heap.size w w') (first | exact H2.drew | assumption | exact PwH.keep hb (by assumption))
    (first | (go_at_call 42; refine (l10Pitch_any _ _ _ _ _ _ _ (by first | exact HL.out.1.1 | exact HL.out.2.1) (by first | exact HL.out.1.2.1 | exact HL.out.2.2.1)).mono ?_; rintro e w' ⟨rfl, hb⟩))
  have H3 : PwH w w.heap.size b2 t m k s c h t2 m2 k2 s2 c2 h2 w' := by assumption
  have L := Lib.hid H3.bel
  clear hb H2 H3 q0 q1 q2 q3
  obtain ⟨⟨b0, b1⟩, ⟨b3, b4⟩, b5, b6⟩ := HB.out
  generalize out_ t m k * h = O at *
  generalize pit t m * c = P at *
  generalize (pit t m + pit t2 m2) * s = Q at *
  have s1 := sqq b0 b1
  have s2 := sqq b3 b4
  have s3 := sqq b5 b6
  go_wp2_with fail
  go_ret
  exact ⟨rfl, L.out⟩
theorem bey_comm (o p a b s : Int) : bey o p ((a + b) * s) = bey o p ((b + a) * s) := by rw [Int.add_comm]
/-- What Interferes returns. -/
def inF (t m k s c h t2 m2 k2 s2 c2 h2 : Int) : Bool × Int := if twC t m k s c h t2 m2 k2 s2 c2 h2 = 0 then (itF t m k s c h t2 k2, 0) else (false, twC t m k s c h t2 m2 k2 s2 c2 h2)
theorem inF_no {t m k s c h t2 m2 k2 s2 c2 h2 : Int} (e : ¬ twC t m k s c h t2 m2 k2 s2 c2 h2 = 0) : inF t m k s c h t2 m2 k2 s2 c2 h2 = (false, twC t m k s c h t2 m2 k2 s2 c2 h2) := by simp [inF, e]
theorem inF_yes {t m k s c h t2 m2 k2 s2 c2 h2 : Int} (e : twC t m k s c h t2 m2 k2 s2 c2 h2 = 0) : inF t m k s c h t2 m2 k2 s2 c2 h2 = (itF t m k s c h t2 k2, 0) := by simp [inF, e]
def BoIn (a : Bool) (b : Int) (w : World) (e : Ending) (w' : World) : Prop := e = .returned (.tuple #[.bool a, .int .i64 b]) ∧ Below w.heap.size w w'
set_option maxRecDepth 100000 in
set_option maxHeartbeats 2000000 in
theorem InterferesI_any (t m k s c h t2 m2 k2 s2 c2 h2 : Int) (w : World) :
    Calls Try.prog 12 #[.agg #[.int .i64 t, .int .i64 m, .int .i64 k, .int .i64 s, .int .i64 c, .int .i64 h], .agg #[.int .i64 t2, .int .i64 m2, .int .i64 k2, .int .i64 s2, .int .i64 c2, .int .i64 h2]] w (BoIn (inF t m k s c h t2 m2 k2 s2 c2 h2).1 (inF t m k s c h t2 m2 k2 s2 c2 h2).2 w) := by
  have H0 := Lib.hid (PwH.new w t m k s c h t2 m2 k2 s2 c2 h2 30 30)
  have X0 := Lib.hid (EgH.new ((w.alloc (.cells #[.int .i64 t, .int .i64 m, .int .i64 k, .int .i64 s, .int .i64 c, .int .i64 h] 30)).alloc (.cells #[.int .i64 t2, .int .i64 m2, .int .i64 k2, .int .i64 s2, .int .i64 c2, .int .i64 h2] 30)) t m k s c h t2 m2 k2 s2 c2 h2 61)
  have e2 : ((w.alloc (.cells #[.int .i64 t, .int .i64 m, .int .i64 k, .int .i64 s, .int .i64 c, .int .i64 h] 30)).alloc (.cells #[.int .i64 t2, .int .i64 m2, .int .i64 k2, .int .i64 s2, .int .i64 c2, .int .i64 h2] 30)).heap.size = w.heap.size + 1 + 1 := by simp
  rw [e2] at X0
  clear e2
  have CO := Lib.hid (fun W => code_any t m k s c h t2 m2 k2 s2 c2 h2 W)
  by_cases hz : twC t m k s c h t2 m2 k2 s2 c2 h2 = 0
  · rw [inF_yes hz]
    obtain ⟨o1, o2, rfl, rfl, rfl, rfl⟩ := twC_zero hz
    rw [hz] at CO
    have IT := Lib.hid (fun W => interferes_any t m2 k s2 c2 h2 t2 k2 W (lim_of o1) (lim_of o2))
    clear hz o1 o2
    generalize itF t m2 k s2 c2 h2 t2 k2 = r at *
    go_enter Try.func12, Try.ntmps12
    go_wp2_with fail
    refine (CO.out _).mono ?_
    rintro e w1 ⟨rfl, hb⟩
    have X1 := Lib.hid (X0.out.keep hb)
    have L1 := Lib.hid (bT H0.out.bel X1.out.bel)
    clear hb
    obtain ⟨g0, g1, g2, g3, g4, g5, g6, g7, g8, g9, g10, g11, g12, g13⟩ := X1.out
    go_wp2_with fail
    refine (IT.out _).mono ?_
    rintro e w2 ⟨rfl, hb⟩
    go_wp2_with fail
    go_ret2
    exact ⟨rfl, bT L1.out hb⟩
  · rw [inF_no hz]
    generalize twC t m k s c h t2 m2 k2 s2 c2 h2 = z at *
    have hz1 : (z != 0) = true := by simpa using hz
    go_enter Try.func12, Try.ntmps12
    go_wp2_with fail
    refine (CO.out _).mono ?_
    rintro e w1 ⟨rfl, hb⟩
    have X1 := Lib.hid (X0.out.keep hb)
    have L1 := Lib.hid (bT H0.out.bel X1.out.bel)
    clear hb
    go_wp2_with fail
    go_ret2
    exact ⟨rfl, L1.out⟩
set_option maxRecDepth 100000 in
set_option maxHeartbeats 2000000 in
theorem InterferesS_any (t m k s c h t2 m2 k2 s2 c2 h2 : Int) (w : World) :
    Calls Try.prog 10 #[.agg #[.int .i64 t, .int .i64 m, .int .i64 k, .int .i64 s, .int .i64 c, .int .i64 h], .agg #[.int .i64 t2, .int .i64 m2, .int .i64 k2, .int .i64 s2, .int .i64 c2, .int .i64 h2]] w (BoIn (inF t m k s c h t2 m2 k2 s2 c2 h2).1 (inF t m k s c h t2 m2 k2 s2 c2 h2).2 w) := by
  have H0 := Lib.hid (PwH.new w t m k s c h t2 m2 k2 s2 c2 h2 30 30)
  have CO := Lib.hid (fun W => l10Two_any t m k s c h t2 m2 k2 s2 c2 h2 W)
  by_cases hz : twC t m k s c h t2 m2 k2 s2 c2 h2 = 0
  · rw [inF_yes hz]
    obtain ⟨o1, o2, rfl, rfl, rfl, rfl⟩ := twC_zero hz
    rw [hz] at CO
    have B1 := Lib.hid (fun W => l10Beyond_any t m2 k s2 c2 h2 t2 m2 k2 s2 c2 h2 W (lim_of o1) (lim_of o2))
    have B2 := Lib.hid (fun W => l10Beyond_any t2 m2 k2 s2 c2 h2 t m2 k s2 c2 h2 W (lim_of o2) (lim_of o1))
    have HF : itF t m2 k s2 c2 h2 t2 k2 = (bey (out_ t m2 k * h2) (pit t m2 * c2) ((pit t m2 + pit t2 m2) * s2) || bey (out_ t2 m2 k2 * h2) (pit t2 m2 * c2) ((pit t m2 + pit t2 m2) * s2)) := rfl
    rw [bey_comm] at B2
    clear hz o1 o2
    rw [HF]
    generalize bey (out_ t2 m2 k2 * h2) (pit t2 m2 * c2) ((pit t m2 + pit t2 m2) * s2) = y at *
    generalize bey (out_ t m2 k * h2) (pit t m2 * c2) ((pit t m2 + pit t2 m2) * s2) = x at *
    clear HF
    cases x
    · rw [Bool.false_or]
      go_enter Try.func10, Try.ntmps10
      go_wp2_with fail
      refine (CO.out _).mono ?_
      rintro e w1 ⟨rfl, hb⟩
      have H1 := Lib.hid (H0.out.keep hb)
      clear hb
      obtain ⟨g0, g1, g2, g3, g4, g5, g6, g7, g8, g9, g10, g11, g12, g13, g14⟩ := H1.out
      go_wp2_with fail
      refine (B1.out _).mono ?_
      rintro e w2 ⟨rfl, hb⟩
      have H2 := Lib.hid (H1.out.keep hb)
      clear hb g0 g1 g2 g3 g4 g5 g6 g7 g8 g9 g10 g11 g12 g13 g14
      obtain ⟨g0, g1, g2, g3, g4, g5, g6, g7, g8, g9, g10, g11, g12, g13, g14⟩ := H2.out
      go_wp2_with fail
      refine (B2.out _).mono ?_
      rintro e w3 ⟨rfl, hb⟩
      go_wp2_with fail
      go_ret2
      exact ⟨rfl, bT H2.out.bel hb⟩
    · rw [Bool.true_or]
      go_enter Try.func10, Try.ntmps10
      go_wp2_with fail
      refine (CO.out _).mono ?_
      rintro e w1 ⟨rfl, hb⟩
      have H1 := Lib.hid (H0.out.keep hb)
      clear hb
      obtain ⟨g0, g1, g2, g3, g4, g5, g6, g7, g8, g9, g10, g11, g12, g13, g14⟩ := H1.out
      go_wp2_with fail
      refine (B1.out _).mono ?_
      rintro e w2 ⟨rfl, hb⟩
      go_wp2_with fail
      go_ret2
      exact ⟨rfl, bT H1.out.bel hb⟩
  · rw [inF_no hz]
    generalize twC t m k s c h t2 m2 k2 s2 c2 h2 = z at *
    have hz1 : (z != 0) = true := by simpa using hz
    go_enter Try.func10, Try.ntmps10
    go_wp2_with fail
    refine (CO.out _).mono ?_
    rintro e w1 ⟨rfl, hb⟩
    go_wp2_with fail
    go_ret2
    exact ⟨rfl, bT H0.out.bel hb⟩
end Go.Proofs.Ytpbmpmcifpgchaa

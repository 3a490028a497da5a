/-
  The limits of a search: when they are valid; a box of five numbers; the contracts of laws.toLimits, impl.canSpan, impl.ValidLimits, spec.l06Range, l06Ok, ValidLimits.
-/
import Derived.Test.YtbfiacodglckiaaEqR
namespace Go.Proofs.Ytbfiacodglckiaa
open Go.RowKit

/-- A range of teeth, and limits, that are valid. -/
def okG (lo hi : Int) : Bool := decide (6 ≤ lo ∧ lo ≤ hi ∧ hi ≤ 120 ∧ hi - lo ≤ 30)
def okL (a b c d s : Int) : Bool := okG a b && okG c d && inB s 1 3
theorem okG_true {lo hi : Int} : okG lo hi = true ↔ 6 ≤ lo ∧ lo ≤ hi ∧ hi ≤ 120 ∧ hi - lo ≤ 30 := by simp [okG]
theorem okG_false {lo hi : Int} (h : ¬ (6 ≤ lo ∧ lo ≤ hi ∧ hi ≤ 120 ∧ hi - lo ≤ 30)) : okG lo hi = false := by unfold okG; exact decide_eq_false h
theorem okL_no1 {a b c d s : Int} (h : okG a b = false) : okL a b c d s = false := by simp [okL, h]
theorem okL_no2 {a b c d s : Int} (h : okG c d = false) : okL a b c d s = false := by simp [okL, h]
theorem okL_go {a b c d s : Int} (h : okG a b = true) (h2 : okG c d = true) : okL a b c d s = inB s 1 3 := by simp [okL, h, h2]
theorem okL_true {a b c d s : Int} : okL a b c d s = true ↔ okG a b = true ∧ okG c d = true ∧ 1 ≤ s ∧ s ≤ 3 := by simp [okL, inB, and_assoc]

/-- A box of five numbers. -/
structure Box5 (w : World) (b : Nat) (x0 x1 x2 x3 x4 : Int) : Prop where
  c0 : w.cell? ⟨b, 0, none⟩ = some (.int .i64 x0)
  c1 : w.cell? ⟨b, 1, none⟩ = some (.int .i64 x1)
  c2 : w.cell? ⟨b, 2, none⟩ = some (.int .i64 x2)
  c3 : w.cell? ⟨b, 3, none⟩ = some (.int .i64 x3)
  c4 : w.cell? ⟨b, 4, none⟩ = some (.int .i64 x4)
  lt : b < w.heap.size
theorem Box5.new (w : World) (x0 x1 x2 x3 x4 : Int) (T : TypeId) : Box5 (w.alloc (.cells #[.int .i64 x0, .int .i64 x1, .int .i64 x2, .int .i64 x3, .int .i64 x4] T)) w.heap.size x0 x1 x2 x3 x4 :=
  ⟨by simp [go_sem], by simp [go_sem], by simp [go_sem], by simp [go_sem], by simp [go_sem], by simp⟩
theorem Box5.keep {w w' : World} {b : Nat} {x0 x1 x2 x3 x4 : Int} (h : Box5 w b x0 x1 x2 x3 x4) (hb : Below w.heap.size w w') : Box5 w' b x0 x1 x2 x3 x4 :=
  ⟨(hb.cell (p := ⟨b, 0, none⟩) h.lt).trans h.c0, (hb.cell (p := ⟨b, 1, none⟩) h.lt).trans h.c1, (hb.cell (p := ⟨b, 2, none⟩) h.lt).trans h.c2, (hb.cell (p := ⟨b, 3, none⟩) h.lt).trans h.c3, (hb.cell (p := ⟨b, 4, none⟩) h.lt).trans h.c4, Nat.lt_of_lt_of_le h.lt hb.size⟩
theorem Box5.drew {w : World} {b : Nat} {x0 x1 x2 x3 x4 : Int} (h : Box5 w b x0 x1 x2 x3 x4) : Box5 w.drew b x0 x1 x2 x3 x4 := ⟨h.c0, h.c1, h.c2, h.c3, h.c4, h.lt⟩
theorem Box5.drewN {w : World} {b : Nat} {x0 x1 x2 x3 x4 : Int} (h : Box5 w b x0 x1 x2 x3 x4) (n : Nat) : Box5 (w.drewN n) b x0 x1 x2 x3 x4 := ⟨h.c0, h.c1, h.c2, h.c3, h.c4, h.lt⟩

set_option maxHeartbeats 1000000 in
theorem toLimits_any (x0 x1 x2 x3 x4 : Int) (w : World) :
    Calls Try.prog 44 #[.agg #[.int .i64 x0, .int .i64 x1, .int .i64 x2, .int .i64 x3, .int .i64 x4]] w fun e w' => e = .returned (.agg #[.int .i64 x0, .int .i64 x1, .int .i64 x2, .int .i64 x3, .int .i64 x4]) ∧ Below w.heap.size w w' := by
  go_enter Try.func44, Try.ntmps44
  go_wp2
  exact bodyPost_ret (v := .agg #[.int .i64 x0, .int .i64 x1, .int .i64 x2, .int .i64 x3, .int .i64 x4]) (by simp [results, Try.results44, go_sem]) rfl ⟨rfl, by first | exact bA (bA (bA (bR _) _) _) _ | exact bA (bA (bR _) _) _⟩
theorem canSpan_any (lo hi : Int) (w : World) :
    Calls Try.prog 90 #[.int .i64 lo, .int .i64 hi] w fun e w' => e = .returned (.bool (okG lo hi)) ∧ w = w' := by
  by_cases h1 : 6 ≤ lo
  · by_cases h2 : lo ≤ hi
    · by_cases h3 : hi ≤ 120
      · have HE := Lib.hid (show decide (hi - lo ≤ 30) = okG lo hi by unfold okG; simp [h1, h2, h3])
        go_enter Try.func90, Try.ntmps90
        go_wp2
        go_ret
        exact ⟨ret_bool HE.out, rfl⟩
      · rw [okG_false (by omega)]
        go_enter Try.func90, Try.ntmps90
        go_wp2
        go_ret
        exact ⟨rfl, rfl⟩
    · rw [okG_false (by omega)]
      go_enter Try.func90, Try.ntmps90
      go_wp2
      go_ret
      exact ⟨rfl, rfl⟩
  · rw [okG_false (by omega)]
    go_enter Try.func90, Try.ntmps90
    go_wp2
    go_ret
    exact ⟨rfl, rfl⟩
theorem l06Range_any (lo hi : Int) (w : World) :
    Calls Try.prog 135 #[.int .i64 lo, .int .i64 hi] w fun e w' => e = .returned (.bool (okG lo hi)) ∧ w = w' := by
  by_cases h1 : 6 ≤ lo
  · by_cases h3 : hi ≤ 120
    · by_cases h4 : lo ≤ 120
      · have HE := Lib.hid (show inB hi lo (lo + 30) = okG lo hi by rw [Bool.eq_iff_iff, inB_true, okG_true]; omega)
        go_enter Try.func135, Try.ntmps135
        go_wp2_with fail
        refine (l00In_any _ _ _ _).mono ?_
        rintro e w1 ⟨rfl, rfl⟩
        go_wp2_with fail
        go_ret
        exact ⟨ret_bool HE.out, rfl⟩
      · have HE := Lib.hid (fun z => show inB hi lo z = okG lo hi by rw [Bool.eq_iff_iff, inB_true, okG_true]; omega)
        go_enter Try.func135, Try.ntmps135
        go_wp2_with fail
        refine (l00In_any _ _ _ _).mono ?_
        rintro e w1 ⟨rfl, rfl⟩
        rw [HE.out]
        go_wp2_with fail
        go_ret
        exact ⟨rfl, rfl⟩
    · rw [okG_false (by omega)]
      go_enter Try.func135, Try.ntmps135
      go_wp2
      go_ret
      exact ⟨rfl, rfl⟩
  · rw [okG_false (by omega)]
    go_enter Try.func135, Try.ntmps135
    go_wp2
    go_ret
    exact ⟨rfl, rfl⟩
set_option maxHeartbeats 1000000 in
theorem ValidLimitsI_any (x0 x1 x2 x3 x4 : Int) (w : World) :
    Calls Try.prog 45 #[.agg #[.int .i64 x0, .int .i64 x1, .int .i64 x2, .int .i64 x3, .int .i64 x4]] w (BoolBel (okL x0 x1 x2 x3 x4) w) := by
  cases h1 : okG x0 x1
  · rw [okL_no1 h1]
    have H1 := Lib.hid h1
    clear h1
    go_enter Try.func45, Try.ntmps45
    go_wp2_with fail
    refine (canSpan_any _ _ _).mono ?_
    rw [H1.out]
    rintro e w1 ⟨rfl, rfl⟩
    go_wp2_with fail
    go_ret
    exact ⟨rfl, bA (bR _) _⟩
  · cases h2 : okG x2 x3
    · rw [okL_no2 h2]
      have H1 := Lib.hid h1
      have H2 := Lib.hid h2
      clear h1 h2
      go_enter Try.func45, Try.ntmps45
      go_wp2_with fail
      refine (canSpan_any _ _ _).mono ?_
      rw [H1.out]
      rintro e w1 ⟨rfl, rfl⟩
      go_wp2_with fail
      refine (canSpan_any _ _ _).mono ?_
      rw [H2.out]
      rintro e w1 ⟨rfl, rfl⟩
      go_wp2_with fail
      go_ret
      exact ⟨rfl, bA (bR _) _⟩
    · rw [okL_go h1 h2]
      have H1 := Lib.hid h1
      have H2 := Lib.hid h2
      clear h1 h2
      by_cases h3 : 1 ≤ x4
      all_goals
        go_enter Try.func45, Try.ntmps45
        go_wp2_with fail
        refine (canSpan_any _ _ _).mono ?_
        rw [H1.out]
        rintro e w1 ⟨rfl, rfl⟩
        go_wp2_with fail
        refine (canSpan_any _ _ _).mono ?_
        rw [H2.out]
        rintro e w1 ⟨rfl, rfl⟩
        go_wp2_with fail
        go_ret
        exact ⟨ret_bool (by first | (simp [inB, h3]; done) | (simp [inB]; omega)), bA (bR _) _⟩
set_option maxRecDepth 100000 in
set_option maxHeartbeats 2000000 in
theorem l06Ok_any (x0 x1 x2 x3 x4 : Int) (b : Nat) (w : World) (hB : Box5 w b x0 x1 x2 x3 x4) :
    Calls Try.prog 89 #[.pointer (some ⟨b, 0, none⟩)] w (BoolBel (okL x0 x1 x2 x3 x4) w) := by
  obtain ⟨c0, c1, c2, c3, c4, c5⟩ := hB
  cases h1 : okG x0 x1
  · rw [okL_no1 h1]
    have C1 := Lib.hid (fun W => l06Range_any x0 x1 W)
    rw [h1] at C1
    clear h1
    go_enter Try.func89, Try.ntmps89
    go_wp2_with fail
    go_quiet ((go_at_call 135; with_reducible exact quiet_eq (C1.out _)))
    go_wp2_with fail
    go_ret
    exact ⟨rfl, bD (bR _) _⟩
  · cases h2 : okG x2 x3
    · rw [okL_no2 h2]
      have C1 := Lib.hid (fun W => l06Range_any x0 x1 W)
      have C2 := Lib.hid (fun W => l06Range_any x2 x3 W)
      rw [h1] at C1
      rw [h2] at C2
      clear h1 h2
      go_enter Try.func89, Try.ntmps89
      go_wp2_with fail
      go_quiet (first | (go_at_call 135; with_reducible exact quiet_eq (C1.out _)) | (go_at_call 135; with_reducible exact quiet_eq (C2.out _)))
      go_wp2_with fail
      go_ret
      exact ⟨rfl, bD (bR _) _⟩
    · rw [okL_go h1 h2]
      have C1 := Lib.hid (fun W => l06Range_any x0 x1 W)
      have C2 := Lib.hid (fun W => l06Range_any x2 x3 W)
      rw [h1] at C1
      rw [h2] at C2
      clear h1 h2
      go_enter Try.func89, Try.ntmps89
      go_wp2_with fail
      go_quiet (first | (go_at_call 135; with_reducible exact quiet_eq (C1.out _)) | (go_at_call 135; with_reducible exact quiet_eq (C2.out _)) | (go_at_call 68; exact quiet_eq (l00In_any _ _ _ _)))
      go_wp2_with fail
      go_ret
      exact ⟨rfl, bD (bR _) _⟩
set_option maxHeartbeats 1000000 in
theorem ValidLimitsS_any (x0 x1 x2 x3 x4 : Int) (w : World) :
    Calls Try.prog 43 #[.agg #[.int .i64 x0, .int .i64 x1, .int .i64 x2, .int .i64 x3, .int .i64 x4]] w (BoolBel (okL x0 x1 x2 x3 x4) w) := by
  have HB := Lib.hid (Box5.new w x0 x1 x2 x3 x4 66)
  go_enter Try.func43, Try.ntmps43
  go_wp2_with fail
  refine (l06Ok_any x0 x1 x2 x3 x4 _ _ HB.out).mono ?_
  rintro e w1 ⟨rfl, hb⟩
  go_wp2_with fail
  go_ret
  exact ⟨rfl, bT (bA (bR _) _) hb⟩
set_option maxHeartbeats 1000000 in
theorem FnExactValidLimits_walk (x0 x1 x2 x3 x4 : Int) (w : World) :
    Calls Try.prog 10 #[.agg #[.int .i64 x0, .int .i64 x1, .int .i64 x2, .int .i64 x3, .int .i64 x4]] w fun e w' => e = .returned (.bool true) ∧ Below w.heap.size w w' := by
  have HB := Lib.hid (Box5.new w x0 x1 x2 x3 x4 64)
  generalize hr : okL x0 x1 x2 x3 x4 = r
  have HR := Lib.hid hr
  clear hr
  go_enter Try.func10, Try.ntmps10
  go_wp2_with fail
  refine (toLimits_any _ _ _ _ _ _).mono ?_
  rintro e w1 ⟨rfl, hb⟩
  have B1 := Lib.hid (HB.out.keep hb)
  have L1 := Lib.hid (bT (bA (bR w) (.cells #[.int .i64 x0, .int .i64 x1, .int .i64 x2, .int .i64 x3, .int .i64 x4] 64)) hb)
  clear hb HB
  go_wp2_with fail
  refine (ValidLimitsS_any _ _ _ _ _ _).mono ?_
  rw [HR.out]
  rintro e w2 ⟨rfl, hb⟩
  have B2 := Lib.hid (B1.out.keep hb)
  have L2 := Lib.hid (bT L1.out hb)
  clear hb B1 L1
  obtain ⟨c0, c1, c2, c3, c4, c5⟩ := B2.out
  go_wp2_with fail
  refine (toLimits_any _ _ _ _ _ _).mono ?_
  rintro e w3 ⟨rfl, hb⟩
  have L3 := Lib.hid (bT L2.out hb)
  clear hb L2
  go_wp2_with fail
  refine (ValidLimitsI_any _ _ _ _ _ _).mono ?_
  rw [HR.out]
  rintro e w4 ⟨rfl, hb⟩
  have L4 := Lib.hid (bT L3.out hb)
  clear hb L3 B2 c0 c1 c2 c3 c4 c5
  cases r
  · go_wp2_with fail
    go_ret
    exact ⟨rfl, L4.out⟩
  · go_wp2_with fail
    go_ret
    exact ⟨rfl, L4.out⟩
end Go.Proofs.Ytbfiacodglckiaa

/-
  Days that are compared: CompareDate, both sides, and the law's walk.
-/
import Derived.Test.YtmnkacbolbjliaaCaT
import Derived.Test.YtmnkacbolbjliaaEqR
namespace Go.Proofs.Ytmnkacbolbjliaa
open Go.RowKit

/-- The sign of a difference; days by their numbers. -/
def sgC (x y : Int) : Int := if x < y then -1 else if y < x then 1 else 0
def cdC (a0 a1 a2 b0 b1 b2 : Int) : Int := if a0 = b0 then (if a1 = b1 then sgC a2 b2 else sgC a1 b1) else sgC a0 b0
theorem sgC_lt {x y : Int} (h : x < y) : sgC x y = -1 := by simp [sgC, h]
theorem sgC_gt {x y : Int} (h : y < x) : sgC x y = 1 := by unfold sgC; rw [if_neg (by omega), if_pos h]
theorem sgC_eq (x : Int) : sgC x x = 0 := by simp [sgC]
theorem sgC_ne {x y : Int} (h : ¬ x = y) : ¬ sgC x y = 0 := by
  unfold sgC
  by_cases h1 : x < y
  · rw [if_pos h1]; omega
  · rw [if_neg h1, if_pos (by omega)]; omega
theorem l16Sign_any (x y : Int) (w : World) : Calls Try.prog 58 #[.int .i64 x, .int .i64 y] w fun e w' => e = .returned (.int .i64 (sgC x y)) ∧ w = w' := by
  rcases (show x < y ∨ y < x ∨ x = y by omega) with h | h | h
  · have HN := Lib.hid (sgC_lt h)
    go_enter Try.func58, Try.ntmps58
    go_wp2_with fail
    go_ret
    exact ⟨by rw [HN.out]; rfl, rfl⟩
  · have HN := Lib.hid (sgC_gt h)
    have h' : ¬ x < y := by omega
    go_enter Try.func58, Try.ntmps58
    go_wp2_with fail
    go_ret
    exact ⟨by rw [HN.out]; rfl, rfl⟩
  · have HN := Lib.hid (show sgC x y = 0 by rw [h]; exact sgC_eq _)
    have h1 : ¬ x < y := by omega
    have h2 : ¬ y < x := by omega
    clear h
    go_enter Try.func58, Try.ntmps58
    go_wp2_with fail
    go_ret
    exact ⟨by rw [HN.out]; rfl, rfl⟩
theorem isNaN_any (x : Int) (w : World) : Calls Try.prog 87 #[.int .i64 x] w fun e w' => e = .returned (.bool false) ∧ w = w' := by
  have hne : (x != x) = false := by simp
  go_enter Try.func87, Try.ntmps87
  go_wp2_with fail
  go_ret
  exact ⟨rfl, rfl⟩
theorem cmpI_any (x y : Int) (w : World) : Calls Try.prog 60 #[.int .i64 x, .int .i64 y] w fun e w' => e = .returned (.int .i64 (sgC x y)) ∧ w = w' := by
  rcases (show x < y ∨ y < x ∨ x = y by omega) with h | h | h
  · have HN := Lib.hid (sgC_lt h)
    go_enter Try.func60, Try.ntmps60
    go_wp2_with (first | (go_at_call 87; refine (isNaN_any _ _).mono ?_; rintro e w1 ⟨rfl, rfl⟩))
    go_ret
    exact ⟨by rw [HN.out]; rfl, rfl⟩
  · have HN := Lib.hid (sgC_gt h)
    have h' : ¬ x < y := by omega
    go_enter Try.func60, Try.ntmps60
    go_wp2_with (first | (go_at_call 87; refine (isNaN_any _ _).mono ?_; rintro e w1 ⟨rfl, rfl⟩))
    go_ret
    exact ⟨by rw [HN.out]; rfl, rfl⟩
  · have HN := Lib.hid (show sgC x y = 0 by rw [h]; exact sgC_eq _)
    have h1 : ¬ x < y := by omega
    have h2 : ¬ y < x := by omega
    clear h
    go_enter Try.func60, Try.ntmps60
    go_wp2_with (first | (go_at_call 87; refine (isNaN_any _ _).mono ?_; rintro e w1 ⟨rfl, rfl⟩))
    go_ret
    exact ⟨by rw [HN.out]; rfl, rfl⟩
def BelI (n : Int) (w : World) (e : Ending) (w' : World) : Prop := e = .returned (.int .i64 n) ∧ Below w.heap.size w w'
theorem year_any (a0 a1 a2 : Int) (w : World) : Calls Try.prog 84 #[.agg #[.int .i64 a0, .int .i64 a1, .int .i64 a2]] w (BelI a0 w) := by
  go_enter Try.func84, Try.ntmps84
  go_wp2_with fail
  go_ret
  exact ⟨rfl, bA (bR _) _⟩
theorem month_any (a0 a1 a2 : Int) (w : World) : Calls Try.prog 85 #[.agg #[.int .i64 a0, .int .i64 a1, .int .i64 a2]] w (BelI a1 w) := by
  go_enter Try.func85, Try.ntmps85
  go_wp2_with fail
  go_ret
  exact ⟨rfl, bA (bR _) _⟩
theorem day_any (a0 a1 a2 : Int) (w : World) : Calls Try.prog 86 #[.agg #[.int .i64 a0, .int .i64 a1, .int .i64 a2]] w (BelI a2 w) := by
  go_enter Try.func86, Try.ntmps86
  go_wp2_with fail
  go_ret
  exact ⟨rfl, bA (bR _) _⟩
set_option maxRecDepth 100000 in
set_option maxHeartbeats 4000000 in
theorem toDate_any (a0 a1 a2 : Int) (w : World) :
    Calls Try.prog 29 #[.agg #[.int .i64 a0, .int .i64 a1, .int .i64 a2]] w fun e w' => e = .returned (.agg #[.int .i64 a0, .int .i64 a1, .int .i64 a2]) ∧ Below w.heap.size w w' := by
  go_enter Try.func29, Try.ntmps29
  go_wp2_with fail
  exact bodyPost_ret (v := .agg #[.int .i64 a0, .int .i64 a1, .int .i64 a2]) (by simp [results, Try.results29, go_sem]) rfl ⟨rfl, by first | exact bA (bA (bA (bR _) _) _) _ | exact bA (bA (bR _) _) _⟩
theorem CompareDateS_any (a0 a1 a2 b0 b1 b2 : Int) (w : World) : Calls Try.prog 28 #[.agg #[.int .i64 a0, .int .i64 a1, .int .i64 a2], .agg #[.int .i64 b0, .int .i64 b1, .int .i64 b2]] w (BelI (cdC a0 a1 a2 b0 b1 b2) w) := by
  by_cases h0 : a0 = b0
  · have n0 : (a0 != b0) = false := by simpa using h0
    by_cases h1 : a1 = b1
    · have n1 : (a1 != b1) = false := by simpa using h1
      have HN := Lib.hid (show cdC a0 a1 a2 b0 b1 b2 = sgC a2 b2 by simp [cdC, h0, h1])
      clear h0 h1
      go_enter Try.func28, Try.ntmps28
      go_wp2_with (first | (go_at_call 58; refine (l16Sign_any _ _ _).mono ?_; rintro e w1 ⟨rfl, rfl⟩))
      go_ret
      exact ⟨by rw [HN.out]; rfl, bA (bA (bR _) _) _⟩
    · have n1 : (a1 != b1) = true := by simpa using h1
      have HN := Lib.hid (show cdC a0 a1 a2 b0 b1 b2 = sgC a1 b1 by simp [cdC, h0, h1])
      clear h0 h1
      go_enter Try.func28, Try.ntmps28
      go_wp2_with (first | (go_at_call 58; refine (l16Sign_any _ _ _).mono ?_; rintro e w1 ⟨rfl, rfl⟩))
      go_ret
      exact ⟨by rw [HN.out]; rfl, bA (bA (bR _) _) _⟩
  · have n0 : (a0 != b0) = true := by simpa using h0
    have HN := Lib.hid (show cdC a0 a1 a2 b0 b1 b2 = sgC a0 b0 by simp [cdC, h0])
    clear h0
    go_enter Try.func28, Try.ntmps28
    go_wp2_with (first | (go_at_call 58; refine (l16Sign_any _ _ _).mono ?_; rintro e w1 ⟨rfl, rfl⟩))
    go_ret
    exact ⟨by rw [HN.out]; rfl, bA (bA (bR _) _) _⟩
/-- The three functions lie in a block. -/
def FnsAt (W : World) (g : Nat) : Prop := W.cell? ⟨g, 0, none⟩ = some (.func (.func 84) #[] #[]) ∧ W.cell? ⟨g, 1, none⟩ = some (.func (.func 85) #[] #[]) ∧ W.cell? ⟨g, 2, none⟩ = some (.func (.func 86) #[] #[]) ∧ g < W.heap.size
theorem FnsAt.keep {W W' : World} {g : Nat} (h : FnsAt W g) (hb : Below W.heap.size W W') : FnsAt W' g := by
  obtain ⟨c0, c1, c2, e1⟩ := h
  exact ⟨(hb.cell (p := ⟨g, 0, none⟩) e1).trans c0, (hb.cell (p := ⟨g, 1, none⟩) e1).trans c1, (hb.cell (p := ⟨g, 2, none⟩) e1).trans c2, Nat.lt_of_lt_of_le e1 hb.size⟩
/-- Two days in two boxes. -/
def DdH (W0 : World) (p q g : Nat) (a0 a1 a2 b0 b1 b2 : Int) (w' : World) : Prop := w'.cell? ⟨p, 0, none⟩ = some (.int .i64 a0) ∧ w'.cell? ⟨p, 1, none⟩ = some (.int .i64 a1) ∧ w'.cell? ⟨p, 2, none⟩ = some (.int .i64 a2) ∧ w'.cell? ⟨q, 0, none⟩ = some (.int .i64 b0) ∧ w'.cell? ⟨q, 1, none⟩ = some (.int .i64 b1) ∧ w'.cell? ⟨q, 2, none⟩ = some (.int .i64 b2) ∧ p < w'.heap.size ∧ q < w'.heap.size ∧ FnsAt w' g ∧ Below W0.heap.size W0 w'
theorem DdH.keep {W0 : World} {p q g : Nat} {a0 a1 a2 b0 b1 b2 : Int} {w' w2 : World} (hb : Below w'.heap.size w' w2) (h : DdH W0 p q g a0 a1 a2 b0 b1 b2 w') : DdH W0 p q g a0 a1 a2 b0 b1 b2 w2 := by
  obtain ⟨c0, c1, c2, d0, d1, d2, e1, e2, e4, e3⟩ := h
  exact ⟨(hb.cell (p := ⟨p, 0, none⟩) e1).trans c0, (hb.cell (p := ⟨p, 1, none⟩) e1).trans c1, (hb.cell (p := ⟨p, 2, none⟩) e1).trans c2, (hb.cell (p := ⟨q, 0, none⟩) e2).trans d0, (hb.cell (p := ⟨q, 1, none⟩) e2).trans d1, (hb.cell (p := ⟨q, 2, none⟩) e2).trans d2, Nat.lt_of_lt_of_le e1 hb.size, Nat.lt_of_lt_of_le e2 hb.size, e4.keep hb, bT e3 hb⟩
theorem DdH.drew {W0 : World} {p q g : Nat} {a0 a1 a2 b0 b1 b2 : Int} {w' : World} (h : DdH W0 p q g a0 a1 a2 b0 b1 b2 w') : DdH W0 p q g a0 a1 a2 b0 b1 b2 w'.drew := h.keep (bR _).drew
theorem DdH.of {W0 w' : World} {p q g : Nat} {a0 a1 a2 b0 b1 b2 : Int} (h1 : BoxL w' p [.int .i64 a0, .int .i64 a1, .int .i64 a2]) (h2 : BoxL w' q [.int .i64 b0, .int .i64 b1, .int .i64 b2]) (h4 : FnsAt w' g) (h3 : Below W0.heap.size W0 w') : DdH W0 p q g a0 a1 a2 b0 b1 b2 w' := by
  obtain ⟨c0, c1, c2, c3⟩ := h1.c3
  obtain ⟨d0, d1, d2, d3⟩ := h2.c3
  exact ⟨c0, c1, c2, d0, d1, d2, c3, d3, h4, h3⟩
def NumsRet (w : World) (e : Ending) (w' : World) : Prop := ∃ g, e = .returned (.slice (some ⟨g, 0, none⟩) 3 3) ∧ FnsAt w' g ∧ Below w.heap.size w w'
theorem dateNumbers_any (w : World) : Calls Try.prog 59 #[] w (NumsRet w) := by
  go_enter Try.func59, Try.ntmps59
  go_wp2_with fail
  go_ret
  exact ⟨w.heap.size, rfl, ⟨by simp [go_sem], by simp [go_sem], by simp [go_sem], by simp⟩, bA (bR _) _⟩
/-- The first k numbers are equal. -/
def cdK (a0 a1 b0 b1 : Int) (k : Nat) : Prop := (1 ≤ k → a0 = b0) ∧ (2 ≤ k → a1 = b1)
set_option maxRecDepth 100000 in
set_option maxHeartbeats 8000000 in
theorem CompareDateI_any (a0 a1 a2 b0 b1 b2 : Int) (w : World) : Calls Try.prog 30 #[.agg #[.int .i64 a0, .int .i64 a1, .int .i64 a2], .agg #[.int .i64 b0, .int .i64 b1, .int .i64 b2]] w (BelI (cdC a0 a1 a2 b0 b1 b2) w) := by
  have A1 := Lib.hid ((BoxL.new w [.int .i64 a0, .int .i64 a1, .int .i64 a2] 48).alloc (.cells #[.int .i64 b0, .int .i64 b1, .int .i64 b2] 48))
  have A2 := Lib.hid (BoxL.at_ (w := w.alloc (.cells #[.int .i64 a0, .int .i64 a1, .int .i64 a2] 48)) (b := w.heap.size + 1) (vs := [.int .i64 b0, .int .i64 b1, .int .i64 b2]) (T := 48) (by simp))
  have L0 := Lib.hid (bA (bA (bR w) (.cells #[.int .i64 a0, .int .i64 a1, .int .i64 a2] 48)) (.cells #[.int .i64 b0, .int .i64 b1, .int .i64 b2] 48))
  go_enter Try.func30, Try.ntmps30
  go_wp2_with fail
  generalize (w.alloc (.cells #[.int .i64 a0, .int .i64 a1, .int .i64 a2] 48)).alloc (.cells #[.int .i64 b0, .int .i64 b1, .int .i64 b2] 48) = W0 at *
  refine (dateNumbers_any _).mono ?_
  rintro e w1 ⟨g, rfl, hg, hb⟩
  have H1 := Lib.hid (DdH.of (A1.out.keep hb) (A2.out.keep hb) hg (bT L0.out hb))
  clear hb hg A1 A2 L0
  go_wp2_with fail
  go_loopw [10] (fun i wr => ∃ (k : Nat) (z : Int), (z = 0 ∨ z = 1 ∨ z = 2 ∨ z = 3) ∧ z = k ∧ i = .int .i64 z ∧ cdK a0 a1 b0 b1 k ∧ (3 ≤ k → cdC a0 a1 a2 b0 b1 b2 = 0) ∧ DdH w w.heap.size (w.heap.size + 1) g a0 a1 a2 b0 b1 b2 wr) (fun i _ => 3 - (intOf i).toNat)
  case atStart => exact ⟨0, 0, by simp, rfl, rfl, ⟨fun h => absurd h (by omega), fun h => absurd h (by omega)⟩, fun h => absurd h (by omega), H1.out⟩
  case round =>
    obtain ⟨k, z, hz, hzk, rfl, hk, hk3, hH⟩ := hrel
    have H2 := Lib.hid hH
    have HK := Lib.hid hk
    have HK3 := Lib.hid hk3
    obtain ⟨f0, f1, f2, f3⟩ := hH.2.2.2.2.2.2.2.2.1
    clear hH hk hk3
    rcases hz with rfl | rfl | rfl | rfl
    · obtain rfl : k = 0 := by omega
      clear hzk
      by_cases heq : a0 = b0
      · have HQ := Lib.hid heq
        have CMP := Lib.hid (fun W => (show Calls Try.prog 60 #[.int .i64 a0, .int .i64 b0] W (fun e w' => e = .returned (.int .i64 0) ∧ W = w') by have := cmpI_any a0 b0 W; rw [show sgC a0 b0 = 0 by rw [heq]; exact sgC_eq _] at this; exact this))
        skip
        clear heq
        go_wp2_with fail
        clear f0 f1 f2 f3
        go_region_held3 (fun w' => w'.cell? ⟨w.heap.size, 0, none⟩ = some (.int .i64 a0) ∧ w'.cell? ⟨w.heap.size, 1, none⟩ = some (.int .i64 a1) ∧ w'.cell? ⟨w.heap.size, 2, none⟩ = some (.int .i64 a2) ∧ w'.cell? ⟨w.heap.size + 1, 0, none⟩ = some (.int .i64 b0) ∧ w'.cell? ⟨w.heap.size + 1, 1, none⟩ = some (.int .i64 b1) ∧ w'.cell? ⟨w.heap.size + 1, 2, none⟩ = some (.int .i64 b2) ∧ w.heap.size < w'.heap.size ∧ w.heap.size + 1 < w'.heap.size ∧ FnsAt w' g ∧ Below w.heap.size w w') (first | exact H2.out.drew | exact DdH.keep hb (by first | assumption | exact H2.out.drew))
          (first
            | (go_at_call 84; refine (year_any _ _ _ _).mono ?_; rintro e w' ⟨rfl, hb⟩)
            | (go_at_call 60; refine (CMP.out _).mono ?_; rintro e w' ⟨rfl, rfl⟩; have hb := bR w'))
        have HT : DdH w w.heap.size (w.heap.size + 1) g a0 a1 a2 b0 b1 b2 w' := by assumption
        have HU := Lib.hid HT
        clear HT H2
        go_wp2_with fail
        go_roundw
        case rel => exact ⟨1, 1, by simp, rfl, rfl, ⟨fun _ => HQ.out, fun h => absurd h (by omega)⟩, fun h => absurd h (by omega), HU.out⟩
        case measure => simp [intOf]
      · have HC := Lib.hid (show cdC a0 a1 a2 b0 b1 b2 = sgC a0 b0 by simp [cdC, heq])
        have hs := sgC_ne heq
        have CMP := Lib.hid (fun W => cmpI_any a0 b0 W)
        generalize sgC a0 b0 = s at *
        have hs' : (s != 0) = true := by simpa using hs
        clear heq
        go_wp2_with fail
        clear f0 f1 f2 f3
        go_region_held3 (fun w' => w'.cell? ⟨w.heap.size, 0, none⟩ = some (.int .i64 a0) ∧ w'.cell? ⟨w.heap.size, 1, none⟩ = some (.int .i64 a1) ∧ w'.cell? ⟨w.heap.size, 2, none⟩ = some (.int .i64 a2) ∧ w'.cell? ⟨w.heap.size + 1, 0, none⟩ = some (.int .i64 b0) ∧ w'.cell? ⟨w.heap.size + 1, 1, none⟩ = some (.int .i64 b1) ∧ w'.cell? ⟨w.heap.size + 1, 2, none⟩ = some (.int .i64 b2) ∧ w.heap.size < w'.heap.size ∧ w.heap.size + 1 < w'.heap.size ∧ FnsAt w' g ∧ Below w.heap.size w w') (first | exact H2.out.drew | exact DdH.keep hb (by first | assumption | exact H2.out.drew))
          (first
            | (go_at_call 84; refine (year_any _ _ _ _).mono ?_; rintro e w' ⟨rfl, hb⟩)
            | (go_at_call 60; refine (CMP.out _).mono ?_; rintro e w' ⟨rfl, rfl⟩; have hb := bR w'))
        have HT : DdH w w.heap.size (w.heap.size + 1) g a0 a1 a2 b0 b1 b2 w' := by assumption
        have HU := Lib.hid HT
        clear HT H2
        go_wp2_with fail
        go_ret
        exact ⟨by rw [HC.out]; rfl, HU.out.2.2.2.2.2.2.2.2.2⟩
    · obtain rfl : k = 1 := by omega
      clear hzk
      have e0 := HK.out.1 (by omega)
      by_cases heq : a1 = b1
      · have HQ := Lib.hid heq
        have CMP := Lib.hid (fun W => (show Calls Try.prog 60 #[.int .i64 a1, .int .i64 b1] W (fun e w' => e = .returned (.int .i64 0) ∧ W = w') by have := cmpI_any a1 b1 W; rw [show sgC a1 b1 = 0 by rw [heq]; exact sgC_eq _] at this; exact this))
        skip
        clear heq e0
        go_wp2_with fail
        clear f0 f1 f2 f3
        go_region_held3 (fun w' => w'.cell? ⟨w.heap.size, 0, none⟩ = some (.int .i64 a0) ∧ w'.cell? ⟨w.heap.size, 1, none⟩ = some (.int .i64 a1) ∧ w'.cell? ⟨w.heap.size, 2, none⟩ = some (.int .i64 a2) ∧ w'.cell? ⟨w.heap.size + 1, 0, none⟩ = some (.int .i64 b0) ∧ w'.cell? ⟨w.heap.size + 1, 1, none⟩ = some (.int .i64 b1) ∧ w'.cell? ⟨w.heap.size + 1, 2, none⟩ = some (.int .i64 b2) ∧ w.heap.size < w'.heap.size ∧ w.heap.size + 1 < w'.heap.size ∧ FnsAt w' g ∧ Below w.heap.size w w') (first | exact H2.out.drew | exact DdH.keep hb (by first | assumption | exact H2.out.drew))
          (first
            | (go_at_call 85; refine (month_any _ _ _ _).mono ?_; rintro e w' ⟨rfl, hb⟩)
            | (go_at_call 60; refine (CMP.out _).mono ?_; rintro e w' ⟨rfl, rfl⟩; have hb := bR w'))
        have HT : DdH w w.heap.size (w.heap.size + 1) g a0 a1 a2 b0 b1 b2 w' := by assumption
        have HU := Lib.hid HT
        clear HT H2
        go_wp2_with fail
        go_roundw
        case rel => exact ⟨2, 2, by simp, rfl, rfl, ⟨fun _ => HK.out.1 (by omega), fun _ => HQ.out⟩, fun h => absurd h (by omega), HU.out⟩
        case measure => simp [intOf]
      · have HC := Lib.hid (show cdC a0 a1 a2 b0 b1 b2 = sgC a1 b1 by simp [cdC, e0, heq])
        have hs := sgC_ne heq
        have CMP := Lib.hid (fun W => cmpI_any a1 b1 W)
        generalize sgC a1 b1 = s at *
        have hs' : (s != 0) = true := by simpa using hs
        clear heq e0
        go_wp2_with fail
        clear f0 f1 f2 f3
        go_region_held3 (fun w' => w'.cell? ⟨w.heap.size, 0, none⟩ = some (.int .i64 a0) ∧ w'.cell? ⟨w.heap.size, 1, none⟩ = some (.int .i64 a1) ∧ w'.cell? ⟨w.heap.size, 2, none⟩ = some (.int .i64 a2) ∧ w'.cell? ⟨w.heap.size + 1, 0, none⟩ = some (.int .i64 b0) ∧ w'.cell? ⟨w.heap.size + 1, 1, none⟩ = some (.int .i64 b1) ∧ w'.cell? ⟨w.heap.size + 1, 2, none⟩ = some (.int .i64 b2) ∧ w.heap.size < w'.heap.size ∧ w.heap.size + 1 < w'.heap.size ∧ FnsAt w' g ∧ Below w.heap.size w w') (first | exact H2.out.drew | exact DdH.keep hb (by first | assumption | exact H2.out.drew))
          (first
            | (go_at_call 85; refine (month_any _ _ _ _).mono ?_; rintro e w' ⟨rfl, hb⟩)
            | (go_at_call 60; refine (CMP.out _).mono ?_; rintro e w' ⟨rfl, rfl⟩; have hb := bR w'))
        have HT : DdH w w.heap.size (w.heap.size + 1) g a0 a1 a2 b0 b1 b2 w' := by assumption
        have HU := Lib.hid HT
        clear HT H2
        go_wp2_with fail
        go_ret
        exact ⟨by rw [HC.out]; rfl, HU.out.2.2.2.2.2.2.2.2.2⟩
    · obtain rfl : k = 2 := by omega
      clear hzk
      have e0 := HK.out.1 (by omega)
      have e1 := HK.out.2 (by omega)
      by_cases heq : a2 = b2
      · have HQ := Lib.hid heq
        have CMP := Lib.hid (fun W => (show Calls Try.prog 60 #[.int .i64 a2, .int .i64 b2] W (fun e w' => e = .returned (.int .i64 0) ∧ W = w') by have := cmpI_any a2 b2 W; rw [show sgC a2 b2 = 0 by rw [heq]; exact sgC_eq _] at this; exact this))
        have HC := Lib.hid (show cdC a0 a1 a2 b0 b1 b2 = 0 by rw [show cdC a0 a1 a2 b0 b1 b2 = sgC a2 b2 by simp [cdC, e0, e1], heq]; exact sgC_eq _)
        clear heq e0 e1
        go_wp2_with fail
        clear f0 f1 f2 f3
        go_region_held3 (fun w' => w'.cell? ⟨w.heap.size, 0, none⟩ = some (.int .i64 a0) ∧ w'.cell? ⟨w.heap.size, 1, none⟩ = some (.int .i64 a1) ∧ w'.cell? ⟨w.heap.size, 2, none⟩ = some (.int .i64 a2) ∧ w'.cell? ⟨w.heap.size + 1, 0, none⟩ = some (.int .i64 b0) ∧ w'.cell? ⟨w.heap.size + 1, 1, none⟩ = some (.int .i64 b1) ∧ w'.cell? ⟨w.heap.size + 1, 2, none⟩ = some (.int .i64 b2) ∧ w.heap.size < w'.heap.size ∧ w.heap.size + 1 < w'.heap.size ∧ FnsAt w' g ∧ Below w.heap.size w w') (first | exact H2.out.drew | exact DdH.keep hb (by first | assumption | exact H2.out.drew))
          (first
            | (go_at_call 86; refine (day_any _ _ _ _).mono ?_; rintro e w' ⟨rfl, hb⟩)
            | (go_at_call 60; refine (CMP.out _).mono ?_; rintro e w' ⟨rfl, rfl⟩; have hb := bR w'))
        have HT : DdH w w.heap.size (w.heap.size + 1) g a0 a1 a2 b0 b1 b2 w' := by assumption
        have HU := Lib.hid HT
        clear HT H2
        go_wp2_with fail
        go_roundw
        case rel => exact ⟨3, 3, by simp, rfl, rfl, ⟨fun _ => HK.out.1 (by omega), fun _ => HK.out.2 (by omega)⟩, fun _ => HC.out, HU.out⟩
        case measure => simp [intOf]
      · have HC := Lib.hid (show cdC a0 a1 a2 b0 b1 b2 = sgC a2 b2 by simp [cdC, e0, e1])
        have hs := sgC_ne heq
        have CMP := Lib.hid (fun W => cmpI_any a2 b2 W)
        generalize sgC a2 b2 = s at *
        have hs' : (s != 0) = true := by simpa using hs
        clear heq e0 e1
        go_wp2_with fail
        clear f0 f1 f2 f3
        go_region_held3 (fun w' => w'.cell? ⟨w.heap.size, 0, none⟩ = some (.int .i64 a0) ∧ w'.cell? ⟨w.heap.size, 1, none⟩ = some (.int .i64 a1) ∧ w'.cell? ⟨w.heap.size, 2, none⟩ = some (.int .i64 a2) ∧ w'.cell? ⟨w.heap.size + 1, 0, none⟩ = some (.int .i64 b0) ∧ w'.cell? ⟨w.heap.size + 1, 1, none⟩ = some (.int .i64 b1) ∧ w'.cell? ⟨w.heap.size + 1, 2, none⟩ = some (.int .i64 b2) ∧ w.heap.size < w'.heap.size ∧ w.heap.size + 1 < w'.heap.size ∧ FnsAt w' g ∧ Below w.heap.size w w') (first | exact H2.out.drew | exact DdH.keep hb (by first | assumption | exact H2.out.drew))
          (first
            | (go_at_call 86; refine (day_any _ _ _ _).mono ?_; rintro e w' ⟨rfl, hb⟩)
            | (go_at_call 60; refine (CMP.out _).mono ?_; rintro e w' ⟨rfl, rfl⟩; have hb := bR w'))
        have HT : DdH w w.heap.size (w.heap.size + 1) g a0 a1 a2 b0 b1 b2 w' := by assumption
        have HU := Lib.hid HT
        clear HT H2
        go_wp2_with fail
        go_ret
        exact ⟨by rw [HC.out]; rfl, HU.out.2.2.2.2.2.2.2.2.2⟩
    · obtain rfl : k = 3 := by omega
      clear hzk
      have HC := Lib.hid (HK3.out (by omega))
      go_wp2_with fail
      go_ret
      exact ⟨by rw [HC.out]; rfl, H2.out.2.2.2.2.2.2.2.2.2⟩
end Go.Proofs.Ytmnkacbolbjliaa

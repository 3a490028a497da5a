/-
  The module that fits: FitModule, both sides.
-/
import Derived.Test.YtpbmpmcifpgchaaTrA
import Derived.Test.YtpbmpmcifpgchaaAn
namespace Go.Proofs.Ytpbmpmcifpgchaa
open Go.RowKit

/-- What a call keeps of a pair in box b. -/
def PrH (w : World) (b : Nat) (x y : Int) (w' : World) : Prop := w'.cell? ⟨b, 0, none⟩ = some (.int .i64 x) ∧ w'.cell? ⟨b, 1, none⟩ = some (.int .i64 y) ∧ b < w'.heap.size ∧ Below w.heap.size w w'
theorem PrH.keep {w : World} {b : Nat} {x y : Int} {w' w2 : World} (hb : Below w'.heap.size w' w2) (H : PrH w b x y w') : PrH w b x y w2 := by
  obtain ⟨c0, c1, e0, e1⟩ := H
  exact ⟨(hb.cell (p := ⟨b, 0, none⟩) e0).trans c0, (hb.cell (p := ⟨b, 1, none⟩) e0).trans c1, Nat.lt_of_lt_of_le e0 hb.size, bT e1 hb⟩
theorem PrH.new (w : World) (x y : Int) (T : TypeId) : PrH w w.heap.size x y (w.alloc (.cells #[.int .i64 x, .int .i64 y] T)) := ⟨by simp [go_sem], by simp [go_sem], by simp, bA (bR _) _⟩
theorem PrH.bel {w : World} {b : Nat} {x y : Int} {w' : World} (H : PrH w b x y w') : Below w.heap.size w w' := H.2.2.2
theorem l00MinF_any (x y : Int) (w : World) :
    Calls Try.prog 71 #[.int .i64 x, .int .i64 y] w fun e w' => e = .returned (.int .i64 (min x y)) ∧ w = w' := by
  by_cases h : x < y
  · go_enter Try.func71, Try.ntmps71
    go_wp2
    go_ret
    exact ⟨ret_int (by omega), rfl⟩
  · go_enter Try.func71, Try.ntmps71
    go_wp2
    go_ret
    exact ⟨ret_int (by omega), rfl⟩
/-- The greatest module for a distance. -/
def fmZ (x y d : Int) : Int := min (d / (5 * (x + y))) 500
/-- What FitModule returns. -/
def fmF (x y d : Int) : Int × Int := if okP (x, y) = true then (if inB d 1 1000000000 = true then (if fmZ x y d = 0 then (0, 3) else (fmZ x y d, 0)) else (0, 2)) else (0, 1)
theorem fmF_n1 {x y d : Int} (e : okP (x, y) = false) : fmF x y d = (0, 1) := by simp [fmF, e]
theorem fmF_n2 {x y d : Int} (e : okP (x, y) = true) (e2 : inB d 1 1000000000 = false) : fmF x y d = (0, 2) := by simp [fmF, e, e2]
theorem fmF_n3 {x y d : Int} (e : okP (x, y) = true) (e2 : inB d 1 1000000000 = true) (e3 : fmZ x y d = 0) : fmF x y d = (0, 3) := by simp [fmF, e, e2, e3]
theorem fmF_yes {x y d : Int} (e : okP (x, y) = true) (e2 : inB d 1 1000000000 = true) (e3 : ¬ fmZ x y d = 0) : fmF x y d = (fmZ x y d, 0) := by simp [fmF, e, e2, e3]
theorem retF {a b c d : Int} (h : a = b) (h' : c = d) : Ending.returned (.tuple #[.int .i64 a, .int .i64 c]) = .returned (.tuple #[.int .i64 b, .int .i64 d]) := by rw [h, h']
theorem fm_bd {x y d : Int} (h1 : 6 ≤ x) (h2 : 6 ≤ y) (hd : 1 ≤ d) : d.tdiv (5 * (x + y)) = d / (5 * (x + y)) ∧ 0 ≤ d / (5 * (x + y)) ∧ d / (5 * (x + y)) ≤ d :=
  ⟨Int.tdiv_eq_ediv_of_nonneg (by omega), Int.ediv_nonneg (by omega) (by omega), Int.ediv_le_self _ (by omega)⟩
set_option maxHeartbeats 1000000 in
theorem FitModuleI_any (x y d : Int) (w : World) :
    Calls Try.prog 33 #[.agg #[.int .i64 x, .int .i64 y], .int .i64 d] w (TwoIn (fmF x y d).1 (fmF x y d).2 w) := by
  have H0 := Lib.hid (PrH.new w x y 52)
  cases ho : okP (x, y)
  · rw [fmF_n1 ho]
    go_enter Try.func33, Try.ntmps33
    go_wp2_with fail
    refine (ValidPairI_any _ _ _).mono ?_
    rw [ho]
    rintro e w1 ⟨rfl, hb⟩
    go_wp2_with fail
    go_ret2
    exact ⟨rfl, bT H0.out.bel hb⟩
  cases h2 : inB d 1 1000000000
  · rw [fmF_n2 ho h2]
    go_enter Try.func33, Try.ntmps33
    go_wp2_with fail
    refine (ValidPairI_any _ _ _).mono ?_
    rw [ho]
    rintro e w1 ⟨rfl, hb⟩
    have H1 := Lib.hid (H0.out.keep hb)
    clear hb
    go_wp2_with fail
    refine (isBetween_any _ _ _ _).mono ?_
    rw [h2]
    rintro e w2 ⟨rfl, rfl⟩
    go_wp2_with fail
    go_ret2
    exact ⟨rfl, H1.out.bel⟩
  have hd := inB_true.1 h2
  obtain ⟨x1, x2, y1, y2⟩ := okP_bd ho
  simp only at x1 x2 y1 y2
  obtain ⟨t1, t2, t3⟩ := fm_bd x1 y1 hd.1
  have hne : ¬ 5 * (x + y) = 0 := by omega
  by_cases h3 : fmZ x y d = 0
  · rw [fmF_n3 ho h2 h3]
    unfold fmZ at h3
    go_enter Try.func33, Try.ntmps33
    go_wp2_with fail
    refine (ValidPairI_any _ _ _).mono ?_
    rw [ho]
    rintro e w1 ⟨rfl, hb⟩
    have H1 := Lib.hid (H0.out.keep hb)
    clear hb
    obtain ⟨c0, c1, c6, c7⟩ := H1.out
    go_wp2_with fail
    refine (isBetween_any _ _ _ _).mono ?_
    rw [h2]
    rintro e w2 ⟨rfl, rfl⟩
    go_wp2_with fail
    all_goals first | (go_ret2; exact ⟨retF (by omega) rfl, H1.out.bel⟩) | (exfalso; omega)
  · rw [fmF_yes ho h2 h3]
    unfold fmZ at h3 ⊢
    go_enter Try.func33, Try.ntmps33
    go_wp2_with fail
    refine (ValidPairI_any _ _ _).mono ?_
    rw [ho]
    rintro e w1 ⟨rfl, hb⟩
    have H1 := Lib.hid (H0.out.keep hb)
    clear hb
    obtain ⟨c0, c1, c6, c7⟩ := H1.out
    go_wp2_with fail
    refine (isBetween_any _ _ _ _).mono ?_
    rw [h2]
    rintro e w2 ⟨rfl, rfl⟩
    go_wp2_with fail
    all_goals first | (go_ret2; exact ⟨retF (by omega) rfl, H1.out.bel⟩) | (exfalso; omega)
set_option maxHeartbeats 1000000 in
theorem FitModuleS_any (x y d : Int) (w : World) :
    Calls Try.prog 34 #[.agg #[.int .i64 x, .int .i64 y], .int .i64 d] w (TwoIn (fmF x y d).1 (fmF x y d).2 w) := by
  have H0 := Lib.hid (PrH.new w x y 52)
  cases ho : okP (x, y)
  · rw [fmF_n1 ho]
    go_enter Try.func34, Try.ntmps34
    go_wp2_with fail
    refine (l05Pair_any _ _ _).mono ?_
    rw [ho]
    rintro e w1 ⟨rfl, hb⟩
    go_wp2_with fail
    go_ret2
    exact ⟨rfl, bT H0.out.bel hb⟩
  cases h2 : inB d 1 1000000000
  · rw [fmF_n2 ho h2]
    go_enter Try.func34, Try.ntmps34
    go_wp2_with fail
    refine (l05Pair_any _ _ _).mono ?_
    rw [ho]
    rintro e w1 ⟨rfl, hb⟩
    have H1 := Lib.hid (H0.out.keep hb)
    clear hb
    go_wp2_with fail
    refine (l00In_any _ _ _ _).mono ?_
    rw [h2]
    rintro e w2 ⟨rfl, rfl⟩
    go_wp2_with fail
    go_ret2
    exact ⟨rfl, H1.out.bel⟩
  have hd := inB_true.1 h2
  obtain ⟨x1, x2, y1, y2⟩ := okP_bd ho
  simp only at x1 x2 y1 y2
  obtain ⟨t1, t2, t3⟩ := fm_bd x1 y1 hd.1
  have hne : ¬ 5 * (x + y) = 0 := by omega
  have HY := Lib.hid (@fmF_yes x y d ho h2)
  have HN := Lib.hid (@fmF_n3 x y d ho h2)
  have HC := Lib.hid (show min 500 (d / (5 * (x + y))) = fmZ x y d by unfold fmZ; omega)
  have HP := Lib.hid (show 0 ≤ fmZ x y d by unfold fmZ; omega)
  go_enter Try.func34, Try.ntmps34
  go_wp2_with fail
  refine (l05Pair_any _ _ _).mono ?_
  rw [ho]
  rintro e w1 ⟨rfl, hb⟩
  have H1 := Lib.hid (H0.out.keep hb)
  clear hb
  obtain ⟨c0, c1, c6, c7⟩ := H1.out
  go_wp2_with fail
  refine (l00In_any _ _ _ _).mono ?_
  rw [h2]
  rintro e w2 ⟨rfl, rfl⟩
  clear h2 ho
  go_wp2_with fail
  refine (l00MinF_any _ _ _).mono ?_
  rw [HC.out]
  rintro e w2 ⟨rfl, rfl⟩
  have HP2 := HP.out
  clear t1 t2 t3
  by_cases h3 : fmZ x y d = 0
  · have h4 : fmZ x y d < 1 := by omega
    go_wp2_with fail
    go_ret2
    rw [HN.out h3]
    exact ⟨rfl, H1.out.bel⟩
  · have h4 : ¬ fmZ x y d < 1 := by omega
    go_wp2_with fail
    go_ret2
    rw [HY.out h3]
    exact ⟨rfl, H1.out.bel⟩
end Go.Proofs.Ytpbmpmcifpgchaa

/-
  Contact ratios: reach, the way, the contact in a direction; ContactBounds, both sides.
-/
import Derived.Test.YtpbmpmcifpgchaaCtc
import Derived.Test.YtpbmpmcifpgchaaSqx
namespace Go.Proofs.Ytpbmpmcifpgchaa
open Go.RowKit

/-- What a call keeps of a square in box b. -/
def SqH (w : World) (b : Nat) (n : Int) (w' : World) : Prop := w'.cell? ⟨b, 0, none⟩ = some (.int .u64 0) ∧ w'.cell? ⟨b, 1, none⟩ = some (.int .u64 n) ∧ b < w'.heap.size ∧ Below w.heap.size w w'
theorem SqH.keep {w : World} {b : Nat} {n : Int} {w' x : World} (hb : Below w'.heap.size w' x) (H : SqH w b n w') : SqH w b n x := by
  obtain ⟨c0, c1, e0, e1⟩ := H
  exact ⟨(hb.cell (p := ⟨b, 0, none⟩) e0).trans c0, (hb.cell (p := ⟨b, 1, none⟩) e0).trans c1, Nat.lt_of_lt_of_le e0 hb.size, bT e1 hb⟩
theorem SqH.drew {w : World} {b : Nat} {n : Int} {w' : World} (H : SqH w b n w') : SqH w b n w'.drew := H.keep (bR _).drew
theorem SqH.new (w : World) (n : Int) (T : TypeId) : SqH w w.heap.size n (w.alloc (.cells #[.int .u64 0, .int .u64 n] T)) := ⟨by simp [go_sem], by simp [go_sem], by simp, bA (bR _) _⟩
theorem SqH.bel {w : World} {b : Nat} {n : Int} {w' : World} (H : SqH w b n w') : Below w.heap.size w w' := H.2.2.2
theorem ru_yes {n : Int} (h : rt n * rt n < n) : ru n = rt n + 1 := if_pos h
theorem ru_no {n : Int} (h : ¬ rt n * rt n < n) : ru n = rt n := if_neg h
set_option maxRecDepth 100000 in
set_option maxHeartbeats 2000000 in
theorem rootU_any (n : Int) (w : World) (h0 : 0 ≤ n) (h1 : n ≤ 3000000000000000000) :
    Calls Try.prog 91 #[.int .i64 1, .agg #[.int .u64 0, .int .u64 n]] w (IntB (ru n) w) := by
  have hcv : IntKind.i64.wrap n = n := wrI n (by omega)
  have r := rt_is h0
  have r2 := rt_le (m := 2000000000) h0 (by omega) (by omega)
  have HQ := Lib.hid (fun W => squareOf_any (rt n) W (by omega) (by omega))
  have HR := Lib.hid (fun W => rootOf_any n W h0 (by omega))
  have HX := Lib.hid (fun W => exceeds_any n (rt n * rt n) W)
  have HY := Lib.hid (@ru_yes n)
  have HN := Lib.hid (@ru_no n)
  clear r h0 h1
  have hr0 : 0 ≤ rt n ∧ rt n ≤ 2000000000 := ⟨by unfold rt; omega, r2⟩
  clear r2
  cases hx : decide (rt n * rt n < n)
  · rw [hx] at HX
    rw [HN.out (of_decide_eq_false hx)]
    clear HY HN hx
    generalize rt n = q at *
    have H0 := SqH.new w n 76
    go_enter Try.func91, Try.ntmps91
    go_wp2_with fail
    refine (HR.out _).mono ?_
    rintro e w1 ⟨rfl, rfl⟩
    go_upto_region 2 with fail
    generalize w.alloc (.cells #[.int .u64 0, .int .u64 n] 76) = W0 at *
    go_region_held3 (fun w' => w'.cell? ⟨w.heap.size, 0, none⟩ = some (.int .u64 0) ∧ w'.cell? ⟨w.heap.size, 1, none⟩ = some (.int .u64 n) ∧ w.heap.size < w'.heap.size ∧ Below w.heap.size w w') (first | exact H0.drew | assumption | exact SqH.keep hb (by assumption))
      (first
        | (go_at_call 55; refine (HQ.out _).mono ?_; rintro e w' ⟨rfl, hb⟩)
        | (go_at_call 75; refine (HX.out _).mono ?_; rintro e w' ⟨rfl, hb⟩))
    have H1 : SqH w w.heap.size n w' := by assumption
    have L := Lib.hid H1.bel
    clear hb H0 H1
    go_wp2_with fail
    go_ret
    exact ⟨rfl, L.out⟩
  · rw [hx] at HX
    rw [HY.out (of_decide_eq_true hx)]
    clear HY HN hx
    generalize rt n = q at *
    have H0 := SqH.new w n 76
    go_enter Try.func91, Try.ntmps91
    go_wp2_with fail
    refine (HR.out _).mono ?_
    rintro e w1 ⟨rfl, rfl⟩
    go_upto_region 2 with fail
    generalize w.alloc (.cells #[.int .u64 0, .int .u64 n] 76) = W0 at *
    go_region_held3 (fun w' => w'.cell? ⟨w.heap.size, 0, none⟩ = some (.int .u64 0) ∧ w'.cell? ⟨w.heap.size, 1, none⟩ = some (.int .u64 n) ∧ w.heap.size < w'.heap.size ∧ Below w.heap.size w w') (first | exact H0.drew | assumption | exact SqH.keep hb (by assumption))
      (first
        | (go_at_call 55; refine (HQ.out _).mono ?_; rintro e w' ⟨rfl, hb⟩)
        | (go_at_call 75; refine (HX.out _).mono ?_; rintro e w' ⟨rfl, hb⟩))
    have H1 : SqH w w.heap.size n w' := by assumption
    have L := Lib.hid H1.bel
    clear hb H0 H1
    go_wp2_with fail
    go_ret
    exact ⟨rfl, L.out⟩
theorem root_any (d n : Int) (w : World) (hd : d = 0 ∨ d = 1) (h0 : 0 ≤ n) (h1 : n ≤ 3000000000000000000) :
    Calls Try.prog 91 #[.int .i64 d, .agg #[.int .u64 0, .int .u64 n]] w (IntB (rdN d n) w) := by
  rcases hd with rfl | rfl
  · exact rootD_any n w h0 h1
  · exact rootU_any n w h0 h1
set_option maxRecDepth 100000 in
set_option maxHeartbeats 2000000 in
theorem reach_any (d t m k s c h : Int) (w : World) (hd : d = 0 ∨ d = 1) (e : okPf t m k s c h = true) :
    Calls Try.prog 78 #[.int .i64 d, .agg #[.int .i64 t, .int .i64 m, .int .i64 k, .int .i64 s, .int .i64 c, .int .i64 h]] w (IntB (rdN d (sqd t m k c h)) w) := by
  have L := Lib.hid (lim_of e)
  have b := sqd_bd e
  have HM := Lib.hid (fun W => minusQ_any (out_ t m k * h * (out_ t m k * h)) (pit t m * c * (pit t m * c)) W (by omega) (by omega) (by omega))
  have HR := Lib.hid (fun W => root_any d (sqd t m k c h) W hd (by omega) (by omega))
  unfold sqd at HR ⊢
  clear b e hd
  have H0 := PfH.new w t m k s c h 30
  go_enter Try.func78, Try.ntmps78
  go_upto_region 1 with fail
  generalize w.alloc (.cells #[.int .i64 t, .int .i64 m, .int .i64 k, .int .i64 s, .int .i64 c, .int .i64 h] 30) = W0 at *
  go_region_held3 (fun w' => w'.cell? ⟨w.heap.size, 0, none⟩ = some (.int .i64 t) ∧ w'.cell? ⟨w.heap.size, 1, none⟩ = some (.int .i64 m) ∧ w'.cell? ⟨w.heap.size, 2, none⟩ = some (.int .i64 k) ∧ w'.cell? ⟨w.heap.size, 3, none⟩ = some (.int .i64 s) ∧ w'.cell? ⟨w.heap.size, 4, none⟩ = some (.int .i64 c) ∧ w'.cell? ⟨w.heap.size, 5, none⟩ = some (.int .i64 h) ∧ w.heap.size < w'.heap.size ∧ Below w.heap.size w w') (first | exact H0.drew | assumption | exact PfH.keep hb (by assumption))
    (first
      | (go_at_call 74; refine (outsideSquare_any _ _ _ _ _ _ _ L.out).mono ?_; rintro e w' ⟨rfl, hb⟩)
      | (go_at_call 76; refine (baseSquare_any _ _ _ _ _ _ _ L.out).mono ?_; rintro e w' ⟨rfl, hb⟩)
      | (go_at_call 92; refine (HM.out _).mono ?_; rintro e w' ⟨rfl, hb⟩)
      | (go_at_call 91; refine (HR.out _).mono ?_; rintro e w' ⟨rfl, hb⟩))
  have H1 : PfH w w.heap.size t m k s c h w' := by assumption
  have L1 := Lib.hid H1.bel
  clear hb H0 H1
  go_wp2_with fail
  go_ret
  exact ⟨rfl, L1.out⟩
set_option maxRecDepth 100000 in
set_option maxHeartbeats 4000000 in
theorem sumReach_any (d t m k s c h t2 m2 k2 s2 c2 h2 : Int) (w : World) (hd : d = 0 ∨ d = 1) (e : okPf t m k s c h = true) (e2 : okPf t2 m2 k2 s2 c2 h2 = true) :
    Calls Try.prog 77 #[.agg #[.int .i64 t, .int .i64 m, .int .i64 k, .int .i64 s, .int .i64 c, .int .i64 h, .int .i64 t2, .int .i64 m2, .int .i64 k2, .int .i64 s2, .int .i64 c2, .int .i64 h2], .func (.func 78) #[.int .i64 d] #[]] w (IntB (rdN d (sqd t m k c h) + rdN d (sqd t2 m2 k2 c2 h2)) w) := by
  have p1 := rd_bdS (d := d) e
  have p2 := rd_bdS (d := d) e2
  have q1 := wrI (rdN d (sqd t m k c h) + rdN d (sqd t2 m2 k2 c2 h2)) (by omega)
  have HD := Lib.hid hd
  have HE := Lib.hid (And.intro e e2)
  clear p1 p2 e e2 hd
  have H0 := EgH.new w t m k s c h t2 m2 k2 s2 c2 h2 61
  go_enter Try.func77, Try.ntmps77
  go_upto_region 1 with fail
  generalize w.alloc (.cells #[.int .i64 t, .int .i64 m, .int .i64 k, .int .i64 s, .int .i64 c, .int .i64 h, .int .i64 t2, .int .i64 m2, .int .i64 k2, .int .i64 s2, .int .i64 c2, .int .i64 h2] 61) = W0 at *
  go_region_held3 (fun w' => w'.cell? ⟨w.heap.size, 0, none⟩ = some (.int .i64 t) ∧ w'.cell? ⟨w.heap.size, 1, none⟩ = some (.int .i64 m) ∧ w'.cell? ⟨w.heap.size, 2, none⟩ = some (.int .i64 k) ∧ w'.cell? ⟨w.heap.size, 3, none⟩ = some (.int .i64 s) ∧ w'.cell? ⟨w.heap.size, 4, none⟩ = some (.int .i64 c) ∧ w'.cell? ⟨w.heap.size, 5, none⟩ = some (.int .i64 h) ∧ w'.cell? ⟨w.heap.size, 6, none⟩ = some (.int .i64 t2) ∧ w'.cell? ⟨w.heap.size, 7, none⟩ = some (.int .i64 m2) ∧ w'.cell? ⟨w.heap.size, 8, none⟩ = some (.int .i64 k2) ∧ w'.cell? ⟨w.heap.size, 9, none⟩ = some (.int .i64 s2) ∧ w'.cell? ⟨w.heap.size, 10, none⟩ = some (.int .i64 c2) ∧ w'.cell? ⟨w.heap.size, 11, none⟩ = some (.int .i64 h2) ∧ w.heap.size < w'.heap.size ∧ Below w.heap.size w w') (first | exact H0.drew | assumption | exact EgH.keep hb (by assumption))
    (first
      | (go_at_call 78; refine (reach_any _ _ _ _ _ _ _ _ HD.out (by first | exact HE.out.1 | exact HE.out.2)).mono ?_; rintro e w' ⟨rfl, hb⟩))
  have H1 : EgH w w.heap.size t m k s c h t2 m2 k2 s2 c2 h2 w' := by assumption
  have L := Lib.hid H1.bel
  clear hb H0 H1
  go_wp2_with fail
  go_ret
  exact ⟨rfl, L.out⟩
end Go.Proofs.Ytpbmpmcifpgchaa

/-
  The walk of laws.FnExactCompareDate.
-/
import Derived.Test.YtmnkacbolbjliaaCdT
namespace Go.Proofs.Ytmnkacbolbjliaa
open Go.RowKit

/-- Two days in two boxes. -/
def DdL (W0 : World) (p q : Nat) (a0 a1 a2 b0 b1 b2 : Int) (w' : World) : Prop := w'.cell? ⟨p, 0, none⟩ = some (.int .i64 a0) ∧ w'.cell? ⟨p, 1, none⟩ = some (.int .i64 a1) ∧ w'.cell? ⟨p, 2, none⟩ = some (.int .i64 a2) ∧ w'.cell? ⟨q, 0, none⟩ = some (.int .i64 b0) ∧ w'.cell? ⟨q, 1, none⟩ = some (.int .i64 b1) ∧ w'.cell? ⟨q, 2, none⟩ = some (.int .i64 b2) ∧ p < w'.heap.size ∧ q < w'.heap.size ∧ Below W0.heap.size W0 w'
theorem DdL.keep {W0 : World} {p q : Nat} {a0 a1 a2 b0 b1 b2 : Int} {w' w2 : World} (hb : Below w'.heap.size w' w2) (h : DdL W0 p q a0 a1 a2 b0 b1 b2 w') : DdL W0 p q a0 a1 a2 b0 b1 b2 w2 := by
  obtain ⟨c0, c1, c2, d0, d1, d2, e1, e2, e3⟩ := h
  exact ⟨(hb.cell (p := ⟨p, 0, none⟩) e1).trans c0, (hb.cell (p := ⟨p, 1, none⟩) e1).trans c1, (hb.cell (p := ⟨p, 2, none⟩) e1).trans c2, (hb.cell (p := ⟨q, 0, none⟩) e2).trans d0, (hb.cell (p := ⟨q, 1, none⟩) e2).trans d1, (hb.cell (p := ⟨q, 2, none⟩) e2).trans d2, Nat.lt_of_lt_of_le e1 hb.size, Nat.lt_of_lt_of_le e2 hb.size, bT e3 hb⟩
theorem DdL.drew {W0 : World} {p q : Nat} {a0 a1 a2 b0 b1 b2 : Int} {w' : World} (h : DdL W0 p q a0 a1 a2 b0 b1 b2 w') : DdL W0 p q a0 a1 a2 b0 b1 b2 w'.drew := h.keep (bR _).drew
set_option maxRecDepth 100000 in
set_option maxHeartbeats 8000000 in
theorem FnExactCompareDate_walk (a0 a1 a2 b0 b1 b2 : Int) (w : World) :
    Calls Try.prog 10 #[.agg #[.int .i64 a0, .int .i64 a1, .int .i64 a2], .agg #[.int .i64 b0, .int .i64 b1, .int .i64 b2]] w fun e w' => e = .returned (.bool true) ∧ Below w.heap.size w w' := by
  have H0 := Lib.hid (show DdL w w.heap.size (w.heap.size + 1) a0 a1 a2 b0 b1 b2 ((w.alloc (.cells #[.int .i64 a0, .int .i64 a1, .int .i64 a2] 46)).alloc (.cells #[.int .i64 b0, .int .i64 b1, .int .i64 b2] 46)) from by
    obtain ⟨c0, c1, c2, c3⟩ := ((BoxL.new w [.int .i64 a0, .int .i64 a1, .int .i64 a2] 46).alloc (.cells #[.int .i64 b0, .int .i64 b1, .int .i64 b2] 46)).c3
    obtain ⟨d0, d1, d2, d3⟩ := (BoxL.at_ (w := w.alloc (.cells #[.int .i64 a0, .int .i64 a1, .int .i64 a2] 46)) (b := w.heap.size + 1) (vs := [.int .i64 b0, .int .i64 b1, .int .i64 b2]) (T := 46) (by simp)).c3
    exact ⟨c0, c1, c2, d0, d1, d2, c3, d3, bA (bA (bR _) _) _⟩)
  have hne : (cdC a0 a1 a2 b0 b1 b2 != cdC a0 a1 a2 b0 b1 b2) = false := by simp
  go_enter Try.func10, Try.ntmps10
  go_wp2_with fail
  generalize (w.alloc (.cells #[.int .i64 a0, .int .i64 a1, .int .i64 a2] 46)).alloc (.cells #[.int .i64 b0, .int .i64 b1, .int .i64 b2] 46) = W0 at *
  go_region_held3 (fun w' => w'.cell? ⟨w.heap.size, 0, none⟩ = some (.int .i64 a0) ∧ w'.cell? ⟨w.heap.size, 1, none⟩ = some (.int .i64 a1) ∧ w'.cell? ⟨w.heap.size, 2, none⟩ = some (.int .i64 a2) ∧ w'.cell? ⟨w.heap.size + 1, 0, none⟩ = some (.int .i64 b0) ∧ w'.cell? ⟨w.heap.size + 1, 1, none⟩ = some (.int .i64 b1) ∧ w'.cell? ⟨w.heap.size + 1, 2, none⟩ = some (.int .i64 b2) ∧ w.heap.size < w'.heap.size ∧ w.heap.size + 1 < w'.heap.size ∧ Below w.heap.size w w') (first | exact H0.out.drew | exact DdL.keep hb (by first | assumption | exact H0.out.drew))
    (first
      | (go_at_call 29; refine (toDate_any _ _ _ _).mono ?_; rintro e w' ⟨rfl, hb⟩)
      | (go_at_call 28; refine (CompareDateS_any _ _ _ _ _ _ _).mono ?_; rintro e w' ⟨rfl, hb⟩))
  have H1 := Lib.hid (show DdL w w.heap.size (w.heap.size + 1) a0 a1 a2 b0 b1 b2 w' by assumption)
  clear H0 hb
  go_wp2_with fail
  generalize w' = w1 at *
  go_region_held3 (fun w' => w'.cell? ⟨w.heap.size, 0, none⟩ = some (.int .i64 a0) ∧ w'.cell? ⟨w.heap.size, 1, none⟩ = some (.int .i64 a1) ∧ w'.cell? ⟨w.heap.size, 2, none⟩ = some (.int .i64 a2) ∧ w'.cell? ⟨w.heap.size + 1, 0, none⟩ = some (.int .i64 b0) ∧ w'.cell? ⟨w.heap.size + 1, 1, none⟩ = some (.int .i64 b1) ∧ w'.cell? ⟨w.heap.size + 1, 2, none⟩ = some (.int .i64 b2) ∧ w.heap.size < w'.heap.size ∧ w.heap.size + 1 < w'.heap.size ∧ Below w.heap.size w w') (first | exact H1.out.drew | exact DdL.keep hb (by first | assumption | exact H1.out.drew))
    (first
      | (go_at_call 29; refine (toDate_any _ _ _ _).mono ?_; rintro e w' ⟨rfl, hb⟩)
      | (go_at_call 30; refine (CompareDateI_any _ _ _ _ _ _ _).mono ?_; rintro e w' ⟨rfl, hb⟩))
  have H2 := Lib.hid (show DdL w w.heap.size (w.heap.size + 1) a0 a1 a2 b0 b1 b2 w' by assumption)
  clear H1 hb
  generalize cdC a0 a1 a2 b0 b1 b2 = q at *
  go_wp2_with fail
  go_ret
  exact ⟨rfl, H2.out.2.2.2.2.2.2.2.2⟩
end Go.Proofs.Ytmnkacbolbjliaa

/-
  The walk of laws.FnExactContactBounds.
-/
import Derived.Test.YtpbmpmcifpgchaaCtf
namespace Go.Proofs.Ytpbmpmcifpgchaa
open Go.RowKit

set_option maxRecDepth 100000 in
set_option maxHeartbeats 2000000 in
theorem FnExactContactBounds_walk (t m k s c h t2 m2 k2 s2 c2 h2 : Int) (w : World) :
    Calls Try.prog 5 #[.agg #[.int .i64 t, .int .i64 m, .int .i64 k, .int .i64 s, .int .i64 c, .int .i64 h], .agg #[.int .i64 t2, .int .i64 m2, .int .i64 k2, .int .i64 s2, .int .i64 c2, .int .i64 h2]] w fun e w' => e = .returned (.bool true) ∧ Below w.heap.size w w' := by
  have CS := Lib.hid (fun W => ContactBoundsS_any t m k s c h t2 m2 k2 s2 c2 h2 W)
  have CI := Lib.hid (fun W => ContactBoundsI_any t m k s c h t2 m2 k2 s2 c2 h2 W)
  generalize cbN t m k s c h t2 m2 k2 s2 c2 h2 = r at *
  obtain ⟨r0, r1, r2⟩ := r
  simp only at CS CI
  have n0 : (r0 != r0) = false := by simp
  have n1 : (r1 != r1) = false := by simp
  have n2 : (r2 != r2) = false := by simp
  have H0 := PwH.new w t m k s c h t2 m2 k2 s2 c2 h2 25 25
  go_enter Try.func5, Try.ntmps5
  go_upto_region 1 with fail
  generalize (w.alloc (.cells #[.int .i64 t, .int .i64 m, .int .i64 k, .int .i64 s, .int .i64 c, .int .i64 h] 25)).alloc (.cells #[.int .i64 t2, .int .i64 m2, .int .i64 k2, .int .i64 s2, .int .i64 c2, .int .i64 h2] 25) = W0 at *
  generalize w.heap.size + 1 = b2 at *
  go_region_held3 (fun w' => w'.cell? ⟨w.heap.size, 0, none⟩ = some (.int .i64 t) ∧ w'.cell? ⟨w.heap.size, 1, none⟩ = some (.int .i64 m) ∧ w'.cell? ⟨w.heap.size, 2, none⟩ = some (.int .i64 k) ∧ w'.cell? ⟨w.heap.size, 3, none⟩ = some (.int .i64 s) ∧ w'.cell? ⟨w.heap.size, 4, none⟩ = some (.int .i64 c) ∧ w'.cell? ⟨w.heap.size, 5, none⟩ = some (.int .i64 h) ∧ w'.cell? ⟨b2, 0, none⟩ = some (.int .i64 t2) ∧ w'.cell? ⟨b2, 1, none⟩ = some (.int .i64 m2) ∧ w'.cell? ⟨b2, 2, none⟩ = some (.int .i64 k2) ∧ w'.cell? ⟨b2, 3, none⟩ = some (.int .i64 s2) ∧ w'.cell? ⟨b2, 4, none⟩ = some (.int .i64 c2) ∧ w'.cell? ⟨b2, 5, none⟩ = some (.int .i64 h2) ∧ w.heap.size < w'.heap.size ∧ b2 < w'.heap.size ∧ Below w.heap.size w w') (first | exact H0.drew | assumption | exact PwH.keep hb (by assumption))
    (first
      | (go_at_call 11; refine (toProfile_any _ _ _ _ _ _ _).mono ?_; rintro e w' ⟨rfl, hb⟩)
      | (go_at_call 15; refine (CS.out _).mono ?_; rintro e w' ⟨rfl, hb⟩))
  have H1 : PwH w w.heap.size b2 t m k s c h t2 m2 k2 s2 c2 h2 w' := by assumption
  clear hb H0
  go_upto_region 2 with fail
  generalize w' = W1 at *
  go_region_held3 (fun w' => w'.cell? ⟨w.heap.size, 0, none⟩ = some (.int .i64 t) ∧ w'.cell? ⟨w.heap.size, 1, none⟩ = some (.int .i64 m) ∧ w'.cell? ⟨w.heap.size, 2, none⟩ = some (.int .i64 k) ∧ w'.cell? ⟨w.heap.size, 3, none⟩ = some (.int .i64 s) ∧ w'.cell? ⟨w.heap.size, 4, none⟩ = some (.int .i64 c) ∧ w'.cell? ⟨w.heap.size, 5, none⟩ = some (.int .i64 h) ∧ w'.cell? ⟨b2, 0, none⟩ = some (.int .i64 t2) ∧ w'.cell? ⟨b2, 1, none⟩ = some (.int .i64 m2) ∧ w'.cell? ⟨b2, 2, none⟩ = some (.int .i64 k2) ∧ w'.cell? ⟨b2, 3, none⟩ = some (.int .i64 s2) ∧ w'.cell? ⟨b2, 4, none⟩ = some (.int .i64 c2) ∧ w'.cell? ⟨b2, 5, none⟩ = some (.int .i64 h2) ∧ w.heap.size < w'.heap.size ∧ b2 < w'.heap.size ∧ Below w.heap.size w w') (first | exact H1.drew | assumption | exact PwH.keep hb (by assumption))
    (first
      | (go_at_call 11; refine (toProfile_any _ _ _ _ _ _ _).mono ?_; rintro e w' ⟨rfl, hb⟩)
      | (go_at_call 16; refine (CI.out _).mono ?_; rintro e w' ⟨rfl, hb⟩))
  have H2 : PwH w w.heap.size b2 t m k s c h t2 m2 k2 s2 c2 h2 w' := by assumption
  have L := Lib.hid H2.bel
  clear hb H1 H2
  go_wp2_with fail
  go_ret
  exact ⟨rfl, L.out⟩
end Go.Proofs.Ytpbmpmcifpgchaa


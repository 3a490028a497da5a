/-
  The walks of laws.FnExactValidEscapement, ValidBeat, SteadyEnergy, StopAfter, LeastTorque.
-/
import Derived.Test.YtlgbkkbaiamapaaEsM
import Derived.Test.YtlgbkkbaiamapaaEsC
import Derived.Test.YtlgbkkbaiamapaaAgg
namespace Go.Proofs.Ytlgbkkbaiamapaa
open Go.RowKit

set_option maxRecDepth 100000 in
set_option maxHeartbeats 2000000 in
theorem FnExactValidEscapement_walk (t u i l m : Int) (w : World) :
    Calls Try.prog 3 #[.agg #[.int .i64 t, .int .i64 u, .int .i64 i, .int .i64 l, .int .i64 m]] w fun e w' => e = .returned (.bool true) ∧ Below w.heap.size w w' := by
  have CS := Lib.hid (fun W => ValidEscapementS_any t u i l m W)
  have CI := Lib.hid (fun W => ValidEscapementI_any t u i l m W)
  generalize okEs t u i l m = r at *
  have n0 : (r != r) = false := by simp
  have H0 := Lib.hid (EsH.new w t u i l m 23)
  go_enter Try.func3, Try.ntmps3
  go_wp2_with fail
  refine (toEscapement_any _ _ _ _ _ _).mono ?_
  rintro en w1 ⟨rfl, hb⟩
  have H1 := Lib.hid (H0.out.keep hb)
  clear hb H0
  obtain ⟨c0, c1, c2, c3, c4, c5⟩ := H1.out.1.c5
  go_wp2_with fail
  refine (CS.out _).mono ?_
  rintro en w2 ⟨rfl, hb⟩
  have H2 := Lib.hid (H1.out.keep hb)
  clear hb c0 c1 c2 c3 c4 c5 H1
  obtain ⟨c0, c1, c2, c3, c4, c5⟩ := H2.out.1.c5
  go_wp2_with fail
  refine (toEscapement_any _ _ _ _ _ _).mono ?_
  rintro en w3 ⟨rfl, hb⟩
  have H3 := Lib.hid (H2.out.keep hb)
  clear hb c0 c1 c2 c3 c4 c5 H2
  obtain ⟨c0, c1, c2, c3, c4, c5⟩ := H3.out.1.c5
  go_wp2_with fail
  refine (CI.out _).mono ?_
  rintro en w4 ⟨rfl, hb⟩
  have H4 := Lib.hid (H3.out.keep hb)
  clear hb c0 c1 c2 c3 c4 c5 H3
  obtain ⟨c0, c1, c2, c3, c4, c5⟩ := H4.out.1.c5
  go_wp2_with fail
  go_ret
  exact ⟨rfl, H4.out.2⟩
set_option maxRecDepth 100000 in
set_option maxHeartbeats 2000000 in
theorem FnExactValidBeat_walk (t u i l m : Int) (e k : Int) (w : World) :
    Calls Try.prog 4 #[.agg #[.int .i64 t, .int .i64 u, .int .i64 i, .int .i64 l, .int .i64 m], .agg #[.int .i64 e, .int .i64 k]] w fun e w' => e = .returned (.bool true) ∧ Below w.heap.size w w' := by
  have CS := Lib.hid (fun W => ValidBeatS_any t u i l m e k W)
  have CI := Lib.hid (fun W => ValidBeatI_any t u i l m e k W)
  generalize okBt t u i l m e k = r at *
  have n0 : (r != r) = false := by simp
  have H0 := EbC.new w t u i l m e k 23 29
  go_enter Try.func4, Try.ntmps4
  go_upto_region 1 with fail
  generalize (w.alloc (.cells #[.int .i64 t, .int .i64 u, .int .i64 i, .int .i64 l, .int .i64 m] 23)).alloc (.cells #[.int .i64 e, .int .i64 k] 29) = W0 at *
  generalize w.heap.size + 1 = b2 at *
  go_region_held3 (fun w' => w'.cell? ⟨w.heap.size, 0, none⟩ = some (.int .i64 t) ∧ w'.cell? ⟨w.heap.size, 1, none⟩ = some (.int .i64 u) ∧ w'.cell? ⟨w.heap.size, 2, none⟩ = some (.int .i64 i) ∧ w'.cell? ⟨w.heap.size, 3, none⟩ = some (.int .i64 l) ∧ w'.cell? ⟨w.heap.size, 4, none⟩ = some (.int .i64 m) ∧ w'.cell? ⟨b2, 0, none⟩ = some (.int .i64 e) ∧ w'.cell? ⟨b2, 1, none⟩ = some (.int .i64 k) ∧ w.heap.size < w'.heap.size ∧ b2 < w'.heap.size ∧ Below w.heap.size w w') (first | exact H0.drew | assumption | exact EbC.keep hb (by assumption))
    (first
      | (go_at_call 12; refine (toEscapement_any _ _ _ _ _ _).mono ?_; rintro e w' ⟨rfl, hb⟩)
      | (go_at_call 15; refine (toBeat_any _ _ _).mono ?_; rintro e w' ⟨rfl, hb⟩)
      | (go_at_call 14; refine (CS.out _).mono ?_; rintro e w' ⟨rfl, hb⟩))
  have H1 : EbC w w.heap.size b2 t u i l m e k w' := by assumption
  clear hb H0
  go_upto_region 2 with fail
  generalize w' = W1 at *
  go_region_held3 (fun w' => w'.cell? ⟨w.heap.size, 0, none⟩ = some (.int .i64 t) ∧ w'.cell? ⟨w.heap.size, 1, none⟩ = some (.int .i64 u) ∧ w'.cell? ⟨w.heap.size, 2, none⟩ = some (.int .i64 i) ∧ w'.cell? ⟨w.heap.size, 3, none⟩ = some (.int .i64 l) ∧ w'.cell? ⟨w.heap.size, 4, none⟩ = some (.int .i64 m) ∧ w'.cell? ⟨b2, 0, none⟩ = some (.int .i64 e) ∧ w'.cell? ⟨b2, 1, none⟩ = some (.int .i64 k) ∧ w.heap.size < w'.heap.size ∧ b2 < w'.heap.size ∧ Below w.heap.size w w') (first | exact H1.drew | assumption | exact EbC.keep hb (by assumption))
    (first
      | (go_at_call 12; refine (toEscapement_any _ _ _ _ _ _).mono ?_; rintro e w' ⟨rfl, hb⟩)
      | (go_at_call 15; refine (toBeat_any _ _ _).mono ?_; rintro e w' ⟨rfl, hb⟩)
      | (go_at_call 16; refine (CI.out _).mono ?_; rintro e w' ⟨rfl, hb⟩))
  have H2 : EbC w w.heap.size b2 t u i l m e k w' := by assumption
  clear hb H1
  have L := Lib.hid H2.bel
  clear H2
  go_wp2_with fail
  go_ret
  exact ⟨rfl, L.out⟩
set_option maxRecDepth 100000 in
set_option maxHeartbeats 2000000 in
theorem FnExactSteadyEnergy_walk (t u i l m : Int) (q : Int) (w : World) (_hq : -9223372036854775808 ≤ q ∧ q ≤ 9223372036854775807) :
    Calls Try.prog 8 #[.agg #[.int .i64 t, .int .i64 u, .int .i64 i, .int .i64 l, .int .i64 m], .int .i64 q] w fun e w' => e = .returned (.bool true) ∧ Below w.heap.size w w' := by
  have CS := Lib.hid (fun W => SteadyEnergyS_any t u i l m q W)
  have CI := Lib.hid (fun W => SteadyEnergyI_any t u i l m q W)
  generalize sdE t u i l m q = r at *
  obtain ⟨r0, r1⟩ := r
  simp only at CS CI
  have n0 : (r0 != r0) = false := by simp
  have n1 : (r1 != r1) = false := by simp
  have H0 := Lib.hid (EsH.new w t u i l m 23)
  go_enter Try.func8, Try.ntmps8
  go_wp2_with fail
  refine (toEscapement_any _ _ _ _ _ _).mono ?_
  rintro en w1 ⟨rfl, hb⟩
  have H1 := Lib.hid (H0.out.keep hb)
  clear hb H0
  obtain ⟨c0, c1, c2, c3, c4, c5⟩ := H1.out.1.c5
  go_wp2_with fail
  refine (CS.out _).mono ?_
  rintro en w2 ⟨rfl, hb⟩
  have H2 := Lib.hid (H1.out.keep hb)
  clear hb c0 c1 c2 c3 c4 c5 H1
  obtain ⟨c0, c1, c2, c3, c4, c5⟩ := H2.out.1.c5
  go_wp2_with fail
  refine (toEscapement_any _ _ _ _ _ _).mono ?_
  rintro en w3 ⟨rfl, hb⟩
  have H3 := Lib.hid (H2.out.keep hb)
  clear hb c0 c1 c2 c3 c4 c5 H2
  obtain ⟨c0, c1, c2, c3, c4, c5⟩ := H3.out.1.c5
  go_wp2_with fail
  refine (CI.out _).mono ?_
  rintro en w4 ⟨rfl, hb⟩
  have H4 := Lib.hid (H3.out.keep hb)
  clear hb c0 c1 c2 c3 c4 c5 H3
  obtain ⟨c0, c1, c2, c3, c4, c5⟩ := H4.out.1.c5
  go_wp2_with fail
  go_ret
  exact ⟨rfl, H4.out.2⟩
set_option maxRecDepth 100000 in
set_option maxHeartbeats 2000000 in
theorem FnExactStopAfter_walk (t u i l m : Int) (q : Int) (e k : Int) (w : World) (_hq : -9223372036854775808 ≤ q ∧ q ≤ 9223372036854775807) :
    Calls Try.prog 9 #[.agg #[.int .i64 t, .int .i64 u, .int .i64 i, .int .i64 l, .int .i64 m], .int .i64 q, .agg #[.int .i64 e, .int .i64 k]] w fun e w' => e = .returned (.bool true) ∧ Below w.heap.size w w' := by
  have CS := Lib.hid (fun W => StopAfterS_any t u i l m q e k W)
  have CI := Lib.hid (fun W => StopAfterI_any t u i l m q e k W)
  generalize stE t u i l m q e k = r at *
  obtain ⟨r0, r1⟩ := r
  simp only at CS CI
  have n0 : (r0 != r0) = false := by simp
  have n1 : (r1 != r1) = false := by simp
  have H0 := EbC.new w t u i l m e k 23 29
  go_enter Try.func9, Try.ntmps9
  go_upto_region 1 with fail
  generalize (w.alloc (.cells #[.int .i64 t, .int .i64 u, .int .i64 i, .int .i64 l, .int .i64 m] 23)).alloc (.cells #[.int .i64 e, .int .i64 k] 29) = W0 at *
  generalize w.heap.size + 1 = b2 at *
  go_region_held3 (fun w' => w'.cell? ⟨w.heap.size, 0, none⟩ = some (.int .i64 t) ∧ w'.cell? ⟨w.heap.size, 1, none⟩ = some (.int .i64 u) ∧ w'.cell? ⟨w.heap.size, 2, none⟩ = some (.int .i64 i) ∧ w'.cell? ⟨w.heap.size, 3, none⟩ = some (.int .i64 l) ∧ w'.cell? ⟨w.heap.size, 4, none⟩ = some (.int .i64 m) ∧ w'.cell? ⟨b2, 0, none⟩ = some (.int .i64 e) ∧ w'.cell? ⟨b2, 1, none⟩ = some (.int .i64 k) ∧ w.heap.size < w'.heap.size ∧ b2 < w'.heap.size ∧ Below w.heap.size w w') (first | exact H0.drew | assumption | exact EbC.keep hb (by assumption))
    (first
      | (go_at_call 12; refine (toEscapement_any _ _ _ _ _ _).mono ?_; rintro e w' ⟨rfl, hb⟩)
      | (go_at_call 15; refine (toBeat_any _ _ _).mono ?_; rintro e w' ⟨rfl, hb⟩)
      | (go_at_call 30; refine (CS.out _).mono ?_; rintro e w' ⟨rfl, hb⟩))
  have H1 : EbC w w.heap.size b2 t u i l m e k w' := by assumption
  clear hb H0
  go_upto_region 2 with fail
  generalize w' = W1 at *
  go_region_held3 (fun w' => w'.cell? ⟨w.heap.size, 0, none⟩ = some (.int .i64 t) ∧ w'.cell? ⟨w.heap.size, 1, none⟩ = some (.int .i64 u) ∧ w'.cell? ⟨w.heap.size, 2, none⟩ = some (.int .i64 i) ∧ w'.cell? ⟨w.heap.size, 3, none⟩ = some (.int .i64 l) ∧ w'.cell? ⟨w.heap.size, 4, none⟩ = some (.int .i64 m) ∧ w'.cell? ⟨b2, 0, none⟩ = some (.int .i64 e) ∧ w'.cell? ⟨b2, 1, none⟩ = some (.int .i64 k) ∧ w.heap.size < w'.heap.size ∧ b2 < w'.heap.size ∧ Below w.heap.size w w') (first | exact H1.drew | assumption | exact EbC.keep hb (by assumption))
    (first
      | (go_at_call 12; refine (toEscapement_any _ _ _ _ _ _).mono ?_; rintro e w' ⟨rfl, hb⟩)
      | (go_at_call 15; refine (toBeat_any _ _ _).mono ?_; rintro e w' ⟨rfl, hb⟩)
      | (go_at_call 31; refine (CI.out _).mono ?_; rintro e w' ⟨rfl, hb⟩))
  have H2 : EbC w w.heap.size b2 t u i l m e k w' := by assumption
  clear hb H1
  have L := Lib.hid H2.bel
  clear H2
  go_wp2_with fail
  go_ret
  exact ⟨rfl, L.out⟩
set_option maxRecDepth 100000 in
set_option maxHeartbeats 2000000 in
theorem FnExactLeastTorque_walk (t u i l m : Int) (n : Int) (e k : Int) (w : World) (_hn : -9223372036854775808 ≤ n ∧ n ≤ 9223372036854775807) :
    Calls Try.prog 10 #[.agg #[.int .i64 t, .int .i64 u, .int .i64 i, .int .i64 l, .int .i64 m], .int .i64 n, .agg #[.int .i64 e, .int .i64 k]] w fun e w' => e = .returned (.bool true) ∧ Below w.heap.size w w' := by
  have CS := Lib.hid (fun W => LeastTorqueS_any t u i l m n e k W)
  have CI := Lib.hid (fun W => LeastTorqueI_any t u i l m n e k W)
  generalize ltE t u i l m n e k = r at *
  obtain ⟨r0, r1⟩ := r
  simp only at CS CI
  have n0 : (r0 != r0) = false := by simp
  have n1 : (r1 != r1) = false := by simp
  have H0 := EbC.new w t u i l m e k 23 29
  go_enter Try.func10, Try.ntmps10
  go_upto_region 1 with fail
  generalize (w.alloc (.cells #[.int .i64 t, .int .i64 u, .int .i64 i, .int .i64 l, .int .i64 m] 23)).alloc (.cells #[.int .i64 e, .int .i64 k] 29) = W0 at *
  generalize w.heap.size + 1 = b2 at *
  go_region_held3 (fun w' => w'.cell? ⟨w.heap.size, 0, none⟩ = some (.int .i64 t) ∧ w'.cell? ⟨w.heap.size, 1, none⟩ = some (.int .i64 u) ∧ w'.cell? ⟨w.heap.size, 2, none⟩ = some (.int .i64 i) ∧ w'.cell? ⟨w.heap.size, 3, none⟩ = some (.int .i64 l) ∧ w'.cell? ⟨w.heap.size, 4, none⟩ = some (.int .i64 m) ∧ w'.cell? ⟨b2, 0, none⟩ = some (.int .i64 e) ∧ w'.cell? ⟨b2, 1, none⟩ = some (.int .i64 k) ∧ w.heap.size < w'.heap.size ∧ b2 < w'.heap.size ∧ Below w.heap.size w w') (first | exact H0.drew | assumption | exact EbC.keep hb (by assumption))
    (first
      | (go_at_call 12; refine (toEscapement_any _ _ _ _ _ _).mono ?_; rintro e w' ⟨rfl, hb⟩)
      | (go_at_call 15; refine (toBeat_any _ _ _).mono ?_; rintro e w' ⟨rfl, hb⟩)
      | (go_at_call 32; refine (CS.out _).mono ?_; rintro e w' ⟨rfl, hb⟩))
  have H1 : EbC w w.heap.size b2 t u i l m e k w' := by assumption
  clear hb H0
  go_upto_region 2 with fail
  generalize w' = W1 at *
  go_region_held3 (fun w' => w'.cell? ⟨w.heap.size, 0, none⟩ = some (.int .i64 t) ∧ w'.cell? ⟨w.heap.size, 1, none⟩ = some (.int .i64 u) ∧ w'.cell? ⟨w.heap.size, 2, none⟩ = some (.int .i64 i) ∧ w'.cell? ⟨w.heap.size, 3, none⟩ = some (.int .i64 l) ∧ w'.cell? ⟨w.heap.size, 4, none⟩ = some (.int .i64 m) ∧ w'.cell? ⟨b2, 0, none⟩ = some (.int .i64 e) ∧ w'.cell? ⟨b2, 1, none⟩ = some (.int .i64 k) ∧ w.heap.size < w'.heap.size ∧ b2 < w'.heap.size ∧ Below w.heap.size w w') (first | exact H1.drew | assumption | exact EbC.keep hb (by assumption))
    (first
      | (go_at_call 12; refine (toEscapement_any _ _ _ _ _ _).mono ?_; rintro e w' ⟨rfl, hb⟩)
      | (go_at_call 15; refine (toBeat_any _ _ _).mono ?_; rintro e w' ⟨rfl, hb⟩)
      | (go_at_call 33; refine (CI.out _).mono ?_; rintro e w' ⟨rfl, hb⟩))
  have H2 : EbC w w.heap.size b2 t u i l m e k w' := by assumption
  clear hb H1
  have L := Lib.hid H2.bel
  clear H2
  go_wp2_with fail
  go_ret
  exact ⟨rfl, L.out⟩
end Go.Proofs.Ytlgbkkbaiamapaa


/-
  The walk of laws.FnExactSimplestBetween.
-/
import Derived.Test.YthnfkkfonabhkaaCarry
import Derived.Test.YthnfkkfonabhkaaSmpJ
namespace Go.Proofs.Ythnfkkfonabhkaa
open Go.RowKit
set_option maxHeartbeats 4000000 in
theorem FnExactSimplestBetween_walk (n d p q : Int) (w : World) (_h1 : -9223372036854775808 ≤ n ∧ n ≤ 9223372036854775807) (_h2 : -9223372036854775808 ≤ d ∧ d ≤ 9223372036854775807) (_h3 : -9223372036854775808 ≤ p ∧ p ≤ 9223372036854775807) (_h4 : -9223372036854775808 ≤ q ∧ q ≤ 9223372036854775807) :
    Calls Try.prog 9 #[.agg #[.int .i64 n, .int .i64 d], .agg #[.int .i64 p, .int .i64 q]] w fun e w' => e = .returned (.bool true) ∧ Below w.heap.size w w' := by
  clear _h1 _h2 _h3 _h4
  go_enter Try.func9, Try.ntmps9
  go_upto_region 1 with fail
  have hT0 := Lib.hid (TwoR.start w n d p q 23 23)
  generalize ((w.alloc (.cells #[.int .i64 n, .int .i64 d] 23)).alloc (.cells #[.int .i64 p, .int .i64 q] 23)) = W0 at hT0 ⊢
  have hq0 := hT0.out.2.2.2.2.1
  go_cut [5, 6] (fun s5 s6 wx => Cut1 w n d p q (sbA n d p q) (sbB n d p q) (sbC n d p q) s5 s6 wx)
  case first =>
    go_region_held3 (fun w' => w'.cell? ⟨w.heap.size, 0, none⟩ = some (.int .i64 n) ∧ w'.cell? ⟨w.heap.size, 1, none⟩ = some (.int .i64 d) ∧ w'.cell? ⟨w.heap.size + 1, 0, none⟩ = some (.int .i64 p) ∧ w'.cell? ⟨w.heap.size + 1, 1, none⟩ = some (.int .i64 q) ∧ w.heap.size + 1 < w'.heap.size ∧ Below w.heap.size w w') (first | exact TwoR.drew hT0.out | exact TwoR.keep hb (by assumption) | exact TwoR.alloc (by assumption) _ | exact TwoR.alloc (Hid.out (by assumption)) _ | exact TwoR.store (by omega) (TwoR.store (by omega) (by assumption)))
      (first
        | (go_at_call 12; refine (toRatio_any _ _ _).mono ?_; rintro e w' ⟨rfl, hb⟩; have hT := Lib.hid (show TwoR w n d p q w' from TwoR.keep hb (by assumption)); have hq := hT.out.2.2.2.2.1; obtain ⟨hc, hf⟩ := bcell hb; have hz := bless hb; try (have z0 : W0.heap.size < w'.heap.size := ?hz0; case hz0 => (apply hz; first | assumption | (simp; done))); try (have m0 : w'.cell? ⟨W0.heap.size, 0, none⟩ = some (.int .i64 0) := ?hm0; case hm0 => (rw [hc _ _ ?sm0]; (first | assumption | (simp [go_sem]; done)); case sm0 => (first | assumption | (simp; done)))); try (have m1 : w'.cell? ⟨W0.heap.size, 1, none⟩ = some (.int .i64 0) := ?hm1; case hm1 => (rw [hc _ _ ?sm1]; (first | assumption | (simp [go_sem]; done)); case sm1 => (first | assumption | (simp; done)))); try (have f0 : w'.frozen? ⟨W0.heap.size, 0, none⟩ = false := ?hf0; case hf0 => (rw [hf _ _ ?sf0]; (first | assumption | (simp [go_sem]; done)); case sf0 => (first | assumption | (simp; done)))); try (have f1 : w'.frozen? ⟨W0.heap.size, 1, none⟩ = false := ?hf1; case hf1 => (rw [hf _ _ ?sf1]; (first | assumption | (simp [go_sem]; done)); case sf1 => (first | assumption | (simp; done)))))
        | (go_at_call 34; refine (SimplestBetweenS_any _ _ _ _ _).mono ?_; rintro e w' ⟨rfl, hb⟩; have hT := Lib.hid (show TwoR w n d p q w' from TwoR.keep hb (by assumption)); have hq := hT.out.2.2.2.2.1; obtain ⟨hc, hf⟩ := bcell hb; have hz := bless hb; try (have z0 : W0.heap.size < w'.heap.size := ?hz0; case hz0 => (apply hz; first | assumption | (simp; done))); try (have m0 : w'.cell? ⟨W0.heap.size, 0, none⟩ = some (.int .i64 0) := ?hm0; case hm0 => (rw [hc _ _ ?sm0]; (first | assumption | (simp [go_sem]; done)); case sm0 => (first | assumption | (simp; done)))); try (have m1 : w'.cell? ⟨W0.heap.size, 1, none⟩ = some (.int .i64 0) := ?hm1; case hm1 => (rw [hc _ _ ?sm1]; (first | assumption | (simp [go_sem]; done)); case sm1 => (first | assumption | (simp; done)))); try (have f0 : w'.frozen? ⟨W0.heap.size, 0, none⟩ = false := ?hf0; case hf0 => (rw [hf _ _ ?sf0]; (first | assumption | (simp [go_sem]; done)); case sf0 => (first | assumption | (simp; done)))); try (have f1 : w'.frozen? ⟨W0.heap.size, 1, none⟩ = false := ?hf1; case hf1 => (rw [hf _ _ ?sf1]; (first | assumption | (simp [go_sem]; done)); case sf1 => (first | assumption | (simp; done))))))
    all_goals (go_wp2_with fail; go_meet; refine ⟨_, rfl, rfl, ?_⟩)
    all_goals first | exact ThreeR.start hT.out _ _ _ | refine ⟨by assumption, ?_, ?_, ?_⟩
    all_goals ((try simp only [size_set]); first | assumption | (simp (config := { maxDischargeDepth := 8 }) [*, go_sem]; done) | (go_simp; done))
  case rest =>
    obtain ⟨k, rfl, rfl, hU⟩ := hcut
    have HU := Lib.hid hU
    clear hU
    have hq0 := HU.out.1.2.2.2.2.1
    have hqk0 := HU.out.2.2.2
    have hne : ((sbC n d p q) != (sbC n d p q)) = false := by simp
    go_upto_region 2 with fail
    go_cut [7, 8] (fun s7 s8 wx => Cut2 w k (sbA n d p q) (sbB n d p q) (sbC n d p q) s7 s8 wx)
    case first =>
      go_region_held3 (fun w' => (w'.cell? ⟨w.heap.size, 0, none⟩ = some (.int .i64 n) ∧ w'.cell? ⟨w.heap.size, 1, none⟩ = some (.int .i64 d) ∧ w'.cell? ⟨w.heap.size + 1, 0, none⟩ = some (.int .i64 p) ∧ w'.cell? ⟨w.heap.size + 1, 1, none⟩ = some (.int .i64 q) ∧ w.heap.size + 1 < w'.heap.size ∧ Below w.heap.size w w') ∧ w'.cell? ⟨k, 0, none⟩ = some (.int .i64 (sbA n d p q)) ∧ w'.cell? ⟨k, 1, none⟩ = some (.int .i64 (sbB n d p q)) ∧ k < w'.heap.size) (first | exact ThreeR.drew HU.out | exact ThreeR.keep hb (by assumption) | exact ThreeR.alloc (by assumption) _ | exact ThreeR.alloc (Hid.out (by assumption)) _ | exact ThreeR.store (by omega) (by omega) (ThreeR.store (by omega) (by omega) (by assumption)))
        (first
          | (go_at_call 12; refine (toRatio_any _ _ _).mono ?_; rintro e w' ⟨rfl, hb⟩; have hT := Lib.hid (show ThreeR w n d p q k (sbA n d p q) (sbB n d p q) w' from ThreeR.keep hb (by assumption)); have hq := hT.out.1.2.2.2.2.1; have hqk := hT.out.2.2.2; obtain ⟨hc, hf⟩ := bcell hb; have hz := bless hb; try (have z0 : wc.heap.size < w'.heap.size := ?hz0; case hz0 => (apply hz; first | assumption | (simp; done))); try (have m0 : w'.cell? ⟨wc.heap.size, 0, none⟩ = some (.int .i64 0) := ?hm0; case hm0 => (rw [hc _ _ ?sm0]; (first | assumption | (simp [go_sem]; done)); case sm0 => (first | assumption | (simp; done)))); try (have m1 : w'.cell? ⟨wc.heap.size, 1, none⟩ = some (.int .i64 0) := ?hm1; case hm1 => (rw [hc _ _ ?sm1]; (first | assumption | (simp [go_sem]; done)); case sm1 => (first | assumption | (simp; done)))); try (have f0 : w'.frozen? ⟨wc.heap.size, 0, none⟩ = false := ?hf0; case hf0 => (rw [hf _ _ ?sf0]; (first | assumption | (simp [go_sem]; done)); case sf0 => (first | assumption | (simp; done)))); try (have f1 : w'.frozen? ⟨wc.heap.size, 1, none⟩ = false := ?hf1; case hf1 => (rw [hf _ _ ?sf1]; (first | assumption | (simp [go_sem]; done)); case sf1 => (first | assumption | (simp; done)))))
          | (go_at_call 35; refine (SimplestBetweenI_any _ _ _ _ _).mono ?_; rintro e w' ⟨rfl, hb⟩; have hT := Lib.hid (show ThreeR w n d p q k (sbA n d p q) (sbB n d p q) w' from ThreeR.keep hb (by assumption)); have hq := hT.out.1.2.2.2.2.1; have hqk := hT.out.2.2.2; obtain ⟨hc, hf⟩ := bcell hb; have hz := bless hb; try (have z0 : wc.heap.size < w'.heap.size := ?hz0; case hz0 => (apply hz; first | assumption | (simp; done))); try (have m0 : w'.cell? ⟨wc.heap.size, 0, none⟩ = some (.int .i64 0) := ?hm0; case hm0 => (rw [hc _ _ ?sm0]; (first | assumption | (simp [go_sem]; done)); case sm0 => (first | assumption | (simp; done)))); try (have m1 : w'.cell? ⟨wc.heap.size, 1, none⟩ = some (.int .i64 0) := ?hm1; case hm1 => (rw [hc _ _ ?sm1]; (first | assumption | (simp [go_sem]; done)); case sm1 => (first | assumption | (simp; done)))); try (have f0 : w'.frozen? ⟨wc.heap.size, 0, none⟩ = false := ?hf0; case hf0 => (rw [hf _ _ ?sf0]; (first | assumption | (simp [go_sem]; done)); case sf0 => (first | assumption | (simp; done)))); try (have f1 : w'.frozen? ⟨wc.heap.size, 1, none⟩ = false := ?hf1; case hf1 => (rw [hf _ _ ?sf1]; (first | assumption | (simp [go_sem]; done)); case sf1 => (first | assumption | (simp; done))))))
      all_goals (go_wp2_with fail; go_meet; refine ⟨_, rfl, rfl, ?_, ?_, ?_, ?_, ?_⟩)
      all_goals ((try simp only [size_set]); first | assumption | (simp (config := { maxDischargeDepth := 8 }) [*, go_sem]; done) | (go_simp; done) | exact ((ThreeR.alloc hT.out _).2.1) | exact ((ThreeR.alloc hT.out _).2.2.1) | exact ((ThreeR.alloc hT.out _).bel))
    case rest =>
      obtain ⟨k7, rfl, rfl, e1, e2, e3, e4, hB⟩ := hcut
      go_wp2_with fail
      refine (eqRatio_same _ _ _).mono ?_
      rintro e w3 ⟨rfl, hb3⟩
      go_wp2_with fail
      go_ret
      exact ⟨rfl, bT hB hb3⟩
end Go.Proofs.Ythnfkkfonabhkaa

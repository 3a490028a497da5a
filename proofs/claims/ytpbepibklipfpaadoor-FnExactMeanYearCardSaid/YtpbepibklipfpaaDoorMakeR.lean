/-
  The contracts of impl.ratioCode and impl.MakeRatio, in a world in which the two sentinels of package impl are laid.
-/
import Derived.Test.YtpbepibklipfpaaDoorMakeI
import Derived.Deep.RegionWith
namespace Go.Proofs.YtpbepibklipfpaaDoor
open Go.RowKit

theorem code_nil (w : World) :
    Calls Tryd.prog 79 #[.nilIface] w fun e w' => e = .returned (.int .i64 0) ∧ w = w' := by
  go_enter Tryd.func79, Tryd.ntmps79
  go_wp2_with fail
  go_ret
  exact ⟨rfl, rfl⟩
theorem code_range (w : World) (a0 a1 : Addr) (hS : Sent w a0 a1) :
    Calls Tryd.prog 79 #[.iface 224 (.pointer (some a1))] w fun e w' => e = .returned (.int .i64 2) ∧ w = w' := by
  have hv := hS.v1
  clear hS
  go_enter Tryd.func79, Tryd.ntmps79
  go_wp2_with fail
  refine (is_same _ _).mono ?_
  rintro e w' ⟨rfl, rfl⟩
  go_wp2_with fail
  go_ret
  exact ⟨rfl, rfl⟩
theorem code_state (w : World) (a0 a1 : Addr) (hS : Sent w a0 a1) :
    Calls Tryd.prog 79 #[.iface 224 (.pointer (some a0))] w fun e w' => e = .returned (.int .i64 6) ∧ w = w' := by
  have hv := hS.v1
  have hne := Lib.hid hS.ne
  obtain ⟨c0, t0, e0⟩ := hS.b0
  obtain ⟨c1, t1, e1⟩ := hS.b1
  have H0 := Lib.hid e0
  have H1 := Lib.hid e1
  clear hS e0 e1
  go_enter Tryd.func79, Tryd.ntmps79
  go_wp2_with fail
  refine (is_other _ _ _ _ _ _ _ hne.out H0.out H1.out).mono ?_
  rintro e w' ⟨rfl, rfl⟩
  go_wp2_with fail
  go_ret
  exact ⟨rfl, rfl⟩

set_option maxHeartbeats 1000000 in
theorem MakeRatioI_any (n d : Int) (w : World) (a0 a1 : Addr) (hS : Sent w a0 a1) (h1 : -9223372036854775808 ≤ n) (h2 : n ≤ 9223372036854775807) (h3 : -9223372036854775808 ≤ d) (h4 : d ≤ 9223372036854775807) :
    Calls Tryd.prog 40 #[.int .i64 n, .int .i64 d] w fun e w' => e = .returned (.tuple #[.agg #[.int .i64 (rA n d), .int .i64 (rB n d)], .int .i64 (rC n d)]) ∧ Below w.heap.size w w' := by
  by_cases hd : d = 0
  · subst hd
    have HZ := Lib.hid (r_zero n)
    go_enter Tryd.func40, Tryd.ntmps40
    go_wp2_with fail
    refine (low_zero n _ a0 a1 (hS.keep (bA (bR _) _))).mono ?_
    rintro e w1 ⟨rfl, hb1⟩
    obtain ⟨hc1, hf1⟩ := bcell hb1
    have hs1 : w.heap.size < w1.heap.size := bsize hb1 (by simp)
    have m0 : w1.cell? ⟨w.heap.size, 0, none⟩ = some (.int .i64 0) := by rw [hc1 _ _ (by simp)]; simp [go_sem]
    have m1 : w1.cell? ⟨w.heap.size, 1, none⟩ = some (.int .i64 0) := by rw [hc1 _ _ (by simp)]; simp [go_sem]
    have hS1 := Lib.hid (hS.keep (bT (bA (bR _) _) hb1))
    clear hS
    go_wp2_with fail
    go_region_with (go_at_call 79; refine (code_state _ a0 a1 ?_).mono ?_; exact hS1.out.keep (bA (bR _) _).drew; rintro e w' ⟨rfl, rfl⟩)
    all_goals go_wp2_with fail
    all_goals refine bodyPost_ret (v := .tuple #[.agg #[.int .i64 (0), .int .i64 (0)], .int .i64 6]) ?_ rfl ⟨ret_rc HZ.out.1.symm HZ.out.2.1.symm HZ.out.2.2.symm, ?_⟩
    all_goals first | (simp [Act.put, results, Tryd.results40, go_sem, World.cell?_alloc_past, hs1, m0, m1]; done) | exact (((bA (bT (bA (bR _) _) hb1) _).drew).setCell (by simp) _).setCell (by simp) _ | exact (bA (((bT (bA (bR _) _) hb1).setCell (by simp) _).setCell (by simp) _) _).drew
  · cases hk : lowOk n d
    · have HZ := Lib.hid (r_no hd hk)
      go_enter Tryd.func40, Tryd.ntmps40
      go_wp2_with fail
      refine (low_no n d _ a0 a1 (hS.keep (bA (bR _) _)) hd h1 h2 h3 h4 hk).mono ?_
      rintro e w1 ⟨rfl, hb1⟩
      obtain ⟨hc1, hf1⟩ := bcell hb1
      have hs1 : w.heap.size < w1.heap.size := bsize hb1 (by simp)
      have m0 : w1.cell? ⟨w.heap.size, 0, none⟩ = some (.int .i64 0) := by rw [hc1 _ _ (by simp)]; simp [go_sem]
      have m1 : w1.cell? ⟨w.heap.size, 1, none⟩ = some (.int .i64 0) := by rw [hc1 _ _ (by simp)]; simp [go_sem]
      have hS1 := Lib.hid (hS.keep (bT (bA (bR _) _) hb1))
      clear hS
      go_wp2_with fail
      go_region_with (go_at_call 79; refine (code_range _ a0 a1 ?_).mono ?_; exact hS1.out.keep (bA (bR _) _).drew; rintro e w' ⟨rfl, rfl⟩)
      all_goals go_wp2_with fail
      all_goals refine bodyPost_ret (v := .tuple #[.agg #[.int .i64 (0), .int .i64 (0)], .int .i64 2]) ?_ rfl ⟨ret_rc HZ.out.1.symm HZ.out.2.1.symm HZ.out.2.2.symm, ?_⟩
      all_goals first | (simp [Act.put, results, Tryd.results40, go_sem, World.cell?_alloc_past, hs1, m0, m1]; done) | exact (((bA (bT (bA (bR _) _) hb1) _).drew).setCell (by simp) _).setCell (by simp) _ | exact (bA (((bT (bA (bR _) _) hb1).setCell (by simp) _).setCell (by simp) _) _).drew
    · have HZ := Lib.hid (r_yes hd hk)
      go_enter Tryd.func40, Tryd.ntmps40
      go_wp2_with fail
      refine (low_yes n d _ hd h1 h2 h3 h4 hk).mono ?_
      rintro e w1 ⟨rfl, hb1⟩
      obtain ⟨hc1, hf1⟩ := bcell hb1
      have hs1 : w.heap.size < w1.heap.size := bsize hb1 (by simp)
      have m0 : w1.cell? ⟨w.heap.size, 0, none⟩ = some (.int .i64 0) := by rw [hc1 _ _ (by simp)]; simp [go_sem]
      have m1 : w1.cell? ⟨w.heap.size, 1, none⟩ = some (.int .i64 0) := by rw [hc1 _ _ (by simp)]; simp [go_sem]
      have hS1 := Lib.hid (hS.keep (bT (bA (bR _) _) hb1))
      clear hS
      go_wp2_with fail
      go_region_with (go_at_call 79; refine (code_nil _).mono ?_; rintro e w' ⟨rfl, rfl⟩)
      all_goals go_wp2_with fail
      all_goals refine bodyPost_ret (v := .tuple #[.agg #[.int .i64 (mkN n d), .int .i64 (lowD n d)], .int .i64 0]) ?_ rfl ⟨ret_rc HZ.out.1.symm HZ.out.2.1.symm HZ.out.2.2.symm, ?_⟩
      all_goals first | (simp [Act.put, results, Tryd.results40, go_sem, World.cell?_alloc_past, hs1, m0, m1]; done) | exact (((bA (bT (bA (bR _) _) hb1) _).drew).setCell (by simp) _).setCell (by simp) _ | exact (bA (((bT (bA (bR _) _) hb1).setCell (by simp) _).setCell (by simp) _) _).drew
end Go.Proofs.YtpbepibklipfpaaDoor

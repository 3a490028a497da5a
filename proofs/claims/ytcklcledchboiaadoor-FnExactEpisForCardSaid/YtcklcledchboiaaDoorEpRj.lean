/-
  The turns of one member for one turn of another: the contract of impl.EpiRatio, for any two numbers of members.
-/
import Derived.Test.YtcklcledchboiaaDoorEpRi
namespace Go.Proofs.YtcklcledchboiaaDoor
open Go.RowKit

set_option maxRecDepth 100000 in
set_option maxHeartbeats 4000000 in
theorem EpiRatioI_any (s r p c f t : Int) (w : World) (hS : Sines w) : Calls Tryd.prog 40 #[.agg #[.int .i64 s, .int .i64 r, .int .i64 p, .int .i64 c], .int .i64 f, .int .i64 t] w (RatC3 w (epiR s r p c f t)) := by
  cases h : okE s r p c
  · rw [epiR_no h]
    have D0 := Lib.hid (ErS.start w s r p c 25 27)
    have HS := Lib.hid hS
    have VE := Lib.hid (fun W h => ValidEpiI_any s r p c W h)
    rw [h] at VE
    clear hS h
    go_enter Tryd.func40, Tryd.ntmps40
    go_wp2_with fail
    generalize (w.alloc (.cells #[.int .i64 s, .int .i64 r, .int .i64 p, .int .i64 c] 25)).alloc (.cells #[.int .i64 0, .int .i64 0] 27) = W0 at *
    generalize hk : w.heap.size = k at *
    have hle : w.heap.size ≤ k + 1 := by omega
    refine (VE.out _ (HS.out.keep D0.out.l)).mono ?_
    rintro e w1 ⟨rfl, hb⟩
    have D1 := Lib.hid (D0.out.keep hb)
    clear hb
    obtain ⟨z0, z1, z2, z3, z4⟩ := D1.out.r
    go_wp2_with fail
    refine bodyPost_ret (v := .tuple #[.agg #[.int .i64 0, .int .i64 0], .int .i64 1]) ?_ rfl ⟨rfl, (D1.out.l.setCell hle _).setCell hle _⟩
    simp [results, Tryd.results40, go_sem, z0, z1]
  · cases h2 : inB f 0 2 && inB t 0 2 && f != t
    · rw [epiR_out h h2]
      have D0 := Lib.hid (ErS.start w s r p c 25 27)
      have HS := Lib.hid hS
      have VE := Lib.hid (fun W h => ValidEpiI_any s r p c W h)
      rw [h] at VE
      obtain ⟨vf, hf⟩ := memberAt_all f
      obtain ⟨vt, ht⟩ := memberAt_all t
      have MF := Lib.hid hf
      have MT := Lib.hid ht
      clear hS h hf ht
      cases hf : inB f 0 2
      · rw [hf] at MF
        clear hf h2
        go_enter Tryd.func40, Tryd.ntmps40
        go_wp2_with fail
        generalize (w.alloc (.cells #[.int .i64 s, .int .i64 r, .int .i64 p, .int .i64 c] 25)).alloc (.cells #[.int .i64 0, .int .i64 0] 27) = W0 at *
        generalize hk : w.heap.size = k at *
        have hle : w.heap.size ≤ k + 1 := by omega
        refine (VE.out _ (HS.out.keep D0.out.l)).mono ?_
        rintro e w1 ⟨rfl, hb⟩
        have D1 := Lib.hid (D0.out.keep hb)
        clear hb
        obtain ⟨z0, z1, z2, z3, z4⟩ := D1.out.r
        go_wp2_with fail
        refine (MF.out _).mono ?_
        rintro e w2 ⟨rfl, rfl⟩
        go_wp2_with fail
        refine (MT.out _).mono ?_
        rintro e w2 ⟨rfl, rfl⟩
        go_wp2_with fail
        refine bodyPost_ret (v := .tuple #[.agg #[.int .i64 0, .int .i64 0], .int .i64 2]) ?_ rfl ⟨rfl, (D1.out.l.setCell hle _).setCell hle _⟩
        simp [results, Tryd.results40, go_sem, z0, z1]
      · rw [hf] at MF
        cases ht : inB t 0 2
        · rw [ht] at MT
          clear hf ht h2
          go_enter Tryd.func40, Tryd.ntmps40
          go_wp2_with fail
          generalize (w.alloc (.cells #[.int .i64 s, .int .i64 r, .int .i64 p, .int .i64 c] 25)).alloc (.cells #[.int .i64 0, .int .i64 0] 27) = W0 at *
          generalize hk : w.heap.size = k at *
          have hle : w.heap.size ≤ k + 1 := by omega
          refine (VE.out _ (HS.out.keep D0.out.l)).mono ?_
          rintro e w1 ⟨rfl, hb⟩
          have D1 := Lib.hid (D0.out.keep hb)
          clear hb
          obtain ⟨z0, z1, z2, z3, z4⟩ := D1.out.r
          go_wp2_with fail
          refine (MF.out _).mono ?_
          rintro e w2 ⟨rfl, rfl⟩
          go_wp2_with fail
          refine (MT.out _).mono ?_
          rintro e w2 ⟨rfl, rfl⟩
          go_wp2_with fail
          refine bodyPost_ret (v := .tuple #[.agg #[.int .i64 0, .int .i64 0], .int .i64 2]) ?_ rfl ⟨rfl, (D1.out.l.setCell hle _).setCell hle _⟩
          simp [results, Tryd.results40, go_sem, z0, z1]
        · have hq2 : f = t := by rw [hf, ht] at h2; simpa using h2
          clear hf ht h2 MT
          subst hq2
          go_enter Tryd.func40, Tryd.ntmps40
          go_wp2_with fail
          generalize (w.alloc (.cells #[.int .i64 s, .int .i64 r, .int .i64 p, .int .i64 c] 25)).alloc (.cells #[.int .i64 0, .int .i64 0] 27) = W0 at *
          generalize hk : w.heap.size = k at *
          have hle : w.heap.size ≤ k + 1 := by omega
          refine (VE.out _ (HS.out.keep D0.out.l)).mono ?_
          rintro e w1 ⟨rfl, hb⟩
          have D1 := Lib.hid (D0.out.keep hb)
          clear hb
          obtain ⟨z0, z1, z2, z3, z4⟩ := D1.out.r
          go_wp2_with fail
          refine (MF.out _).mono ?_
          rintro e w2 ⟨rfl, rfl⟩
          go_wp2_with fail
          refine (MF.out _).mono ?_
          rintro e w2 ⟨rfl, rfl⟩
          go_wp2_with fail
          refine bodyPost_ret (v := .tuple #[.agg #[.int .i64 0, .int .i64 0], .int .i64 2]) ?_ rfl ⟨rfl, (D1.out.l.setCell hle _).setCell hle _⟩
          simp [results, Tryd.results40, go_sem, z0, z1]
    · have h3 : ((0 ≤ f ∧ f ≤ 2) ∧ 0 ≤ t ∧ t ≤ 2) ∧ f ≠ t := by simpa [inB] using h2
      have h4 : (f = 0 ∧ t = 1) ∨ (f = 0 ∧ t = 2) ∨ (f = 1 ∧ t = 0) ∨ (f = 1 ∧ t = 2) ∨ (f = 2 ∧ t = 0) ∨ (f = 2 ∧ t = 1) := by omega
      rcases h4 with ⟨rfl, rfl⟩ | ⟨rfl, rfl⟩ | ⟨rfl, rfl⟩ | ⟨rfl, rfl⟩ | ⟨rfl, rfl⟩ | ⟨rfl, rfl⟩
      · exact EpiRatioI_01 s r p c w hS h
      · exact EpiRatioI_02 s r p c w hS h
      · exact EpiRatioI_10 s r p c w hS h
      · exact EpiRatioI_12 s r p c w hS h
      · exact EpiRatioI_20 s r p c w hS h
      · exact EpiRatioI_21 s r p c w hS h
end Go.Proofs.YtcklcledchboiaaDoor

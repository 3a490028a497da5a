/-
  The turns of one member for one turn of another in the model: the contracts of spec.l07Ratio and spec.EpiRatio.
-/
import Derived.Test.YtcklcledchboiaaDoorEpRj
namespace Go.Proofs.YtcklcledchboiaaDoor
open Go.RowKit

set_option maxRecDepth 100000 in
set_option maxHeartbeats 4000000 in
theorem l07Ratio_01 (s r p c : Int) (w : World) : Calls Tryd.prog 57 #[.agg #[.int .i64 s, .int .i64 r, .int .i64 p, .int .i64 c], .int .i64 0, .int .i64 1] w (RatC3 w (dr3 s r p c s r 1 1 0 1)) := by
  have D0 := Lib.hid (ErS.start w s r p c 25 27)
  have SA := Lib.hid (fun W => RingOfS_any s r p c 1 1 0 1 W)
  have E3 : ∃ x3 y3 c3, dr3 s r p c s r 1 1 0 1 = (x3, y3, c3) := ⟨_, _, _, rfl⟩
  obtain ⟨x3, y3, c3, e3⟩ := E3
  rw [e3] at SA ⊢
  clear e3
  go_enter Tryd.func57, Tryd.ntmps57
  go_wp2_with fail
  generalize (w.alloc (.cells #[.int .i64 s, .int .i64 r, .int .i64 p, .int .i64 c] 25)).alloc (.cells #[.int .i64 0, .int .i64 0] 27) = W0 at *
  generalize hk : w.heap.size = k at *
  have hle : w.heap.size ≤ k + 1 := by omega
  refine (l02Whole_any _ _).mono ?_
  rintro e w1 ⟨rfl, hb⟩
  have D1 := Lib.hid (D0.out.keep (bA hb (.cells #[.int .i64 1, .int .i64 1] 27)))
  have N1 := Lib.hid (Box2.new w1 1 1 27)
  clear hb D0
  go_wp2_with fail
  generalize w1.alloc (.cells #[.int .i64 1, .int .i64 1] 27) = W1 at *
  generalize w1.heap.size = k1 at *
  refine (l02Whole_any _ _).mono ?_
  rintro e w2 ⟨rfl, hb⟩
  have D2 := Lib.hid (D1.out.keep (bA hb (.cells #[.int .i64 0, .int .i64 1] 27)))
  have N2 := Lib.hid (N1.out.keep (bA hb (.cells #[.int .i64 0, .int .i64 1] 27)))
  have Z2 := Lib.hid (Box2.new w2 0 1 27)
  clear hb D1 N1
  obtain ⟨e0, e1, e2, e4, _⟩ := D2.out.e
  obtain ⟨n0, n1, _, _, _⟩ := N2.out
  obtain ⟨m0, m1, _, _, _⟩ := Z2.out
  go_upto_region 3 with fail
  generalize w2.alloc (.cells #[.int .i64 0, .int .i64 1] 27) = W2 at *
  generalize w2.heap.size = k2 at *
  go_wp2_with fail
  refine (SA.out _).mono ?_
  rintro e w3 ⟨rfl, hb⟩
  have D3 := Lib.hid (D2.out.keep hb)
  clear hb
  obtain ⟨z0, z1, z2, z3, z4⟩ := D3.out.r
  go_wp2_with fail
  refine bodyPost_ret (v := .tuple #[.agg #[.int .i64 x3, .int .i64 y3], .int .i64 c3]) ?_ rfl ⟨rfl, (D3.out.l.setCell hle _).setCell hle _⟩
  simp [results, Tryd.results57, go_sem, z0, z1]
set_option maxRecDepth 100000 in
set_option maxHeartbeats 4000000 in
theorem l07Ratio_02 (s r p c : Int) (w : World) : Calls Tryd.prog 57 #[.agg #[.int .i64 s, .int .i64 r, .int .i64 p, .int .i64 c], .int .i64 0, .int .i64 2] w (RatC3 w (ca3 s r p c 1 1 0 1)) := by
  have D0 := Lib.hid (ErS.start w s r p c 25 27)
  have SA := Lib.hid (fun W => CarrierOfS_any s r p c 1 1 0 1 W)
  have E3 : ∃ x3 y3 c3, ca3 s r p c 1 1 0 1 = (x3, y3, c3) := ⟨_, _, _, rfl⟩
  obtain ⟨x3, y3, c3, e3⟩ := E3
  rw [e3] at SA ⊢
  clear e3
  go_enter Tryd.func57, Tryd.ntmps57
  go_wp2_with fail
  generalize (w.alloc (.cells #[.int .i64 s, .int .i64 r, .int .i64 p, .int .i64 c] 25)).alloc (.cells #[.int .i64 0, .int .i64 0] 27) = W0 at *
  generalize hk : w.heap.size = k at *
  have hle : w.heap.size ≤ k + 1 := by omega
  refine (l02Whole_any _ _).mono ?_
  rintro e w1 ⟨rfl, hb⟩
  have D1 := Lib.hid (D0.out.keep (bA hb (.cells #[.int .i64 1, .int .i64 1] 27)))
  have N1 := Lib.hid (Box2.new w1 1 1 27)
  clear hb D0
  go_wp2_with fail
  generalize w1.alloc (.cells #[.int .i64 1, .int .i64 1] 27) = W1 at *
  generalize w1.heap.size = k1 at *
  refine (l02Whole_any _ _).mono ?_
  rintro e w2 ⟨rfl, hb⟩
  have D2 := Lib.hid (D1.out.keep (bA hb (.cells #[.int .i64 0, .int .i64 1] 27)))
  have N2 := Lib.hid (N1.out.keep (bA hb (.cells #[.int .i64 0, .int .i64 1] 27)))
  have Z2 := Lib.hid (Box2.new w2 0 1 27)
  clear hb D1 N1
  obtain ⟨e0, e1, e2, e4, _⟩ := D2.out.e
  obtain ⟨n0, n1, _, _, _⟩ := N2.out
  obtain ⟨m0, m1, _, _, _⟩ := Z2.out
  go_upto_region 3 with fail
  generalize w2.alloc (.cells #[.int .i64 0, .int .i64 1] 27) = W2 at *
  generalize w2.heap.size = k2 at *
  go_wp2_with fail
  refine (SA.out _).mono ?_
  rintro e w3 ⟨rfl, hb⟩
  have D3 := Lib.hid (D2.out.keep hb)
  clear hb
  obtain ⟨z0, z1, z2, z3, z4⟩ := D3.out.r
  go_wp2_with fail
  refine bodyPost_ret (v := .tuple #[.agg #[.int .i64 x3, .int .i64 y3], .int .i64 c3]) ?_ rfl ⟨rfl, (D3.out.l.setCell hle _).setCell hle _⟩
  simp [results, Tryd.results57, go_sem, z0, z1]
set_option maxRecDepth 100000 in
set_option maxHeartbeats 4000000 in
theorem l07Ratio_10 (s r p c : Int) (w : World) : Calls Tryd.prog 57 #[.agg #[.int .i64 s, .int .i64 r, .int .i64 p, .int .i64 c], .int .i64 1, .int .i64 0] w (RatC3 w (dr3 s r p c r s 1 1 0 1)) := by
  have D0 := Lib.hid (ErS.start w s r p c 25 27)
  have SA := Lib.hid (fun W => SunOfS_any s r p c 1 1 0 1 W)
  have E3 : ∃ x3 y3 c3, dr3 s r p c r s 1 1 0 1 = (x3, y3, c3) := ⟨_, _, _, rfl⟩
  obtain ⟨x3, y3, c3, e3⟩ := E3
  rw [e3] at SA ⊢
  clear e3
  go_enter Tryd.func57, Tryd.ntmps57
  go_wp2_with fail
  generalize (w.alloc (.cells #[.int .i64 s, .int .i64 r, .int .i64 p, .int .i64 c] 25)).alloc (.cells #[.int .i64 0, .int .i64 0] 27) = W0 at *
  generalize hk : w.heap.size = k at *
  have hle : w.heap.size ≤ k + 1 := by omega
  refine (l02Whole_any _ _).mono ?_
  rintro e w1 ⟨rfl, hb⟩
  have D1 := Lib.hid (D0.out.keep (bA hb (.cells #[.int .i64 1, .int .i64 1] 27)))
  have N1 := Lib.hid (Box2.new w1 1 1 27)
  clear hb D0
  go_wp2_with fail
  generalize w1.alloc (.cells #[.int .i64 1, .int .i64 1] 27) = W1 at *
  generalize w1.heap.size = k1 at *
  refine (l02Whole_any _ _).mono ?_
  rintro e w2 ⟨rfl, hb⟩
  have D2 := Lib.hid (D1.out.keep (bA hb (.cells #[.int .i64 0, .int .i64 1] 27)))
  have N2 := Lib.hid (N1.out.keep (bA hb (.cells #[.int .i64 0, .int .i64 1] 27)))
  have Z2 := Lib.hid (Box2.new w2 0 1 27)
  clear hb D1 N1
  obtain ⟨e0, e1, e2, e4, _⟩ := D2.out.e
  obtain ⟨n0, n1, _, _, _⟩ := N2.out
  obtain ⟨m0, m1, _, _, _⟩ := Z2.out
  go_upto_region 3 with fail
  generalize w2.alloc (.cells #[.int .i64 0, .int .i64 1] 27) = W2 at *
  generalize w2.heap.size = k2 at *
  go_wp2_with fail
  refine (SA.out _).mono ?_
  rintro e w3 ⟨rfl, hb⟩
  have D3 := Lib.hid (D2.out.keep hb)
  clear hb
  obtain ⟨z0, z1, z2, z3, z4⟩ := D3.out.r
  go_wp2_with fail
  refine bodyPost_ret (v := .tuple #[.agg #[.int .i64 x3, .int .i64 y3], .int .i64 c3]) ?_ rfl ⟨rfl, (D3.out.l.setCell hle _).setCell hle _⟩
  simp [results, Tryd.results57, go_sem, z0, z1]
set_option maxRecDepth 100000 in
set_option maxHeartbeats 4000000 in
theorem l07Ratio_12 (s r p c : Int) (w : World) : Calls Tryd.prog 57 #[.agg #[.int .i64 s, .int .i64 r, .int .i64 p, .int .i64 c], .int .i64 1, .int .i64 2] w (RatC3 w (ca3 s r p c 0 1 1 1)) := by
  have D0 := Lib.hid (ErS.start w s r p c 25 27)
  have SA := Lib.hid (fun W => CarrierOfS_any s r p c 0 1 1 1 W)
  have E3 : ∃ x3 y3 c3, ca3 s r p c 0 1 1 1 = (x3, y3, c3) := ⟨_, _, _, rfl⟩
  obtain ⟨x3, y3, c3, e3⟩ := E3
  rw [e3] at SA ⊢
  clear e3
  go_enter Tryd.func57, Tryd.ntmps57
  go_wp2_with fail
  generalize (w.alloc (.cells #[.int .i64 s, .int .i64 r, .int .i64 p, .int .i64 c] 25)).alloc (.cells #[.int .i64 0, .int .i64 0] 27) = W0 at *
  generalize hk : w.heap.size = k at *
  have hle : w.heap.size ≤ k + 1 := by omega
  refine (l02Whole_any _ _).mono ?_
  rintro e w1 ⟨rfl, hb⟩
  have D1 := Lib.hid (D0.out.keep (bA hb (.cells #[.int .i64 1, .int .i64 1] 27)))
  have N1 := Lib.hid (Box2.new w1 1 1 27)
  clear hb D0
  go_wp2_with fail
  generalize w1.alloc (.cells #[.int .i64 1, .int .i64 1] 27) = W1 at *
  generalize w1.heap.size = k1 at *
  refine (l02Whole_any _ _).mono ?_
  rintro e w2 ⟨rfl, hb⟩
  have D2 := Lib.hid (D1.out.keep (bA hb (.cells #[.int .i64 0, .int .i64 1] 27)))
  have N2 := Lib.hid (N1.out.keep (bA hb (.cells #[.int .i64 0, .int .i64 1] 27)))
  have Z2 := Lib.hid (Box2.new w2 0 1 27)
  clear hb D1 N1
  obtain ⟨e0, e1, e2, e4, _⟩ := D2.out.e
  obtain ⟨n0, n1, _, _, _⟩ := N2.out
  obtain ⟨m0, m1, _, _, _⟩ := Z2.out
  go_upto_region 3 with fail
  generalize w2.alloc (.cells #[.int .i64 0, .int .i64 1] 27) = W2 at *
  generalize w2.heap.size = k2 at *
  go_wp2_with fail
  refine (SA.out _).mono ?_
  rintro e w3 ⟨rfl, hb⟩
  have D3 := Lib.hid (D2.out.keep hb)
  clear hb
  obtain ⟨z0, z1, z2, z3, z4⟩ := D3.out.r
  go_wp2_with fail
  refine bodyPost_ret (v := .tuple #[.agg #[.int .i64 x3, .int .i64 y3], .int .i64 c3]) ?_ rfl ⟨rfl, (D3.out.l.setCell hle _).setCell hle _⟩
  simp [results, Tryd.results57, go_sem, z0, z1]
set_option maxRecDepth 100000 in
set_option maxHeartbeats 4000000 in
theorem l07Ratio_20 (s r p c : Int) (w : World) : Calls Tryd.prog 57 #[.agg #[.int .i64 s, .int .i64 r, .int .i64 p, .int .i64 c], .int .i64 2, .int .i64 0] w (RatC3 w (dr3 s r p c r s 0 1 1 1)) := by
  have D0 := Lib.hid (ErS.start w s r p c 25 27)
  have SA := Lib.hid (fun W => SunOfS_any s r p c 0 1 1 1 W)
  have E3 : ∃ x3 y3 c3, dr3 s r p c r s 0 1 1 1 = (x3, y3, c3) := ⟨_, _, _, rfl⟩
  obtain ⟨x3, y3, c3, e3⟩ := E3
  rw [e3] at SA ⊢
  clear e3
  go_enter Tryd.func57, Tryd.ntmps57
  go_wp2_with fail
  generalize (w.alloc (.cells #[.int .i64 s, .int .i64 r, .int .i64 p, .int .i64 c] 25)).alloc (.cells #[.int .i64 0, .int .i64 0] 27) = W0 at *
  generalize hk : w.heap.size = k at *
  have hle : w.heap.size ≤ k + 1 := by omega
  refine (l02Whole_any _ _).mono ?_
  rintro e w1 ⟨rfl, hb⟩
  have D1 := Lib.hid (D0.out.keep (bA hb (.cells #[.int .i64 1, .int .i64 1] 27)))
  have N1 := Lib.hid (Box2.new w1 1 1 27)
  clear hb D0
  go_wp2_with fail
  generalize w1.alloc (.cells #[.int .i64 1, .int .i64 1] 27) = W1 at *
  generalize w1.heap.size = k1 at *
  refine (l02Whole_any _ _).mono ?_
  rintro e w2 ⟨rfl, hb⟩
  have D2 := Lib.hid (D1.out.keep (bA hb (.cells #[.int .i64 0, .int .i64 1] 27)))
  have N2 := Lib.hid (N1.out.keep (bA hb (.cells #[.int .i64 0, .int .i64 1] 27)))
  have Z2 := Lib.hid (Box2.new w2 0 1 27)
  clear hb D1 N1
  obtain ⟨e0, e1, e2, e4, _⟩ := D2.out.e
  obtain ⟨n0, n1, _, _, _⟩ := N2.out
  obtain ⟨m0, m1, _, _, _⟩ := Z2.out
  go_upto_region 3 with fail
  generalize w2.alloc (.cells #[.int .i64 0, .int .i64 1] 27) = W2 at *
  generalize w2.heap.size = k2 at *
  go_wp2_with fail
  refine (SA.out _).mono ?_
  rintro e w3 ⟨rfl, hb⟩
  have D3 := Lib.hid (D2.out.keep hb)
  clear hb
  obtain ⟨z0, z1, z2, z3, z4⟩ := D3.out.r
  go_wp2_with fail
  refine bodyPost_ret (v := .tuple #[.agg #[.int .i64 x3, .int .i64 y3], .int .i64 c3]) ?_ rfl ⟨rfl, (D3.out.l.setCell hle _).setCell hle _⟩
  simp [results, Tryd.results57, go_sem, z0, z1]
set_option maxRecDepth 100000 in
set_option maxHeartbeats 4000000 in
theorem l07Ratio_21 (s r p c : Int) (w : World) : Calls Tryd.prog 57 #[.agg #[.int .i64 s, .int .i64 r, .int .i64 p, .int .i64 c], .int .i64 2, .int .i64 1] w (RatC3 w (dr3 s r p c s r 0 1 1 1)) := by
  have D0 := Lib.hid (ErS.start w s r p c 25 27)
  have SA := Lib.hid (fun W => RingOfS_any s r p c 0 1 1 1 W)
  have E3 : ∃ x3 y3 c3, dr3 s r p c s r 0 1 1 1 = (x3, y3, c3) := ⟨_, _, _, rfl⟩
  obtain ⟨x3, y3, c3, e3⟩ := E3
  rw [e3] at SA ⊢
  clear e3
  go_enter Tryd.func57, Tryd.ntmps57
  go_wp2_with fail
  generalize (w.alloc (.cells #[.int .i64 s, .int .i64 r, .int .i64 p, .int .i64 c] 25)).alloc (.cells #[.int .i64 0, .int .i64 0] 27) = W0 at *
  generalize hk : w.heap.size = k at *
  have hle : w.heap.size ≤ k + 1 := by omega
  refine (l02Whole_any _ _).mono ?_
  rintro e w1 ⟨rfl, hb⟩
  have D1 := Lib.hid (D0.out.keep (bA hb (.cells #[.int .i64 1, .int .i64 1] 27)))
  have N1 := Lib.hid (Box2.new w1 1 1 27)
  clear hb D0
  go_wp2_with fail
  generalize w1.alloc (.cells #[.int .i64 1, .int .i64 1] 27) = W1 at *
  generalize w1.heap.size = k1 at *
  refine (l02Whole_any _ _).mono ?_
  rintro e w2 ⟨rfl, hb⟩
  have D2 := Lib.hid (D1.out.keep (bA hb (.cells #[.int .i64 0, .int .i64 1] 27)))
  have N2 := Lib.hid (N1.out.keep (bA hb (.cells #[.int .i64 0, .int .i64 1] 27)))
  have Z2 := Lib.hid (Box2.new w2 0 1 27)
  clear hb D1 N1
  obtain ⟨e0, e1, e2, e4, _⟩ := D2.out.e
  obtain ⟨n0, n1, _, _, _⟩ := N2.out
  obtain ⟨m0, m1, _, _, _⟩ := Z2.out
  go_upto_region 3 with fail
  generalize w2.alloc (.cells #[.int .i64 0, .int .i64 1] 27) = W2 at *
  generalize w2.heap.size = k2 at *
  go_wp2_with fail
  refine (SA.out _).mono ?_
  rintro e w3 ⟨rfl, hb⟩
  have D3 := Lib.hid (D2.out.keep hb)
  clear hb
  obtain ⟨z0, z1, z2, z3, z4⟩ := D3.out.r
  go_wp2_with fail
  refine bodyPost_ret (v := .tuple #[.agg #[.int .i64 x3, .int .i64 y3], .int .i64 c3]) ?_ rfl ⟨rfl, (D3.out.l.setCell hle _).setCell hle _⟩
  simp [results, Tryd.results57, go_sem, z0, z1]
set_option maxRecDepth 100000 in
set_option maxHeartbeats 4000000 in
theorem EpiRatioS_any (s r p c f t : Int) (w : World) : Calls Tryd.prog 18 #[.agg #[.int .i64 s, .int .i64 r, .int .i64 p, .int .i64 c], .int .i64 f, .int .i64 t] w (RatC3 w (epiR s r p c f t)) := by
  have D0 := Lib.hid (ErS.start w s r p c 25 27)
  have VE := Lib.hid (fun W => l07Ok_any s r p c W)
  cases h : okE s r p c
  · rw [epiR_no h]
    rw [h] at VE
    clear h
    go_enter Tryd.func18, Tryd.ntmps18
    go_wp2_with fail
    generalize (w.alloc (.cells #[.int .i64 s, .int .i64 r, .int .i64 p, .int .i64 c] 25)).alloc (.cells #[.int .i64 0, .int .i64 0] 27) = W0 at *
    generalize hk : w.heap.size = k at *
    have hle : w.heap.size ≤ k + 1 := by omega
    refine (VE.out _).mono ?_
    rintro e w1 ⟨rfl, hb⟩
    have D1 := Lib.hid (D0.out.keep hb)
    clear hb
    obtain ⟨z0, z1, z2, z3, z4⟩ := D1.out.r
    go_wp2_with fail
    refine bodyPost_ret (v := .tuple #[.agg #[.int .i64 0, .int .i64 0], .int .i64 1]) ?_ rfl ⟨rfl, (D1.out.l.setCell hle _).setCell hle _⟩
    simp [results, Tryd.results18, go_sem, z0, z1]
  · cases h2 : inB f 0 2 && inB t 0 2 && f != t
    · rw [epiR_out h h2]
      rw [h] at VE
      have MF := Lib.hid (fun W => l00In_any f 0 2 W)
      have MT := Lib.hid (fun W => l00In_any t 0 2 W)
      clear h
      cases hf : inB f 0 2
      · rw [hf] at MF
        clear hf h2
        go_enter Tryd.func18, Tryd.ntmps18
        go_wp2_with fail
        generalize (w.alloc (.cells #[.int .i64 s, .int .i64 r, .int .i64 p, .int .i64 c] 25)).alloc (.cells #[.int .i64 0, .int .i64 0] 27) = W0 at *
        generalize hk : w.heap.size = k at *
        have hle : w.heap.size ≤ k + 1 := by omega
        refine (VE.out _).mono ?_
        rintro e w1 ⟨rfl, hb⟩
        have D1 := Lib.hid (D0.out.keep hb)
        clear hb
        obtain ⟨z0, z1, z2, z3, z4⟩ := D1.out.r
        go_wp2_with fail
        refine (MF.out _).mono ?_
        rintro e w2 ⟨rfl, rfl⟩
        go_wp2_with fail
        refine bodyPost_ret (v := .tuple #[.agg #[.int .i64 0, .int .i64 0], .int .i64 2]) ?_ rfl ⟨rfl, (D1.out.l.setCell hle _).setCell hle _⟩
        simp [results, Tryd.results18, go_sem, z0, z1]
      · rw [hf] at MF
        cases ht : inB t 0 2
        · rw [ht] at MT
          clear hf ht h2
          go_enter Tryd.func18, Tryd.ntmps18
          go_wp2_with fail
          generalize (w.alloc (.cells #[.int .i64 s, .int .i64 r, .int .i64 p, .int .i64 c] 25)).alloc (.cells #[.int .i64 0, .int .i64 0] 27) = W0 at *
          generalize hk : w.heap.size = k at *
          have hle : w.heap.size ≤ k + 1 := by omega
          refine (VE.out _).mono ?_
          rintro e w1 ⟨rfl, hb⟩
          have D1 := Lib.hid (D0.out.keep hb)
          clear hb
          obtain ⟨z0, z1, z2, z3, z4⟩ := D1.out.r
          go_wp2_with fail
          refine (MF.out _).mono ?_
          rintro e w2 ⟨rfl, rfl⟩
          go_wp2_with fail
          refine (MT.out _).mono ?_
          rintro e w2 ⟨rfl, rfl⟩
          go_wp2_with fail
          refine bodyPost_ret (v := .tuple #[.agg #[.int .i64 0, .int .i64 0], .int .i64 2]) ?_ rfl ⟨rfl, (D1.out.l.setCell hle _).setCell hle _⟩
          simp [results, Tryd.results18, go_sem, z0, z1]
        · have hq2 : f = t := by rw [hf, ht] at h2; simpa using h2
          rw [ht] at MT
          clear hf ht h2
          subst hq2
          go_enter Tryd.func18, Tryd.ntmps18
          go_wp2_with fail
          generalize (w.alloc (.cells #[.int .i64 s, .int .i64 r, .int .i64 p, .int .i64 c] 25)).alloc (.cells #[.int .i64 0, .int .i64 0] 27) = W0 at *
          generalize hk : w.heap.size = k at *
          have hle : w.heap.size ≤ k + 1 := by omega
          refine (VE.out _).mono ?_
          rintro e w1 ⟨rfl, hb⟩
          have D1 := Lib.hid (D0.out.keep hb)
          clear hb
          obtain ⟨z0, z1, z2, z3, z4⟩ := D1.out.r
          go_wp2_with fail
          refine (MF.out _).mono ?_
          rintro e w2 ⟨rfl, rfl⟩
          go_wp2_with fail
          refine (MT.out _).mono ?_
          rintro e w2 ⟨rfl, rfl⟩
          go_wp2_with fail
          refine bodyPost_ret (v := .tuple #[.agg #[.int .i64 0, .int .i64 0], .int .i64 2]) ?_ rfl ⟨rfl, (D1.out.l.setCell hle _).setCell hle _⟩
          simp [results, Tryd.results18, go_sem, z0, z1]
    · have h3 : ((0 ≤ f ∧ f ≤ 2) ∧ 0 ≤ t ∧ t ≤ 2) ∧ f ≠ t := by simpa [inB] using h2
      have SA : ∀ W, Calls Tryd.prog 57 #[.agg #[.int .i64 s, .int .i64 r, .int .i64 p, .int .i64 c], .int .i64 f, .int .i64 t] W (RatC3 W (epiR s r p c f t)) := by
        have h4 : (f = 0 ∧ t = 1) ∨ (f = 0 ∧ t = 2) ∨ (f = 1 ∧ t = 0) ∨ (f = 1 ∧ t = 2) ∨ (f = 2 ∧ t = 0) ∨ (f = 2 ∧ t = 1) := by omega
        rcases h4 with ⟨rfl, rfl⟩ | ⟨rfl, rfl⟩ | ⟨rfl, rfl⟩ | ⟨rfl, rfl⟩ | ⟨rfl, rfl⟩ | ⟨rfl, rfl⟩
        · rw [epiR_01 h]; exact fun W => l07Ratio_01 s r p c W
        · rw [epiR_02 h]; exact fun W => l07Ratio_02 s r p c W
        · rw [epiR_10 h]; exact fun W => l07Ratio_10 s r p c W
        · rw [epiR_12 h]; exact fun W => l07Ratio_12 s r p c W
        · rw [epiR_20 h]; exact fun W => l07Ratio_20 s r p c W
        · rw [epiR_21 h]; exact fun W => l07Ratio_21 s r p c W
      have HA := Lib.hid SA
      have i1 : inB f 0 2 = true := inB_true.2 h3.1.1
      have i2 : inB t 0 2 = true := inB_true.2 h3.1.2
      have MF := Lib.hid (fun W => l00In_any f 0 2 W)
      have MT := Lib.hid (fun W => l00In_any t 0 2 W)
      rw [i1] at MF
      rw [i2] at MT
      rw [h] at VE
      have hq : (f == t) = false := by rw [beq_eq_false_iff_ne]; exact h3.2
      have hq2 := h3.2
      clear SA h h2 h3 i1 i2
      have E3 : ∃ x3 y3 c3, epiR s r p c f t = (x3, y3, c3) := ⟨_, _, _, rfl⟩
      obtain ⟨x3, y3, c3, e3⟩ := E3
      rw [e3] at HA ⊢
      clear e3
      go_enter Tryd.func18, Tryd.ntmps18
      go_wp2_with fail
      generalize (w.alloc (.cells #[.int .i64 s, .int .i64 r, .int .i64 p, .int .i64 c] 25)).alloc (.cells #[.int .i64 0, .int .i64 0] 27) = W0 at *
      generalize hk : w.heap.size = k at *
      have hle : w.heap.size ≤ k + 1 := by omega
      refine (VE.out _).mono ?_
      rintro e w1 ⟨rfl, hb⟩
      have D1 := Lib.hid (D0.out.keep hb)
      clear hb
      obtain ⟨z0, z1, z2, z3, z4⟩ := D1.out.r
      go_wp2_with fail
      refine (MF.out _).mono ?_
      rintro e w2 ⟨rfl, rfl⟩
      go_wp2_with fail
      refine (MT.out _).mono ?_
      rintro e w2 ⟨rfl, rfl⟩
      obtain ⟨e0, e1, e2, e4, _⟩ := D1.out.e
      go_wp2_with fail
      refine (HA.out _).mono ?_
      rintro e w3 ⟨rfl, hb⟩
      have D3 := Lib.hid (D1.out.keep hb)
      clear hb z0 z1 z2 z3 z4
      obtain ⟨z0, z1, z2, z3, z4⟩ := D3.out.r
      go_wp2_with fail
      refine bodyPost_ret (v := .tuple #[.agg #[.int .i64 x3, .int .i64 y3], .int .i64 c3]) ?_ rfl ⟨rfl, (D3.out.l.setCell hle _).setCell hle _⟩
      simp [results, Tryd.results18, go_sem, z0, z1]
end Go.Proofs.YtcklcledchboiaaDoor

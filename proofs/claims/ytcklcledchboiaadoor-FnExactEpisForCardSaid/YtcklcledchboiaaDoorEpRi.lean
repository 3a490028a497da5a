/-
  The turns of one member for one turn of another: the contract of impl.EpiRatio, in a world in which the sines are laid (no sentinel is asked).
-/
import Derived.Test.YtcklcledchboiaaDoorEpR
namespace Go.Proofs.YtcklcledchboiaaDoor
open Go.RowKit

/-- The gears and the result's box. -/
structure ErS (w : World) (k : Nat) (s r p c : Int) (W : World) : Prop where
  e : Box4 W k s r p c
  r : Box2 W (k + 1) 0 0
  l : Below w.heap.size w W
theorem ErS.keep {w W W' : World} {k : Nat} {s r p c : Int} (hb : Below W.heap.size W W') (h : ErS w k s r p c W) : ErS w k s r p c W' := ⟨h.e.keep hb, h.r.keep hb, bT h.l hb⟩
theorem ErS.start (w : World) (s r p c : Int) (T1 T2 : TypeId) : ErS w w.heap.size s r p c ((w.alloc (.cells #[.int .i64 s, .int .i64 r, .int .i64 p, .int .i64 c] T1)).alloc (.cells #[.int .i64 0, .int .i64 0] T2)) :=
  ⟨(Box4.new w s r p c T1).keep (bA (bR _) _), Box2.at_ (by simp), bA (bA (bR _) _) _⟩
theorem memberAt_all (x : Int) : ∃ v, ∀ W, Calls Tryd.prog 80 #[.int .i64 x] W fun e w' => e = .returned (.tuple #[v, .bool (inB x 0 2)]) ∧ W = w' := by
  cases h : inB x 0 2
  · exact ⟨_, fun W => memberAt_no x W h⟩
  · have h1 := inB_true.1 h
    have h2 : x = 0 ∨ x = 1 ∨ x = 2 := by omega
    rcases h2 with rfl | rfl | rfl
    · exact ⟨_, fun W => memberAt_0 W⟩
    · exact ⟨_, fun W => memberAt_1 W⟩
    · exact ⟨_, fun W => memberAt_2 W⟩
theorem na_0 (w : World) : (nilAhead 313 113 (.agg #[]) "loop.example/g00921/impl.speedAmong").run Tryd.prog w = .ok (some false) w := by kernel_rfl
theorem me_0 (w : World) : (Go.method 313 113 (.agg #[]) "loop.example/g00921/impl.speedAmong").run Tryd.prog w = .ok (158, .agg #[]) w := by kernel_rfl
theorem na_1 (w : World) : (nilAhead 313 114 (.agg #[]) "loop.example/g00921/impl.speedAmong").run Tryd.prog w = .ok (some false) w := by kernel_rfl
theorem me_1 (w : World) : (Go.method 313 114 (.agg #[]) "loop.example/g00921/impl.speedAmong").run Tryd.prog w = .ok (159, .agg #[]) w := by kernel_rfl
theorem na_2 (w : World) : (nilAhead 313 115 (.agg #[]) "loop.example/g00921/impl.speedAmong").run Tryd.prog w = .ok (some false) w := by kernel_rfl
theorem me_2 (w : World) : (Go.method 313 115 (.agg #[]) "loop.example/g00921/impl.speedAmong").run Tryd.prog w = .ok (160, .agg #[]) w := by kernel_rfl
set_option maxRecDepth 100000 in
set_option maxHeartbeats 4000000 in
theorem EpiRatioI_01 (s r p c : Int) (w : World) (hS : Sines w) (h : okE s r p c = true) : Calls Tryd.prog 40 #[.agg #[.int .i64 s, .int .i64 r, .int .i64 p, .int .i64 c], .int .i64 0, .int .i64 1] w (RatC3 w (epiR s r p c 0 1)) := by
  have D0 := Lib.hid (ErS.start w s r p c 25 27)
  have HS := Lib.hid hS
  have VE := Lib.hid (fun W h => ValidEpiI_any s r p c W h)
  have SA := Lib.hid (fun W (h2 : Sines W) => speedAmong_1 s r p c 1 1 0 1 0 1 W (mkW_low W) h2 (drP_10 (fun h => by have := okE_teeth h; omega)))
  rw [epiR_01 h]
  rw [h] at VE
  clear hS h
  have E3 : ∃ x3 y3 c3, dr3 s r p c s r 1 1 0 1 = (x3, y3, c3) := ⟨_, _, _, rfl⟩
  obtain ⟨x3, y3, c3, e3⟩ := E3
  rw [e3] at SA ⊢
  clear e3
  go_enter Tryd.func40, Tryd.ntmps40
  go_wp2_with fail
  generalize (w.alloc (.cells #[.int .i64 s, .int .i64 r, .int .i64 p, .int .i64 c] 25)).alloc (.cells #[.int .i64 0, .int .i64 0] 27) = W0 at *
  generalize hk : w.heap.size = k at *
  have hle : w.heap.size ≤ k + 1 := by omega
  refine (VE.out _ (HS.out.keep D0.out.l)).mono ?_
  rintro e w1 ⟨rfl, hb⟩
  have D1 := Lib.hid (D0.out.keep hb)
  clear hb
  obtain ⟨z0, z1, z2, z3, z4⟩ := D1.out.r
  go_wp2_with fail
  refine (memberAt_0 _).mono ?_
  rintro e w2 ⟨rfl, rfl⟩
  go_wp2_with fail
  refine (memberAt_1 _).mono ?_
  rintro e w2 ⟨rfl, rfl⟩
  go_wp2_with fail
  have D1d := Lib.hid (D1.out.keep (bR _).drew)
  have S1d := Lib.hid (HS.out.keep D1d.out.l)
  have na := na_1
  have me := me_1
  obtain ⟨e0, e1, e2, e4, _⟩ := D1.out.e
  clear D0 VE HS z0 z1 z2 z3 z4
  go_region_with (first
    | (go_at_call 81; refine (oneTurnOf_0 _).mono ?_; rintro e w5 ⟨rfl, hb⟩; have D5 := Lib.hid (D1d.out.keep hb); have S5 := Lib.hid (S1d.out.keep hb); obtain ⟨u0, u1, u2, u4, _⟩ := D5.out.e)
    | (go_at_call 159; refine (SA.out _ S5.out).mono ?_; rintro e w6 ⟨rfl, hb⟩; have D6 := Lib.hid (D5.out.keep hb); obtain ⟨z0, z1, z2, z3, z4⟩ := D6.out.r))
  all_goals go_wp2_with fail
  all_goals refine bodyPost_ret (v := .tuple #[.agg #[.int .i64 x3, .int .i64 y3], .int .i64 c3]) ?_ rfl ⟨rfl, ?_⟩
  all_goals first | (simp [Act.put, results, Tryd.results40, go_sem, z0, z1]; done) | exact (D6.out.l.setCell hle _).setCell hle _
set_option maxRecDepth 100000 in
set_option maxHeartbeats 4000000 in
theorem EpiRatioI_02 (s r p c : Int) (w : World) (hS : Sines w) (h : okE s r p c = true) : Calls Tryd.prog 40 #[.agg #[.int .i64 s, .int .i64 r, .int .i64 p, .int .i64 c], .int .i64 0, .int .i64 2] w (RatC3 w (epiR s r p c 0 2)) := by
  have D0 := Lib.hid (ErS.start w s r p c 25 27)
  have HS := Lib.hid hS
  have VE := Lib.hid (fun W h => ValidEpiI_any s r p c W h)
  have SA := Lib.hid (fun W (h2 : Sines W) => speedAmong_2 s r p c 1 1 0 1 0 1 W (mkW_low W) h2 (caP_of (.inr rfl) (.inl rfl)))
  rw [epiR_02 h]
  rw [h] at VE
  clear hS h
  have E3 : ∃ x3 y3 c3, ca3 s r p c 1 1 0 1 = (x3, y3, c3) := ⟨_, _, _, rfl⟩
  obtain ⟨x3, y3, c3, e3⟩ := E3
  rw [e3] at SA ⊢
  clear e3
  go_enter Tryd.func40, Tryd.ntmps40
  go_wp2_with fail
  generalize (w.alloc (.cells #[.int .i64 s, .int .i64 r, .int .i64 p, .int .i64 c] 25)).alloc (.cells #[.int .i64 0, .int .i64 0] 27) = W0 at *
  generalize hk : w.heap.size = k at *
  have hle : w.heap.size ≤ k + 1 := by omega
  refine (VE.out _ (HS.out.keep D0.out.l)).mono ?_
  rintro e w1 ⟨rfl, hb⟩
  have D1 := Lib.hid (D0.out.keep hb)
  clear hb
  obtain ⟨z0, z1, z2, z3, z4⟩ := D1.out.r
  go_wp2_with fail
  refine (memberAt_0 _).mono ?_
  rintro e w2 ⟨rfl, rfl⟩
  go_wp2_with fail
  refine (memberAt_2 _).mono ?_
  rintro e w2 ⟨rfl, rfl⟩
  go_wp2_with fail
  have D1d := Lib.hid (D1.out.keep (bR _).drew)
  have S1d := Lib.hid (HS.out.keep D1d.out.l)
  have na := na_2
  have me := me_2
  obtain ⟨e0, e1, e2, e4, _⟩ := D1.out.e
  clear D0 VE HS z0 z1 z2 z3 z4
  go_region_with (first
    | (go_at_call 81; refine (oneTurnOf_0 _).mono ?_; rintro e w5 ⟨rfl, hb⟩; have D5 := Lib.hid (D1d.out.keep hb); have S5 := Lib.hid (S1d.out.keep hb); obtain ⟨u0, u1, u2, u4, _⟩ := D5.out.e)
    | (go_at_call 160; refine (SA.out _ S5.out).mono ?_; rintro e w6 ⟨rfl, hb⟩; have D6 := Lib.hid (D5.out.keep hb); obtain ⟨z0, z1, z2, z3, z4⟩ := D6.out.r))
  all_goals go_wp2_with fail
  all_goals refine bodyPost_ret (v := .tuple #[.agg #[.int .i64 x3, .int .i64 y3], .int .i64 c3]) ?_ rfl ⟨rfl, ?_⟩
  all_goals first | (simp [Act.put, results, Tryd.results40, go_sem, z0, z1]; done) | exact (D6.out.l.setCell hle _).setCell hle _
set_option maxRecDepth 100000 in
set_option maxHeartbeats 4000000 in
theorem EpiRatioI_10 (s r p c : Int) (w : World) (hS : Sines w) (h : okE s r p c = true) : Calls Tryd.prog 40 #[.agg #[.int .i64 s, .int .i64 r, .int .i64 p, .int .i64 c], .int .i64 1, .int .i64 0] w (RatC3 w (epiR s r p c 1 0)) := by
  have D0 := Lib.hid (ErS.start w s r p c 25 27)
  have HS := Lib.hid hS
  have VE := Lib.hid (fun W h => ValidEpiI_any s r p c W h)
  have SA := Lib.hid (fun W (h2 : Sines W) => speedAmong_0 s r p c 0 1 1 1 0 1 W (mkW_low W) h2 (drP_10 (fun h => by have := okE_teeth h; omega)))
  rw [epiR_10 h]
  rw [h] at VE
  clear hS h
  have E3 : ∃ x3 y3 c3, dr3 s r p c r s 1 1 0 1 = (x3, y3, c3) := ⟨_, _, _, rfl⟩
  obtain ⟨x3, y3, c3, e3⟩ := E3
  rw [e3] at SA ⊢
  clear e3
  go_enter Tryd.func40, Tryd.ntmps40
  go_wp2_with fail
  generalize (w.alloc (.cells #[.int .i64 s, .int .i64 r, .int .i64 p, .int .i64 c] 25)).alloc (.cells #[.int .i64 0, .int .i64 0] 27) = W0 at *
  generalize hk : w.heap.size = k at *
  have hle : w.heap.size ≤ k + 1 := by omega
  refine (VE.out _ (HS.out.keep D0.out.l)).mono ?_
  rintro e w1 ⟨rfl, hb⟩
  have D1 := Lib.hid (D0.out.keep hb)
  clear hb
  obtain ⟨z0, z1, z2, z3, z4⟩ := D1.out.r
  go_wp2_with fail
  refine (memberAt_1 _).mono ?_
  rintro e w2 ⟨rfl, rfl⟩
  go_wp2_with fail
  refine (memberAt_0 _).mono ?_
  rintro e w2 ⟨rfl, rfl⟩
  go_wp2_with fail
  have D1d := Lib.hid (D1.out.keep (bR _).drew)
  have S1d := Lib.hid (HS.out.keep D1d.out.l)
  have na := na_0
  have me := me_0
  obtain ⟨e0, e1, e2, e4, _⟩ := D1.out.e
  clear D0 VE HS z0 z1 z2 z3 z4
  go_region_with (first
    | (go_at_call 81; refine (oneTurnOf_1 _).mono ?_; rintro e w5 ⟨rfl, hb⟩; have D5 := Lib.hid (D1d.out.keep hb); have S5 := Lib.hid (S1d.out.keep hb); obtain ⟨u0, u1, u2, u4, _⟩ := D5.out.e)
    | (go_at_call 158; refine (SA.out _ S5.out).mono ?_; rintro e w6 ⟨rfl, hb⟩; have D6 := Lib.hid (D5.out.keep hb); obtain ⟨z0, z1, z2, z3, z4⟩ := D6.out.r))
  all_goals go_wp2_with fail
  all_goals refine bodyPost_ret (v := .tuple #[.agg #[.int .i64 x3, .int .i64 y3], .int .i64 c3]) ?_ rfl ⟨rfl, ?_⟩
  all_goals first | (simp [Act.put, results, Tryd.results40, go_sem, z0, z1]; done) | exact (D6.out.l.setCell hle _).setCell hle _
set_option maxRecDepth 100000 in
set_option maxHeartbeats 4000000 in
theorem EpiRatioI_12 (s r p c : Int) (w : World) (hS : Sines w) (h : okE s r p c = true) : Calls Tryd.prog 40 #[.agg #[.int .i64 s, .int .i64 r, .int .i64 p, .int .i64 c], .int .i64 1, .int .i64 2] w (RatC3 w (epiR s r p c 1 2)) := by
  have D0 := Lib.hid (ErS.start w s r p c 25 27)
  have HS := Lib.hid hS
  have VE := Lib.hid (fun W h => ValidEpiI_any s r p c W h)
  have SA := Lib.hid (fun W (h2 : Sines W) => speedAmong_2 s r p c 0 1 1 1 0 1 W (mkW_low W) h2 (caP_of (.inl rfl) (.inr rfl)))
  rw [epiR_12 h]
  rw [h] at VE
  clear hS h
  have E3 : ∃ x3 y3 c3, ca3 s r p c 0 1 1 1 = (x3, y3, c3) := ⟨_, _, _, rfl⟩
  obtain ⟨x3, y3, c3, e3⟩ := E3
  rw [e3] at SA ⊢
  clear e3
  go_enter Tryd.func40, Tryd.ntmps40
  go_wp2_with fail
  generalize (w.alloc (.cells #[.int .i64 s, .int .i64 r, .int .i64 p, .int .i64 c] 25)).alloc (.cells #[.int .i64 0, .int .i64 0] 27) = W0 at *
  generalize hk : w.heap.size = k at *
  have hle : w.heap.size ≤ k + 1 := by omega
  refine (VE.out _ (HS.out.keep D0.out.l)).mono ?_
  rintro e w1 ⟨rfl, hb⟩
  have D1 := Lib.hid (D0.out.keep hb)
  clear hb
  obtain ⟨z0, z1, z2, z3, z4⟩ := D1.out.r
  go_wp2_with fail
  refine (memberAt_1 _).mono ?_
  rintro e w2 ⟨rfl, rfl⟩
  go_wp2_with fail
  refine (memberAt_2 _).mono ?_
  rintro e w2 ⟨rfl, rfl⟩
  go_wp2_with fail
  have D1d := Lib.hid (D1.out.keep (bR _).drew)
  have S1d := Lib.hid (HS.out.keep D1d.out.l)
  have na := na_2
  have me := me_2
  obtain ⟨e0, e1, e2, e4, _⟩ := D1.out.e
  clear D0 VE HS z0 z1 z2 z3 z4
  go_region_with (first
    | (go_at_call 81; refine (oneTurnOf_1 _).mono ?_; rintro e w5 ⟨rfl, hb⟩; have D5 := Lib.hid (D1d.out.keep hb); have S5 := Lib.hid (S1d.out.keep hb); obtain ⟨u0, u1, u2, u4, _⟩ := D5.out.e)
    | (go_at_call 160; refine (SA.out _ S5.out).mono ?_; rintro e w6 ⟨rfl, hb⟩; have D6 := Lib.hid (D5.out.keep hb); obtain ⟨z0, z1, z2, z3, z4⟩ := D6.out.r))
  all_goals go_wp2_with fail
  all_goals refine bodyPost_ret (v := .tuple #[.agg #[.int .i64 x3, .int .i64 y3], .int .i64 c3]) ?_ rfl ⟨rfl, ?_⟩
  all_goals first | (simp [Act.put, results, Tryd.results40, go_sem, z0, z1]; done) | exact (D6.out.l.setCell hle _).setCell hle _
set_option maxRecDepth 100000 in
set_option maxHeartbeats 4000000 in
theorem EpiRatioI_20 (s r p c : Int) (w : World) (hS : Sines w) (h : okE s r p c = true) : Calls Tryd.prog 40 #[.agg #[.int .i64 s, .int .i64 r, .int .i64 p, .int .i64 c], .int .i64 2, .int .i64 0] w (RatC3 w (epiR s r p c 2 0)) := by
  have D0 := Lib.hid (ErS.start w s r p c 25 27)
  have HS := Lib.hid hS
  have VE := Lib.hid (fun W h => ValidEpiI_any s r p c W h)
  have SA := Lib.hid (fun W (h2 : Sines W) => speedAmong_0 s r p c 0 1 0 1 1 1 W (mkW_low W) h2 (drP_01 (fun h => by have := okE_teeth h; omega)))
  rw [epiR_20 h]
  rw [h] at VE
  clear hS h
  have E3 : ∃ x3 y3 c3, dr3 s r p c r s 0 1 1 1 = (x3, y3, c3) := ⟨_, _, _, rfl⟩
  obtain ⟨x3, y3, c3, e3⟩ := E3
  rw [e3] at SA ⊢
  clear e3
  go_enter Tryd.func40, Tryd.ntmps40
  go_wp2_with fail
  generalize (w.alloc (.cells #[.int .i64 s, .int .i64 r, .int .i64 p, .int .i64 c] 25)).alloc (.cells #[.int .i64 0, .int .i64 0] 27) = W0 at *
  generalize hk : w.heap.size = k at *
  have hle : w.heap.size ≤ k + 1 := by omega
  refine (VE.out _ (HS.out.keep D0.out.l)).mono ?_
  rintro e w1 ⟨rfl, hb⟩
  have D1 := Lib.hid (D0.out.keep hb)
  clear hb
  obtain ⟨z0, z1, z2, z3, z4⟩ := D1.out.r
  go_wp2_with fail
  refine (memberAt_2 _).mono ?_
  rintro e w2 ⟨rfl, rfl⟩
  go_wp2_with fail
  refine (memberAt_0 _).mono ?_
  rintro e w2 ⟨rfl, rfl⟩
  go_wp2_with fail
  have D1d := Lib.hid (D1.out.keep (bR _).drew)
  have S1d := Lib.hid (HS.out.keep D1d.out.l)
  have na := na_0
  have me := me_0
  obtain ⟨e0, e1, e2, e4, _⟩ := D1.out.e
  clear D0 VE HS z0 z1 z2 z3 z4
  go_region_with (first
    | (go_at_call 81; refine (oneTurnOf_2 _).mono ?_; rintro e w5 ⟨rfl, hb⟩; have D5 := Lib.hid (D1d.out.keep hb); have S5 := Lib.hid (S1d.out.keep hb); obtain ⟨u0, u1, u2, u4, _⟩ := D5.out.e)
    | (go_at_call 158; refine (SA.out _ S5.out).mono ?_; rintro e w6 ⟨rfl, hb⟩; have D6 := Lib.hid (D5.out.keep hb); obtain ⟨z0, z1, z2, z3, z4⟩ := D6.out.r))
  all_goals go_wp2_with fail
  all_goals refine bodyPost_ret (v := .tuple #[.agg #[.int .i64 x3, .int .i64 y3], .int .i64 c3]) ?_ rfl ⟨rfl, ?_⟩
  all_goals first | (simp [Act.put, results, Tryd.results40, go_sem, z0, z1]; done) | exact (D6.out.l.setCell hle _).setCell hle _
set_option maxRecDepth 100000 in
set_option maxHeartbeats 4000000 in
theorem EpiRatioI_21 (s r p c : Int) (w : World) (hS : Sines w) (h : okE s r p c = true) : Calls Tryd.prog 40 #[.agg #[.int .i64 s, .int .i64 r, .int .i64 p, .int .i64 c], .int .i64 2, .int .i64 1] w (RatC3 w (epiR s r p c 2 1)) := by
  have D0 := Lib.hid (ErS.start w s r p c 25 27)
  have HS := Lib.hid hS
  have VE := Lib.hid (fun W h => ValidEpiI_any s r p c W h)
  have SA := Lib.hid (fun W (h2 : Sines W) => speedAmong_1 s r p c 0 1 0 1 1 1 W (mkW_low W) h2 (drP_01 (fun h => by have := okE_teeth h; omega)))
  rw [epiR_21 h]
  rw [h] at VE
  clear hS h
  have E3 : ∃ x3 y3 c3, dr3 s r p c s r 0 1 1 1 = (x3, y3, c3) := ⟨_, _, _, rfl⟩
  obtain ⟨x3, y3, c3, e3⟩ := E3
  rw [e3] at SA ⊢
  clear e3
  go_enter Tryd.func40, Tryd.ntmps40
  go_wp2_with fail
  generalize (w.alloc (.cells #[.int .i64 s, .int .i64 r, .int .i64 p, .int .i64 c] 25)).alloc (.cells #[.int .i64 0, .int .i64 0] 27) = W0 at *
  generalize hk : w.heap.size = k at *
  have hle : w.heap.size ≤ k + 1 := by omega
  refine (VE.out _ (HS.out.keep D0.out.l)).mono ?_
  rintro e w1 ⟨rfl, hb⟩
  have D1 := Lib.hid (D0.out.keep hb)
  clear hb
  obtain ⟨z0, z1, z2, z3, z4⟩ := D1.out.r
  go_wp2_with fail
  refine (memberAt_2 _).mono ?_
  rintro e w2 ⟨rfl, rfl⟩
  go_wp2_with fail
  refine (memberAt_1 _).mono ?_
  rintro e w2 ⟨rfl, rfl⟩
  go_wp2_with fail
  have D1d := Lib.hid (D1.out.keep (bR _).drew)
  have S1d := Lib.hid (HS.out.keep D1d.out.l)
  have na := na_1
  have me := me_1
  obtain ⟨e0, e1, e2, e4, _⟩ := D1.out.e
  clear D0 VE HS z0 z1 z2 z3 z4
  go_region_with (first
    | (go_at_call 81; refine (oneTurnOf_2 _).mono ?_; rintro e w5 ⟨rfl, hb⟩; have D5 := Lib.hid (D1d.out.keep hb); have S5 := Lib.hid (S1d.out.keep hb); obtain ⟨u0, u1, u2, u4, _⟩ := D5.out.e)
    | (go_at_call 159; refine (SA.out _ S5.out).mono ?_; rintro e w6 ⟨rfl, hb⟩; have D6 := Lib.hid (D5.out.keep hb); obtain ⟨z0, z1, z2, z3, z4⟩ := D6.out.r))
  all_goals go_wp2_with fail
  all_goals refine bodyPost_ret (v := .tuple #[.agg #[.int .i64 x3, .int .i64 y3], .int .i64 c3]) ?_ rfl ⟨rfl, ?_⟩
  all_goals first | (simp [Act.put, results, Tryd.results40, go_sem, z0, z1]; done) | exact (D6.out.l.setCell hle _).setCell hle _
end Go.Proofs.YtcklcledchboiaaDoor

/-
  The members of planetary gears: the contracts of impl.memberAt, impl.oneTurnOf and of the members' speedAmong.
-/
import Derived.Test.YtcklcledchboiaaDoorCarS
namespace Go.Proofs.YtcklcledchboiaaDoor
open Go.RowKit

theorem memberAt_0 (w : World) : Calls Tryd.prog 80 #[.int .i64 0] w fun e w' => e = .returned (.tuple #[.iface 113 (.agg #[]), .bool true]) ∧ w = w' := by
  go_enter Tryd.func80, Tryd.ntmps80
  go_wp2_with fail
  go_ret2
  exact ⟨rfl, rfl⟩
theorem memberAt_1 (w : World) : Calls Tryd.prog 80 #[.int .i64 1] w fun e w' => e = .returned (.tuple #[.iface 114 (.agg #[]), .bool true]) ∧ w = w' := by
  go_enter Tryd.func80, Tryd.ntmps80
  go_wp2_with fail
  go_ret2
  exact ⟨rfl, rfl⟩
theorem memberAt_2 (w : World) : Calls Tryd.prog 80 #[.int .i64 2] w fun e w' => e = .returned (.tuple #[.iface 115 (.agg #[]), .bool true]) ∧ w = w' := by
  go_enter Tryd.func80, Tryd.ntmps80
  go_wp2_with fail
  go_ret2
  exact ⟨rfl, rfl⟩
theorem memberAt_no (x : Int) (w : World) (h : inB x 0 2 = false) : Calls Tryd.prog 80 #[.int .i64 x] w fun e w' => e = .returned (.tuple #[.nilIface, .bool false]) ∧ w = w' := by
  have h0 : ¬ (0 ≤ x ∧ x ≤ 2) := inB_false.1 h
  have z0 : (x == 0) = false := by rw [beq_eq_false_iff_ne]; omega
  have z1 : (x == 1) = false := by rw [beq_eq_false_iff_ne]; omega
  have z2 : (x == 2) = false := by rw [beq_eq_false_iff_ne]; omega
  have y0 : ¬ x = 0 := by omega
  have y1 : ¬ x = 1 := by omega
  have y2 : ¬ x = 2 := by omega
  clear h h0
  go_enter Tryd.func80, Tryd.ntmps80
  go_wp2_with fail
  go_ret2
  exact ⟨rfl, rfl⟩
theorem ta_00 (w : World) : (Instr.typeAssert (.iface 113 (.agg #[])) 84 113 true).run Tryd.prog w = .ok (.tuple #[.agg #[], .bool true]) w := by kernel_rfl
theorem ta_01 (w : World) : (Instr.typeAssert (.iface 113 (.agg #[])) 84 114 true).run Tryd.prog w = .ok (.tuple #[.agg #[], .bool false]) w := by kernel_rfl
theorem ta_02 (w : World) : (Instr.typeAssert (.iface 113 (.agg #[])) 84 115 true).run Tryd.prog w = .ok (.tuple #[.agg #[], .bool false]) w := by kernel_rfl
theorem ta_10 (w : World) : (Instr.typeAssert (.iface 114 (.agg #[])) 84 113 true).run Tryd.prog w = .ok (.tuple #[.agg #[], .bool false]) w := by kernel_rfl
theorem ta_11 (w : World) : (Instr.typeAssert (.iface 114 (.agg #[])) 84 114 true).run Tryd.prog w = .ok (.tuple #[.agg #[], .bool true]) w := by kernel_rfl
theorem ta_12 (w : World) : (Instr.typeAssert (.iface 114 (.agg #[])) 84 115 true).run Tryd.prog w = .ok (.tuple #[.agg #[], .bool false]) w := by kernel_rfl
theorem ta_20 (w : World) : (Instr.typeAssert (.iface 115 (.agg #[])) 84 113 true).run Tryd.prog w = .ok (.tuple #[.agg #[], .bool false]) w := by kernel_rfl
theorem ta_21 (w : World) : (Instr.typeAssert (.iface 115 (.agg #[])) 84 114 true).run Tryd.prog w = .ok (.tuple #[.agg #[], .bool false]) w := by kernel_rfl
theorem ta_22 (w : World) : (Instr.typeAssert (.iface 115 (.agg #[])) 84 115 true).run Tryd.prog w = .ok (.tuple #[.agg #[], .bool true]) w := by kernel_rfl
set_option maxRecDepth 100000 in
set_option maxHeartbeats 1000000 in
theorem oneTurnOf_0 (w : World) : Calls Tryd.prog 81 #[.iface 113 (.agg #[])] w fun e w' => e = .returned (.agg #[.int .i64 1, .int .i64 1, .int .i64 0, .int .i64 1, .int .i64 0, .int .i64 1]) ∧ Below w.heap.size w w' := by
  have t0 := ta_00
  have t1 := ta_01
  have t2 := ta_02
  go_enter Tryd.func81, Tryd.ntmps81
  go_wp2_with fail
  refine bodyPost_ret (v := .agg #[.int .i64 1, .int .i64 1, .int .i64 0, .int .i64 1, .int .i64 0, .int .i64 1]) ?_ rfl ⟨rfl, ?_⟩
  · simp [results, Tryd.results81, go_sem]
  · first | exact bA (bA (bA (bA (bR _) _) _) _) _ | exact bA (bA (bA (bR _) _) _) _ | trace_state
set_option maxRecDepth 100000 in
set_option maxHeartbeats 1000000 in
theorem oneTurnOf_1 (w : World) : Calls Tryd.prog 81 #[.iface 114 (.agg #[])] w fun e w' => e = .returned (.agg #[.int .i64 0, .int .i64 1, .int .i64 1, .int .i64 1, .int .i64 0, .int .i64 1]) ∧ Below w.heap.size w w' := by
  have t0 := ta_10
  have t1 := ta_11
  have t2 := ta_12
  go_enter Tryd.func81, Tryd.ntmps81
  go_wp2_with fail
  refine bodyPost_ret (v := .agg #[.int .i64 0, .int .i64 1, .int .i64 1, .int .i64 1, .int .i64 0, .int .i64 1]) ?_ rfl ⟨rfl, ?_⟩
  · simp [results, Tryd.results81, go_sem]
  · first | exact bA (bA (bA (bA (bR _) _) _) _) _ | exact bA (bA (bA (bR _) _) _) _ | trace_state
set_option maxRecDepth 100000 in
set_option maxHeartbeats 1000000 in
theorem oneTurnOf_2 (w : World) : Calls Tryd.prog 81 #[.iface 115 (.agg #[])] w fun e w' => e = .returned (.agg #[.int .i64 0, .int .i64 1, .int .i64 0, .int .i64 1, .int .i64 1, .int .i64 1]) ∧ Below w.heap.size w w' := by
  have t0 := ta_20
  have t1 := ta_21
  have t2 := ta_22
  go_enter Tryd.func81, Tryd.ntmps81
  go_wp2_with fail
  refine bodyPost_ret (v := .agg #[.int .i64 0, .int .i64 1, .int .i64 0, .int .i64 1, .int .i64 1, .int .i64 1]) ?_ rfl ⟨rfl, ?_⟩
  · simp [results, Tryd.results81, go_sem]
  · first | exact bA (bA (bA (bA (bR _) _) _) _) _ | exact bA (bA (bA (bR _) _) _) _ | trace_state
set_option maxRecDepth 100000 in
set_option maxHeartbeats 4000000 in
theorem speedAmong_0 (s r p c n1 d1 n2 d2 n3 d3 : Int) (w : World) {P : Int → Int → Prop} (hM : MkW w P) (hS : Sines w) (hP : DrP P s r p c r s n2 d2 n3 d3) :
    Calls Tryd.prog 158 #[.agg #[], .agg #[.int .i64 s, .int .i64 r, .int .i64 p, .int .i64 c], .agg #[.int .i64 n1, .int .i64 d1, .int .i64 n2, .int .i64 d2, .int .i64 n3, .int .i64 d3]] w (RatC3 w (dr3 s r p c r s n2 d2 n3 d3)) := by
  have DR := Lib.hid (fun W (h1 : MkW W P) (h2 : Sines W) => SunOfI_any s r p c n2 d2 n3 d3 W h1 h2 hP)
  have B0 := Lib.hid (show Box2 ((((w.alloc (.cells #[] 113)).alloc (.cells #[.int .i64 s, .int .i64 r, .int .i64 p, .int .i64 c] 25)).alloc (.cells #[.int .i64 n1, .int .i64 d1, .int .i64 n2, .int .i64 d2, .int .i64 n3, .int .i64 d3] 89)).alloc (.cells #[.int .i64 0, .int .i64 0] 27)) (w.heap.size + 1 + 1 + 1) 0 0 from Box2.at_ (by simp))
  have L0 := Lib.hid (bA (bA (bA (bA (bR w) (.cells #[] 113)) (.cells #[.int .i64 s, .int .i64 r, .int .i64 p, .int .i64 c] 25)) (.cells #[.int .i64 n1, .int .i64 d1, .int .i64 n2, .int .i64 d2, .int .i64 n3, .int .i64 d3] 89)) (.cells #[.int .i64 0, .int .i64 0] 27))
  have HS := Lib.hid hS
  have HM := Lib.hid hM
  clear hS hM hP
  have E3 : ∃ x3 y3 c3, dr3 s r p c r s n2 d2 n3 d3 = (x3, y3, c3) := ⟨_, _, _, rfl⟩
  obtain ⟨x3, y3, c3, e3⟩ := E3
  rw [e3] at DR ⊢
  clear e3
  go_enter Tryd.func158, Tryd.ntmps158
  go_wp2_with fail
  refine (DR.out _ (HM.out.keep L0.out) (HS.out.keep L0.out)).mono ?_
  rintro e w1 ⟨rfl, hb⟩
  have L1 := Lib.hid (bT L0.out hb)
  obtain ⟨z0, z1, z2, z3, z4⟩ := B0.out.keep hb
  clear hb
  go_wp2_with fail
  refine bodyPost_ret (v := .tuple #[.agg #[.int .i64 x3, .int .i64 y3], .int .i64 c3]) ?_ rfl ⟨rfl, (L1.out.setCell (by show w.heap.size ≤ w.heap.size + 1 + 1 + 1; omega) _).setCell (by show w.heap.size ≤ w.heap.size + 1 + 1 + 1; omega) _⟩
  simp [results, Tryd.results158, go_sem, z0, z1]
set_option maxRecDepth 100000 in
set_option maxHeartbeats 4000000 in
theorem speedAmong_1 (s r p c n1 d1 n2 d2 n3 d3 : Int) (w : World) {P : Int → Int → Prop} (hM : MkW w P) (hS : Sines w) (hP : DrP P s r p c s r n1 d1 n3 d3) :
    Calls Tryd.prog 159 #[.agg #[], .agg #[.int .i64 s, .int .i64 r, .int .i64 p, .int .i64 c], .agg #[.int .i64 n1, .int .i64 d1, .int .i64 n2, .int .i64 d2, .int .i64 n3, .int .i64 d3]] w (RatC3 w (dr3 s r p c s r n1 d1 n3 d3)) := by
  have DR := Lib.hid (fun W (h1 : MkW W P) (h2 : Sines W) => RingOfI_any s r p c n1 d1 n3 d3 W h1 h2 hP)
  have B0 := Lib.hid (show Box2 ((((w.alloc (.cells #[] 114)).alloc (.cells #[.int .i64 s, .int .i64 r, .int .i64 p, .int .i64 c] 25)).alloc (.cells #[.int .i64 n1, .int .i64 d1, .int .i64 n2, .int .i64 d2, .int .i64 n3, .int .i64 d3] 89)).alloc (.cells #[.int .i64 0, .int .i64 0] 27)) (w.heap.size + 1 + 1 + 1) 0 0 from Box2.at_ (by simp))
  have L0 := Lib.hid (bA (bA (bA (bA (bR w) (.cells #[] 114)) (.cells #[.int .i64 s, .int .i64 r, .int .i64 p, .int .i64 c] 25)) (.cells #[.int .i64 n1, .int .i64 d1, .int .i64 n2, .int .i64 d2, .int .i64 n3, .int .i64 d3] 89)) (.cells #[.int .i64 0, .int .i64 0] 27))
  have HS := Lib.hid hS
  have HM := Lib.hid hM
  clear hS hM hP
  have E3 : ∃ x3 y3 c3, dr3 s r p c s r n1 d1 n3 d3 = (x3, y3, c3) := ⟨_, _, _, rfl⟩
  obtain ⟨x3, y3, c3, e3⟩ := E3
  rw [e3] at DR ⊢
  clear e3
  go_enter Tryd.func159, Tryd.ntmps159
  go_wp2_with fail
  refine (DR.out _ (HM.out.keep L0.out) (HS.out.keep L0.out)).mono ?_
  rintro e w1 ⟨rfl, hb⟩
  have L1 := Lib.hid (bT L0.out hb)
  obtain ⟨z0, z1, z2, z3, z4⟩ := B0.out.keep hb
  clear hb
  go_wp2_with fail
  refine bodyPost_ret (v := .tuple #[.agg #[.int .i64 x3, .int .i64 y3], .int .i64 c3]) ?_ rfl ⟨rfl, (L1.out.setCell (by show w.heap.size ≤ w.heap.size + 1 + 1 + 1; omega) _).setCell (by show w.heap.size ≤ w.heap.size + 1 + 1 + 1; omega) _⟩
  simp [results, Tryd.results159, go_sem, z0, z1]
set_option maxRecDepth 100000 in
set_option maxHeartbeats 4000000 in
theorem speedAmong_2 (s r p c n1 d1 n2 d2 n3 d3 : Int) (w : World) {P : Int → Int → Prop} (hM : MkW w P) (hS : Sines w) (hP : CaP P s r p c n1 d1 n2 d2) :
    Calls Tryd.prog 160 #[.agg #[], .agg #[.int .i64 s, .int .i64 r, .int .i64 p, .int .i64 c], .agg #[.int .i64 n1, .int .i64 d1, .int .i64 n2, .int .i64 d2, .int .i64 n3, .int .i64 d3]] w (RatC3 w (ca3 s r p c n1 d1 n2 d2)) := by
  have DR := Lib.hid (fun W (h1 : MkW W P) (h2 : Sines W) => CarrierOfI_any s r p c n1 d1 n2 d2 W h1 h2 hP)
  have B0 := Lib.hid (show Box2 ((((w.alloc (.cells #[] 115)).alloc (.cells #[.int .i64 s, .int .i64 r, .int .i64 p, .int .i64 c] 25)).alloc (.cells #[.int .i64 n1, .int .i64 d1, .int .i64 n2, .int .i64 d2, .int .i64 n3, .int .i64 d3] 89)).alloc (.cells #[.int .i64 0, .int .i64 0] 27)) (w.heap.size + 1 + 1 + 1) 0 0 from Box2.at_ (by simp))
  have L0 := Lib.hid (bA (bA (bA (bA (bR w) (.cells #[] 115)) (.cells #[.int .i64 s, .int .i64 r, .int .i64 p, .int .i64 c] 25)) (.cells #[.int .i64 n1, .int .i64 d1, .int .i64 n2, .int .i64 d2, .int .i64 n3, .int .i64 d3] 89)) (.cells #[.int .i64 0, .int .i64 0] 27))
  have HS := Lib.hid hS
  have HM := Lib.hid hM
  clear hS hM hP
  have E3 : ∃ x3 y3 c3, ca3 s r p c n1 d1 n2 d2 = (x3, y3, c3) := ⟨_, _, _, rfl⟩
  obtain ⟨x3, y3, c3, e3⟩ := E3
  rw [e3] at DR ⊢
  clear e3
  go_enter Tryd.func160, Tryd.ntmps160
  go_wp2_with fail
  refine (DR.out _ (HM.out.keep L0.out) (HS.out.keep L0.out)).mono ?_
  rintro e w1 ⟨rfl, hb⟩
  have L1 := Lib.hid (bT L0.out hb)
  obtain ⟨z0, z1, z2, z3, z4⟩ := B0.out.keep hb
  clear hb
  go_wp2_with fail
  refine bodyPost_ret (v := .tuple #[.agg #[.int .i64 x3, .int .i64 y3], .int .i64 c3]) ?_ rfl ⟨rfl, (L1.out.setCell (by show w.heap.size ≤ w.heap.size + 1 + 1 + 1; omega) _).setCell (by show w.heap.size ≤ w.heap.size + 1 + 1 + 1; omega) _⟩
  simp [results, Tryd.results160, go_sem, z0, z1]
end Go.Proofs.YtcklcledchboiaaDoor

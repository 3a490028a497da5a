/-
  The walk of laws.FnExactAddDays.
-/
import Derived.Test.YtbkhejideffflaaDyW
import Derived.Test.YtbkhejideffflaaDtU
import Derived.Test.YtbkhejideffflaaDtW
namespace Go.Proofs.Ytbkhejideffflaa
open Go.RowKit

set_option maxRecDepth 100000 in
set_option maxHeartbeats 8000000 in
theorem FnExactAddDays_walk (x : Value) (c : Cal) (a0 a1 a2 : Int) (k : Int) (w : World) (h : IsC w x c) (hb1 : -9223372036854775808 ≤ a1 ∧ a1 ≤ 9223372036854775807) :
    Calls Try.prog 6 #[x, .agg #[.int .i64 a0, .int .i64 a1, .int .i64 a2], .int .i64 k] w fun e w' => e = .returned (.bool true) ∧ Below w.heap.size w w' := by
  obtain ⟨pu, pv, rfl, hs, hM, hR⟩ := h
  obtain ⟨z0, z1, z2, hx⟩ := cvV_open c c a0 a1 a2 k
  have CS := Lib.hid (fun x W (h : IsC W x c) => show Calls Try.prog 22 #[x, .agg #[.int .i64 a0, .int .i64 a1, .int .i64 a2], .int .i64 k] W (TupV (.agg #[.int .i64 z0, .int .i64 z1, .int .i64 z2]) (.int .i64 (cvK c c a0 a1 a2 k)) W) from by have := AddDaysS_any c a0 a1 a2 k x W h hb1; rw [hx] at this; exact this)
  have CI := Lib.hid (fun x W (h : IsC W x c) => show Calls Try.prog 23 #[x, .agg #[.int .i64 a0, .int .i64 a1, .int .i64 a2], .int .i64 k] W (TupV (.agg #[.int .i64 z0, .int .i64 z1, .int .i64 z2]) (.int .i64 (cvK c c a0 a1 a2 k)) W) from by have := AddDaysI_any c a0 a1 a2 k x W h hb1; rw [hx] at this; exact this)
  have hne : (cvK c c a0 a1 a2 k != cvK c c a0 a1 a2 k) = false := by simp
  clear hx
  generalize cvK c c a0 a1 a2 k = q2 at *
  obtain ⟨nm, ms, rs, wk⟩ := c
  simp only at hs hM hR
  obtain ⟨p1, p2, rfl, _⟩ := hM.open
  obtain ⟨p3, p4, rfl, _⟩ := hR.open
  have HSZ := Lib.hid hs
  have H0 := Lib.hid (show He1 w w.heap.size (w.heap.size + 1) nm wk (.slice p1 ms.length p2) (.slice p3 rs.length p4) ms rs a0 a1 a2 ((w.alloc (.cells #[.string nm, .slice p1 ms.length p2, .slice p3 rs.length p4, .int .i64 wk] 25)).alloc (.cells #[.int .i64 a0, .int .i64 a1, .int .i64 a2] 27)) from by
    have hL : Below w.heap.size w ((w.alloc (.cells #[.string nm, .slice p1 ms.length p2, .slice p3 rs.length p4, .int .i64 wk] 25)).alloc (.cells #[.int .i64 a0, .int .i64 a1, .int .i64 a2] 27)) := bA (bA (bR _) _) _
    obtain ⟨c0, c1, c2, c3, c4⟩ := ((BoxL.new w [.string nm, .slice p1 ms.length p2, .slice p3 rs.length p4, .int .i64 wk] 25).alloc (.cells #[.int .i64 a0, .int .i64 a1, .int .i64 a2] 27)).c4q
    obtain ⟨d0, d1, d2, d3⟩ := (BoxL.at_ (w := w.alloc (.cells #[.string nm, .slice p1 ms.length p2, .slice p3 rs.length p4, .int .i64 wk] 25)) (b := w.heap.size + 1) (vs := [.int .i64 a0, .int .i64 a1, .int .i64 a2]) (T := 27) (by simp)).c3
    exact ⟨c0, c1, c2, c3, d0, d1, d2, c4, d3, hM.keep hL, hR.keep hL, hL⟩)
  clear hM hR hs
  obtain ⟨c0, c1, c2, c3, d0, d1, d2, c4, d3, _, _, _⟩ := H0.out
  go_enter Try.func6, Try.ntmps6
  go_wp2_with fail
  generalize (w.alloc (.cells #[.string nm, .slice p1 ms.length p2, .slice p3 rs.length p4, .int .i64 wk] 25)).alloc (.cells #[.int .i64 a0, .int .i64 a1, .int .i64 a2] 27) = W0 at *
  generalize hbl : w.heap.size = bl at H0 c0 c1 c2 c3 d0 d1 d2 c4 d3 ⊢
  have HBL := Lib.hid hbl
  clear hbl
  refine (szCalendar_any _ ⟨nm, ms, rs, wk⟩ 1048576 _ ⟨_, _, rfl, HSZ.out, H0.out.2.2.2.2.2.2.2.2.2.1, H0.out.2.2.2.2.2.2.2.2.2.2.1⟩ (by omega) (by omega)).mono ?_
  rintro e w1 ⟨r, rfl, r1, r2, r3, hb⟩
  have H1 := Lib.hid (H0.out.keep hb)
  have R := Lib.hid r3
  clear hb r3 c0 c1 c2 c3 d0 d1 d2 c4 d3 H0
  obtain ⟨c0, c1, c2, c3, d0, d1, d2, c4, d3, _, _, _⟩ := H1.out
  by_cases hr : r < 0
  · go_wp2_with fail
    go_ret
    exact ⟨rfl, H1.out.2.2.2.2.2.2.2.2.2.2.2⟩
  · have HL := Lib.hid (R.out (by omega))
    go_wp2_with fail
    clear c0 c1 c2 c3 d0 d1 d2 c4 d3
    have H1 := Lib.hid H1.out.drew
    have N := Lib.hid (bR w1.drew)
    refine wp_region_held_drew (S := He1 w bl (bl + 1) nm wk (.slice p1 ms.length p2) (.slice p3 rs.length p4) ms rs a0 a1 a2) (by kernel_rfl) H1.out (fun hHeld => ?_)
    generalize w1.drew = Wd at *
    refine wpAnyH_take (i := 0) (oi := { dst := some 19, op := Op.load 25 (Operand.tmp 3), type := 25, pos := "exact.go:6181", after := #[], guard := none }) (v := ?_) rfl (by kernel_rfl) (by kernel_rfl) (by kernel_rfl) (fun _ _ _ h => h) (Or.inl ⟨by rfl, ?_⟩) (by assumption) ?_
    rotate_left 1
    · ((intro w hSw; obtain ⟨s0, s1, s2, s3, s4, s5, s6, s7, s8, s9, s10, s11⟩ := hSw; go_simp; try with_reducible rfl))
    (try simp only [Act.put, List.setIfInBounds_toArray, List.set_cons_zero, List.set_cons_succ])
    refine wpAnyH_take (i := 2) (oi := { dst := some 21, op := Op.load 27 (Operand.tmp 4), type := 27, pos := "exact.go:6181", after := #[], guard := none }) (v := ?_) rfl (by kernel_rfl) (by kernel_rfl) (by kernel_rfl) (fun _ _ _ h => h) (Or.inl ⟨by rfl, ?_⟩) (by assumption) ?_
    rotate_left 1
    · ((intro w hSw; obtain ⟨s0, s1, s2, s3, s4, s5, s6, s7, s8, s9, s10, s11⟩ := hSw; go_simp; try with_reducible rfl))
    (try simp only [Act.put, List.setIfInBounds_toArray, List.set_cons_zero, List.set_cons_succ])
    refine wpAnyH_take (i := 4) (oi := { dst := some 23, op := Op.move (Operand.tmp 2), type := 2, pos := "exact.go:6181", after := #[], guard := none }) (v := ?_) rfl (by kernel_rfl) (by kernel_rfl) (by kernel_rfl) (fun _ _ _ h => h) (Or.inl ⟨by rfl, ?_⟩) (by assumption) ?_
    rotate_left 1
    · ((intro w hSw; obtain ⟨s0, s1, s2, s3, s4, s5, s6, s7, s8, s9, s10, s11⟩ := hSw; go_simp; try with_reducible rfl))
    (try simp only [Act.put, List.setIfInBounds_toArray, List.set_cons_zero, List.set_cons_succ])
    refine wpAnyH_ready (rs := [1, 9]) (by kernel_rfl) (by simp) ?_
    refine AllReadyH.cons (o := { dst := some 20, op := Op.call { callee := Callee.value (Operand.func 13), args := #[Operand.tmp 19], argTypes := #[25] }, type := 33, pos := "exact.go:6181", after := #[{ on := 0, ground := Ground.data }], guard := none }) rfl (fun K hK => ?_) (AllReadyH.cons (o := { dst := some 8, op := Op.alloc 35, type := 0, pos := "exact.go:6181", after := #[], guard := none }) rfl (fun K hK => ?_) AllReadyH.nil)
    case' refine_2 =>
      go_simp
      have B := Lib.hid (BoxL.new Wd [.int .i64 0, .int .i64 0, .int .i64 0] 35)
      have N0 := N.out.size
      have hb := bA (bR Wd) (.cells #[.int .i64 0, .int .i64 0, .int .i64 0] 35)
      replace N := Lib.hid (bT N.out hb)
      refine hK.out _ _ (He1.keep hb hHeld) (fun hN => ?_)
      clear hb
      clear hK K hHeld
      replace hHeld := hN
      clear hN
      generalize Wd.alloc (.cells #[.int .i64 0, .int .i64 0, .int .i64 0] 35) = v2 at *
      generalize hbd : Wd.heap.size = bd at B ⊢
      have G := Lib.hid (show Wd.heap.size ≤ bd by rw [← hbd]; exact N0)
      clear hbd N0
      (try simp only [Act.put, List.setIfInBounds_toArray, List.set_cons_zero, List.set_cons_succ])
      refine wpAnyH_ready (rs := [1]) (by kernel_rfl) (by simp) ?_
      refine AllReadyH.cons (o := { dst := some 20, op := Op.call { callee := Callee.value (Operand.func 13), args := #[Operand.tmp 19], argTypes := #[25] }, type := 33, pos := "exact.go:6181", after := #[{ on := 0, ground := Ground.data }], guard := none }) rfl (fun K hK => ?_) AllReadyH.nil
      go_simp
      go_at_call 13
      refine (toCalendar_any _ ⟨nm, ms, rs, wk⟩ _ ⟨_, _, rfl, HSZ.out, hHeld.2.2.2.2.2.2.2.2.2.1, hHeld.2.2.2.2.2.2.2.2.2.2.1⟩ HL.out).mono ?_
      rintro e v4 ⟨x3, rfl, hA, hb⟩
      replace N := Lib.hid (bT N.out hb)
      replace B := Lib.hid (B.out.keep hb)
      have I := Lib.hid hA.is
      clear hA
      refine hK.out _ _ (He1.keep hb hHeld) (fun hN => ?_)
      clear hb
      clear hK K hHeld
      replace hHeld := hN
      clear hN
      (try simp only [Act.put, List.setIfInBounds_toArray, List.set_cons_zero, List.set_cons_succ])
      refine wpAnyH_ready (rs := [3]) (by kernel_rfl) (by simp) ?_
      refine AllReadyH.cons (o := { dst := some 22, op := Op.call { callee := Callee.value (Operand.func 14), args := #[Operand.tmp 21], argTypes := #[27] }, type := 35, pos := "exact.go:6181", after := #[{ on := 2, ground := Ground.data }, { on := 1, ground := Ground.chain }], guard := none }) rfl (fun K hK => ?_) AllReadyH.nil
      go_simp
      go_at_call 14
      refine (toDateV_any _ _ _ _).mono ?_
      rintro e v6 ⟨rfl, hb⟩
      replace N := Lib.hid (bT N.out hb)
      replace I := Lib.hid (I.out.keep hb)
      replace B := Lib.hid (B.out.keep hb)
      refine hK.out _ _ (He1.keep hb hHeld) (fun hN => ?_)
      clear hb
      clear hK K hHeld
      replace hHeld := hN
      clear hN
      (try simp only [Act.put, List.setIfInBounds_toArray, List.set_cons_zero, List.set_cons_succ])
      refine wpAnyH_ready (rs := [5]) (by kernel_rfl) (by simp) ?_
      refine AllReadyH.cons (o := { dst := some 24, op := Op.call { callee := Callee.value (Operand.func 22), args := #[Operand.tmp 20, Operand.tmp 22, Operand.tmp 23], argTypes := #[33, 35, 2] }, type := 41, pos := "exact.go:6181", after := #[{ on := 1, ground := Ground.data }, { on := 3, ground := Ground.data }, { on := 4, ground := Ground.data }, { on := 3, ground := Ground.chain }], guard := none }) rfl (fun K hK => ?_) AllReadyH.nil
      go_simp
      go_at_call 22
      refine (CS.out _ _ I.out).mono ?_
      rintro e v8 ⟨rfl, hb⟩
      replace N := Lib.hid (bT N.out hb)
      replace I := Lib.hid (I.out.keep hb)
      replace B := Lib.hid (B.out.keep hb)
      refine hK.out _ _ (He1.keep hb hHeld) (fun hN => ?_)
      clear hb
      clear hK K hHeld
      replace hHeld := hN
      clear hN
      (try simp only [Act.put, List.setIfInBounds_toArray, List.set_cons_zero, List.set_cons_succ])
      refine wpAnyH_take (i := 6) (oi := { dst := some 18, op := Op.move (Operand.tmp 24), type := 41, pos := "exact.go:6181", after := #[{ on := 5, ground := Ground.data }], guard := none }) (v := ?_) rfl (by kernel_rfl) (by kernel_rfl) (by kernel_rfl) (fun _ _ _ h => h) (Or.inl ⟨by rfl, ?_⟩) (by assumption) ?_
      rotate_left 1
      · ((intro w hSw; obtain ⟨s0, s1, s2, s3, s4, s5, s6, s7, s8, s9, s10, s11⟩ := hSw; go_simp; try with_reducible rfl))
      (try simp only [Act.put, List.setIfInBounds_toArray, List.set_cons_zero, List.set_cons_succ])
      refine wpAnyH_take (i := 7) (oi := { dst := some 25, op := Op.extract (Operand.tmp 18) 0, type := 35, pos := "exact.go:6181", after := #[{ on := 6, ground := Ground.data }], guard := none }) (v := ?_) rfl (by kernel_rfl) (by kernel_rfl) (by kernel_rfl) (fun _ _ _ h => h) (Or.inl ⟨by rfl, ?_⟩) (by assumption) ?_
      rotate_left 1
      · ((intro w hSw; obtain ⟨s0, s1, s2, s3, s4, s5, s6, s7, s8, s9, s10, s11⟩ := hSw; go_simp; try with_reducible rfl))
      (try simp only [Act.put, List.setIfInBounds_toArray, List.set_cons_zero, List.set_cons_succ])
      refine wpAnyH_take (i := 8) (oi := { dst := some 26, op := Op.extract (Operand.tmp 18) 1, type := 2, pos := "exact.go:6181", after := #[{ on := 6, ground := Ground.data }, { on := 10, ground := Ground.gcOnly Departure.lateStores }], guard := none }) (v := ?_) rfl (by kernel_rfl) (by kernel_rfl) (by kernel_rfl) (fun _ _ _ h => h) (Or.inl ⟨by rfl, ?_⟩) (by assumption) ?_
      rotate_left 1
      · ((intro w hSw; obtain ⟨s0, s1, s2, s3, s4, s5, s6, s7, s8, s9, s10, s11⟩ := hSw; go_simp; try with_reducible rfl))
      (try simp only [Act.put, List.setIfInBounds_toArray, List.set_cons_zero, List.set_cons_succ])
      obtain ⟨y0, y1, y2, _⟩ := B.out.c3
      obtain ⟨y3, y4, y5⟩ := B.out.f3q
      refine wpAnyH_ready (rs := [10]) (by kernel_rfl) (by simp) ?_
      refine AllReadyH.cons (o := { dst := none, op := Op.store 35 (Operand.tmp 8) (Operand.tmp 25), type := 0, pos := "exact.go:6181", after := #[{ on := 9, ground := Ground.data }, { on := 7, ground := Ground.data }, { on := 5, ground := Ground.chain }, { on := 0, ground := Ground.phase }, { on := 1, ground := Ground.phase }, { on := 2, ground := Ground.phase }, { on := 3, ground := Ground.phase }, { on := 4, ground := Ground.phase }, { on := 5, ground := Ground.phase }, { on := 6, ground := Ground.phase }, { on := 7, ground := Ground.phase }, { on := 8, ground := Ground.textOnly Departure.lateStores }, { on := 9, ground := Ground.phase }], guard := none }) rfl (fun K hK => ?_) AllReadyH.nil
      go_simp
      clear y0 y1 y2 y3 y4 y5
      replace B := Lib.hid (BoxL.setQ (i := 2) (v := .int .i64 z2) (BoxL.setQ (i := 1) (v := .int .i64 z1) (BoxL.setQ (i := 0) (v := .int .i64 z0) B.out rfl) rfl) rfl)
      replace N := Lib.hid (((N.out.setCell (p := ⟨bd, 0, none⟩) G.out (.int .i64 z0)).setCell (p := ⟨bd, 1, none⟩) G.out (.int .i64 z1)).setCell (p := ⟨bd, 2, none⟩) G.out (.int .i64 z2))
      refine hK.out _ _ (He1.keep N.out H1.out) (fun hN => ?_)
      clear hK K hHeld
      replace hHeld := hN
      clear hN
      generalize ((v8.setCell ⟨bd, 0, none⟩ (.int .i64 z0)).setCell ⟨bd, 1, none⟩ (.int .i64 z1)).setCell ⟨bd, 2, none⟩ (.int .i64 z2) = v10 at *
      (try simp only [Act.put, List.setIfInBounds_toArray, List.set_cons_zero, List.set_cons_succ])
      refine wpAnyH_take (i := 11) (oi := { dst := some 9, op := Op.assign (Operand.tmp 26), type := 2, pos := "exact.go:6181", after := #[{ on := 8, ground := Ground.data }, { on := 10, ground := Ground.chain }, { on := 0, ground := Ground.phase }, { on := 1, ground := Ground.phase }, { on := 2, ground := Ground.phase }, { on := 3, ground := Ground.phase }, { on := 4, ground := Ground.phase }, { on := 5, ground := Ground.phase }, { on := 6, ground := Ground.phase }, { on := 7, ground := Ground.phase }, { on := 8, ground := Ground.phase }, { on := 9, ground := Ground.phase }, { on := 10, ground := Ground.phase }], guard := none }) (v := ?_) rfl (by kernel_rfl) (by kernel_rfl) (by kernel_rfl) (fun _ _ _ h => h) (Or.inl ⟨by rfl, ?_⟩) (by assumption) ?_
      rotate_left 1
      · ((intro w hSw; obtain ⟨s0, s1, s2, s3, s4, s5, s6, s7, s8, s9, s10, s11⟩ := hSw; go_simp; try with_reducible rfl))
      (try simp only [Act.put, List.setIfInBounds_toArray, List.set_cons_zero, List.set_cons_succ])
      refine wpAnyH_done (by kernel_rfl) ?_ _
    case' refine_1 =>
      go_simp
      go_at_call 13
      refine (toCalendar_any _ ⟨nm, ms, rs, wk⟩ _ ⟨_, _, rfl, HSZ.out, hHeld.2.2.2.2.2.2.2.2.2.1, hHeld.2.2.2.2.2.2.2.2.2.2.1⟩ HL.out).mono ?_
      rintro e v11 ⟨x3, rfl, hA, hb⟩
      replace N := Lib.hid (bT N.out hb)
      have I := Lib.hid hA.is
      clear hA
      refine hK.out _ _ (He1.keep hb hHeld) (fun hN => ?_)
      clear hb
      clear hK K hHeld
      replace hHeld := hN
      clear hN
      (try simp only [Act.put, List.setIfInBounds_toArray, List.set_cons_zero, List.set_cons_succ])
      refine wpAnyH_ready (rs := [3, 9]) (by kernel_rfl) (by simp) ?_
      refine AllReadyH.cons (o := { dst := some 22, op := Op.call { callee := Callee.value (Operand.func 14), args := #[Operand.tmp 21], argTypes := #[27] }, type := 35, pos := "exact.go:6181", after := #[{ on := 2, ground := Ground.data }, { on := 1, ground := Ground.chain }], guard := none }) rfl (fun K hK => ?_) (AllReadyH.cons (o := { dst := some 8, op := Op.alloc 35, type := 0, pos := "exact.go:6181", after := #[], guard := none }) rfl (fun K hK => ?_) AllReadyH.nil)
      case' refine_2 =>
        go_simp
        have B := Lib.hid (BoxL.new v11 [.int .i64 0, .int .i64 0, .int .i64 0] 35)
        have N0 := N.out.size
        have hb := bA (bR v11) (.cells #[.int .i64 0, .int .i64 0, .int .i64 0] 35)
        replace N := Lib.hid (bT N.out hb)
        replace I := Lib.hid (I.out.keep hb)
        refine hK.out _ _ (He1.keep hb hHeld) (fun hN => ?_)
        clear hb
        clear hK K hHeld
        replace hHeld := hN
        clear hN
        generalize v11.alloc (.cells #[.int .i64 0, .int .i64 0, .int .i64 0] 35) = v13 at *
        generalize hbd : v11.heap.size = bd at B ⊢
        have G := Lib.hid (show Wd.heap.size ≤ bd by rw [← hbd]; exact N0)
        clear hbd N0
        (try simp only [Act.put, List.setIfInBounds_toArray, List.set_cons_zero, List.set_cons_succ])
        refine wpAnyH_ready (rs := [3]) (by kernel_rfl) (by simp) ?_
        refine AllReadyH.cons (o := { dst := some 22, op := Op.call { callee := Callee.value (Operand.func 14), args := #[Operand.tmp 21], argTypes := #[27] }, type := 35, pos := "exact.go:6181", after := #[{ on := 2, ground := Ground.data }, { on := 1, ground := Ground.chain }], guard := none }) rfl (fun K hK => ?_) AllReadyH.nil
        go_simp
        go_at_call 14
        refine (toDateV_any _ _ _ _).mono ?_
        rintro e v15 ⟨rfl, hb⟩
        replace N := Lib.hid (bT N.out hb)
        replace I := Lib.hid (I.out.keep hb)
        replace B := Lib.hid (B.out.keep hb)
        refine hK.out _ _ (He1.keep hb hHeld) (fun hN => ?_)
        clear hb
        clear hK K hHeld
        replace hHeld := hN
        clear hN
        (try simp only [Act.put, List.setIfInBounds_toArray, List.set_cons_zero, List.set_cons_succ])
        refine wpAnyH_ready (rs := [5]) (by kernel_rfl) (by simp) ?_
        refine AllReadyH.cons (o := { dst := some 24, op := Op.call { callee := Callee.value (Operand.func 22), args := #[Operand.tmp 20, Operand.tmp 22, Operand.tmp 23], argTypes := #[33, 35, 2] }, type := 41, pos := "exact.go:6181", after := #[{ on := 1, ground := Ground.data }, { on := 3, ground := Ground.data }, { on := 4, ground := Ground.data }, { on := 3, ground := Ground.chain }], guard := none }) rfl (fun K hK => ?_) AllReadyH.nil
        go_simp
        go_at_call 22
        refine (CS.out _ _ I.out).mono ?_
        rintro e v17 ⟨rfl, hb⟩
        replace N := Lib.hid (bT N.out hb)
        replace I := Lib.hid (I.out.keep hb)
        replace B := Lib.hid (B.out.keep hb)
        refine hK.out _ _ (He1.keep hb hHeld) (fun hN => ?_)
        clear hb
        clear hK K hHeld
        replace hHeld := hN
        clear hN
        (try simp only [Act.put, List.setIfInBounds_toArray, List.set_cons_zero, List.set_cons_succ])
        refine wpAnyH_take (i := 6) (oi := { dst := some 18, op := Op.move (Operand.tmp 24), type := 41, pos := "exact.go:6181", after := #[{ on := 5, ground := Ground.data }], guard := none }) (v := ?_) rfl (by kernel_rfl) (by kernel_rfl) (by kernel_rfl) (fun _ _ _ h => h) (Or.inl ⟨by rfl, ?_⟩) (by assumption) ?_
        rotate_left 1
        · ((intro w hSw; obtain ⟨s0, s1, s2, s3, s4, s5, s6, s7, s8, s9, s10, s11⟩ := hSw; go_simp; try with_reducible rfl))
        (try simp only [Act.put, List.setIfInBounds_toArray, List.set_cons_zero, List.set_cons_succ])
        refine wpAnyH_take (i := 7) (oi := { dst := some 25, op := Op.extract (Operand.tmp 18) 0, type := 35, pos := "exact.go:6181", after := #[{ on := 6, ground := Ground.data }], guard := none }) (v := ?_) rfl (by kernel_rfl) (by kernel_rfl) (by kernel_rfl) (fun _ _ _ h => h) (Or.inl ⟨by rfl, ?_⟩) (by assumption) ?_
        rotate_left 1
        · ((intro w hSw; obtain ⟨s0, s1, s2, s3, s4, s5, s6, s7, s8, s9, s10, s11⟩ := hSw; go_simp; try with_reducible rfl))
        (try simp only [Act.put, List.setIfInBounds_toArray, List.set_cons_zero, List.set_cons_succ])
        refine wpAnyH_take (i := 8) (oi := { dst := some 26, op := Op.extract (Operand.tmp 18) 1, type := 2, pos := "exact.go:6181", after := #[{ on := 6, ground := Ground.data }, { on := 10, ground := Ground.gcOnly Departure.lateStores }], guard := none }) (v := ?_) rfl (by kernel_rfl) (by kernel_rfl) (by kernel_rfl) (fun _ _ _ h => h) (Or.inl ⟨by rfl, ?_⟩) (by assumption) ?_
        rotate_left 1
        · ((intro w hSw; obtain ⟨s0, s1, s2, s3, s4, s5, s6, s7, s8, s9, s10, s11⟩ := hSw; go_simp; try with_reducible rfl))
        (try simp only [Act.put, List.setIfInBounds_toArray, List.set_cons_zero, List.set_cons_succ])
        obtain ⟨y0, y1, y2, _⟩ := B.out.c3
        obtain ⟨y3, y4, y5⟩ := B.out.f3q
        refine wpAnyH_ready (rs := [10]) (by kernel_rfl) (by simp) ?_
        refine AllReadyH.cons (o := { dst := none, op := Op.store 35 (Operand.tmp 8) (Operand.tmp 25), type := 0, pos := "exact.go:6181", after := #[{ on := 9, ground := Ground.data }, { on := 7, ground := Ground.data }, { on := 5, ground := Ground.chain }, { on := 0, ground := Ground.phase }, { on := 1, ground := Ground.phase }, { on := 2, ground := Ground.phase }, { on := 3, ground := Ground.phase }, { on := 4, ground := Ground.phase }, { on := 5, ground := Ground.phase }, { on := 6, ground := Ground.phase }, { on := 7, ground := Ground.phase }, { on := 8, ground := Ground.textOnly Departure.lateStores }, { on := 9, ground := Ground.phase }], guard := none }) rfl (fun K hK => ?_) AllReadyH.nil
        go_simp
        clear y0 y1 y2 y3 y4 y5
        replace B := Lib.hid (BoxL.setQ (i := 2) (v := .int .i64 z2) (BoxL.setQ (i := 1) (v := .int .i64 z1) (BoxL.setQ (i := 0) (v := .int .i64 z0) B.out rfl) rfl) rfl)
        replace N := Lib.hid (((N.out.setCell (p := ⟨bd, 0, none⟩) G.out (.int .i64 z0)).setCell (p := ⟨bd, 1, none⟩) G.out (.int .i64 z1)).setCell (p := ⟨bd, 2, none⟩) G.out (.int .i64 z2))
        refine hK.out _ _ (He1.keep N.out H1.out) (fun hN => ?_)
        clear hK K hHeld
        replace hHeld := hN
        clear hN
        generalize ((v17.setCell ⟨bd, 0, none⟩ (.int .i64 z0)).setCell ⟨bd, 1, none⟩ (.int .i64 z1)).setCell ⟨bd, 2, none⟩ (.int .i64 z2) = v19 at *
        (try simp only [Act.put, List.setIfInBounds_toArray, List.set_cons_zero, List.set_cons_succ])
        refine wpAnyH_take (i := 11) (oi := { dst := some 9, op := Op.assign (Operand.tmp 26), type := 2, pos := "exact.go:6181", after := #[{ on := 8, ground := Ground.data }, { on := 10, ground := Ground.chain }, { on := 0, ground := Ground.phase }, { on := 1, ground := Ground.phase }, { on := 2, ground := Ground.phase }, { on := 3, ground := Ground.phase }, { on := 4, ground := Ground.phase }, { on := 5, ground := Ground.phase }, { on := 6, ground := Ground.phase }, { on := 7, ground := Ground.phase }, { on := 8, ground := Ground.phase }, { on := 9, ground := Ground.phase }, { on := 10, ground := Ground.phase }], guard := none }) (v := ?_) rfl (by kernel_rfl) (by kernel_rfl) (by kernel_rfl) (fun _ _ _ h => h) (Or.inl ⟨by rfl, ?_⟩) (by assumption) ?_
        rotate_left 1
        · ((intro w hSw; obtain ⟨s0, s1, s2, s3, s4, s5, s6, s7, s8, s9, s10, s11⟩ := hSw; go_simp; try with_reducible rfl))
        (try simp only [Act.put, List.setIfInBounds_toArray, List.set_cons_zero, List.set_cons_succ])
        refine wpAnyH_done (by kernel_rfl) ?_ _
      case' refine_1 =>
        go_simp
        go_at_call 14
        refine (toDateV_any _ _ _ _).mono ?_
        rintro e v20 ⟨rfl, hb⟩
        replace N := Lib.hid (bT N.out hb)
        replace I := Lib.hid (I.out.keep hb)
        refine hK.out _ _ (He1.keep hb hHeld) (fun hN => ?_)
        clear hb
        clear hK K hHeld
        replace hHeld := hN
        clear hN
        (try simp only [Act.put, List.setIfInBounds_toArray, List.set_cons_zero, List.set_cons_succ])
        refine wpAnyH_ready (rs := [5, 9]) (by kernel_rfl) (by simp) ?_
        refine AllReadyH.cons (o := { dst := some 24, op := Op.call { callee := Callee.value (Operand.func 22), args := #[Operand.tmp 20, Operand.tmp 22, Operand.tmp 23], argTypes := #[33, 35, 2] }, type := 41, pos := "exact.go:6181", after := #[{ on := 1, ground := Ground.data }, { on := 3, ground := Ground.data }, { on := 4, ground := Ground.data }, { on := 3, ground := Ground.chain }], guard := none }) rfl (fun K hK => ?_) (AllReadyH.cons (o := { dst := some 8, op := Op.alloc 35, type := 0, pos := "exact.go:6181", after := #[], guard := none }) rfl (fun K hK => ?_) AllReadyH.nil)
        case' refine_2 =>
          go_simp
          have B := Lib.hid (BoxL.new v20 [.int .i64 0, .int .i64 0, .int .i64 0] 35)
          have N0 := N.out.size
          have hb := bA (bR v20) (.cells #[.int .i64 0, .int .i64 0, .int .i64 0] 35)
          replace N := Lib.hid (bT N.out hb)
          replace I := Lib.hid (I.out.keep hb)
          refine hK.out _ _ (He1.keep hb hHeld) (fun hN => ?_)
          clear hb
          clear hK K hHeld
          replace hHeld := hN
          clear hN
          generalize v20.alloc (.cells #[.int .i64 0, .int .i64 0, .int .i64 0] 35) = v22 at *
          generalize hbd : v20.heap.size = bd at B ⊢
          have G := Lib.hid (show Wd.heap.size ≤ bd by rw [← hbd]; exact N0)
          clear hbd N0
          (try simp only [Act.put, List.setIfInBounds_toArray, List.set_cons_zero, List.set_cons_succ])
          refine wpAnyH_ready (rs := [5]) (by kernel_rfl) (by simp) ?_
          refine AllReadyH.cons (o := { dst := some 24, op := Op.call { callee := Callee.value (Operand.func 22), args := #[Operand.tmp 20, Operand.tmp 22, Operand.tmp 23], argTypes := #[33, 35, 2] }, type := 41, pos := "exact.go:6181", after := #[{ on := 1, ground := Ground.data }, { on := 3, ground := Ground.data }, { on := 4, ground := Ground.data }, { on := 3, ground := Ground.chain }], guard := none }) rfl (fun K hK => ?_) AllReadyH.nil
          go_simp
          go_at_call 22
          refine (CS.out _ _ I.out).mono ?_
          rintro e v24 ⟨rfl, hb⟩
          replace N := Lib.hid (bT N.out hb)
          replace I := Lib.hid (I.out.keep hb)
          replace B := Lib.hid (B.out.keep hb)
          refine hK.out _ _ (He1.keep hb hHeld) (fun hN => ?_)
          clear hb
          clear hK K hHeld
          replace hHeld := hN
          clear hN
          (try simp only [Act.put, List.setIfInBounds_toArray, List.set_cons_zero, List.set_cons_succ])
          refine wpAnyH_take (i := 6) (oi := { dst := some 18, op := Op.move (Operand.tmp 24), type := 41, pos := "exact.go:6181", after := #[{ on := 5, ground := Ground.data }], guard := none }) (v := ?_) rfl (by kernel_rfl) (by kernel_rfl) (by kernel_rfl) (fun _ _ _ h => h) (Or.inl ⟨by rfl, ?_⟩) (by assumption) ?_
          rotate_left 1
          · ((intro w hSw; obtain ⟨s0, s1, s2, s3, s4, s5, s6, s7, s8, s9, s10, s11⟩ := hSw; go_simp; try with_reducible rfl))
          (try simp only [Act.put, List.setIfInBounds_toArray, List.set_cons_zero, List.set_cons_succ])
          refine wpAnyH_take (i := 7) (oi := { dst := some 25, op := Op.extract (Operand.tmp 18) 0, type := 35, pos := "exact.go:6181", after := #[{ on := 6, ground := Ground.data }], guard := none }) (v := ?_) rfl (by kernel_rfl) (by kernel_rfl) (by kernel_rfl) (fun _ _ _ h => h) (Or.inl ⟨by rfl, ?_⟩) (by assumption) ?_
          rotate_left 1
          · ((intro w hSw; obtain ⟨s0, s1, s2, s3, s4, s5, s6, s7, s8, s9, s10, s11⟩ := hSw; go_simp; try with_reducible rfl))
          (try simp only [Act.put, List.setIfInBounds_toArray, List.set_cons_zero, List.set_cons_succ])
          refine wpAnyH_take (i := 8) (oi := { dst := some 26, op := Op.extract (Operand.tmp 18) 1, type := 2, pos := "exact.go:6181", after := #[{ on := 6, ground := Ground.data }, { on := 10, ground := Ground.gcOnly Departure.lateStores }], guard := none }) (v := ?_) rfl (by kernel_rfl) (by kernel_rfl) (by kernel_rfl) (fun _ _ _ h => h) (Or.inl ⟨by rfl, ?_⟩) (by assumption) ?_
          rotate_left 1
          · ((intro w hSw; obtain ⟨s0, s1, s2, s3, s4, s5, s6, s7, s8, s9, s10, s11⟩ := hSw; go_simp; try with_reducible rfl))
          (try simp only [Act.put, List.setIfInBounds_toArray, List.set_cons_zero, List.set_cons_succ])
          obtain ⟨y0, y1, y2, _⟩ := B.out.c3
          obtain ⟨y3, y4, y5⟩ := B.out.f3q
          refine wpAnyH_ready (rs := [10]) (by kernel_rfl) (by simp) ?_
          refine AllReadyH.cons (o := { dst := none, op := Op.store 35 (Operand.tmp 8) (Operand.tmp 25), type := 0, pos := "exact.go:6181", after := #[{ on := 9, ground := Ground.data }, { on := 7, ground := Ground.data }, { on := 5, ground := Ground.chain }, { on := 0, ground := Ground.phase }, { on := 1, ground := Ground.phase }, { on := 2, ground := Ground.phase }, { on := 3, ground := Ground.phase }, { on := 4, ground := Ground.phase }, { on := 5, ground := Ground.phase }, { on := 6, ground := Ground.phase }, { on := 7, ground := Ground.phase }, { on := 8, ground := Ground.textOnly Departure.lateStores }, { on := 9, ground := Ground.phase }], guard := none }) rfl (fun K hK => ?_) AllReadyH.nil
          go_simp
          clear y0 y1 y2 y3 y4 y5
          replace B := Lib.hid (BoxL.setQ (i := 2) (v := .int .i64 z2) (BoxL.setQ (i := 1) (v := .int .i64 z1) (BoxL.setQ (i := 0) (v := .int .i64 z0) B.out rfl) rfl) rfl)
          replace N := Lib.hid (((N.out.setCell (p := ⟨bd, 0, none⟩) G.out (.int .i64 z0)).setCell (p := ⟨bd, 1, none⟩) G.out (.int .i64 z1)).setCell (p := ⟨bd, 2, none⟩) G.out (.int .i64 z2))
          refine hK.out _ _ (He1.keep N.out H1.out) (fun hN => ?_)
          clear hK K hHeld
          replace hHeld := hN
          clear hN
          generalize ((v24.setCell ⟨bd, 0, none⟩ (.int .i64 z0)).setCell ⟨bd, 1, none⟩ (.int .i64 z1)).setCell ⟨bd, 2, none⟩ (.int .i64 z2) = v26 at *
          (try simp only [Act.put, List.setIfInBounds_toArray, List.set_cons_zero, List.set_cons_succ])
          refine wpAnyH_take (i := 11) (oi := { dst := some 9, op := Op.assign (Operand.tmp 26), type := 2, pos := "exact.go:6181", after := #[{ on := 8, ground := Ground.data }, { on := 10, ground := Ground.chain }, { on := 0, ground := Ground.phase }, { on := 1, ground := Ground.phase }, { on := 2, ground := Ground.phase }, { on := 3, ground := Ground.phase }, { on := 4, ground := Ground.phase }, { on := 5, ground := Ground.phase }, { on := 6, ground := Ground.phase }, { on := 7, ground := Ground.phase }, { on := 8, ground := Ground.phase }, { on := 9, ground := Ground.phase }, { on := 10, ground := Ground.phase }], guard := none }) (v := ?_) rfl (by kernel_rfl) (by kernel_rfl) (by kernel_rfl) (fun _ _ _ h => h) (Or.inl ⟨by rfl, ?_⟩) (by assumption) ?_
          rotate_left 1
          · ((intro w hSw; obtain ⟨s0, s1, s2, s3, s4, s5, s6, s7, s8, s9, s10, s11⟩ := hSw; go_simp; try with_reducible rfl))
          (try simp only [Act.put, List.setIfInBounds_toArray, List.set_cons_zero, List.set_cons_succ])
          refine wpAnyH_done (by kernel_rfl) ?_ _
        case' refine_1 =>
          go_simp
          go_at_call 22
          refine (CS.out _ _ I.out).mono ?_
          rintro e v27 ⟨rfl, hb⟩
          replace N := Lib.hid (bT N.out hb)
          replace I := Lib.hid (I.out.keep hb)
          refine hK.out _ _ (He1.keep hb hHeld) (fun hN => ?_)
          clear hb
          clear hK K hHeld
          replace hHeld := hN
          clear hN
          (try simp only [Act.put, List.setIfInBounds_toArray, List.set_cons_zero, List.set_cons_succ])
          refine wpAnyH_take (i := 6) (oi := { dst := some 18, op := Op.move (Operand.tmp 24), type := 41, pos := "exact.go:6181", after := #[{ on := 5, ground := Ground.data }], guard := none }) (v := ?_) rfl (by kernel_rfl) (by kernel_rfl) (by kernel_rfl) (fun _ _ _ h => h) (Or.inl ⟨by rfl, ?_⟩) (by assumption) ?_
          rotate_left 1
          · ((intro w hSw; obtain ⟨s0, s1, s2, s3, s4, s5, s6, s7, s8, s9, s10, s11⟩ := hSw; go_simp; try with_reducible rfl))
          (try simp only [Act.put, List.setIfInBounds_toArray, List.set_cons_zero, List.set_cons_succ])
          refine wpAnyH_take (i := 7) (oi := { dst := some 25, op := Op.extract (Operand.tmp 18) 0, type := 35, pos := "exact.go:6181", after := #[{ on := 6, ground := Ground.data }], guard := none }) (v := ?_) rfl (by kernel_rfl) (by kernel_rfl) (by kernel_rfl) (fun _ _ _ h => h) (Or.inl ⟨by rfl, ?_⟩) (by assumption) ?_
          rotate_left 1
          · ((intro w hSw; obtain ⟨s0, s1, s2, s3, s4, s5, s6, s7, s8, s9, s10, s11⟩ := hSw; go_simp; try with_reducible rfl))
          (try simp only [Act.put, List.setIfInBounds_toArray, List.set_cons_zero, List.set_cons_succ])
          refine wpAnyH_take (i := 8) (oi := { dst := some 26, op := Op.extract (Operand.tmp 18) 1, type := 2, pos := "exact.go:6181", after := #[{ on := 6, ground := Ground.data }, { on := 10, ground := Ground.gcOnly Departure.lateStores }], guard := none }) (v := ?_) rfl (by kernel_rfl) (by kernel_rfl) (by kernel_rfl) (fun _ _ _ h => h) (Or.inl ⟨by rfl, ?_⟩) (by assumption) ?_
          rotate_left 1
          · ((intro w hSw; obtain ⟨s0, s1, s2, s3, s4, s5, s6, s7, s8, s9, s10, s11⟩ := hSw; go_simp; try with_reducible rfl))
          (try simp only [Act.put, List.setIfInBounds_toArray, List.set_cons_zero, List.set_cons_succ])
          refine wpAnyH_ready (rs := [9]) (by kernel_rfl) (by simp) ?_
          refine AllReadyH.cons (o := { dst := some 8, op := Op.alloc 35, type := 0, pos := "exact.go:6181", after := #[], guard := none }) rfl (fun K hK => ?_) AllReadyH.nil
          go_simp
          have B := Lib.hid (BoxL.new v27 [.int .i64 0, .int .i64 0, .int .i64 0] 35)
          have N0 := N.out.size
          have hb := bA (bR v27) (.cells #[.int .i64 0, .int .i64 0, .int .i64 0] 35)
          replace N := Lib.hid (bT N.out hb)
          replace I := Lib.hid (I.out.keep hb)
          refine hK.out _ _ (He1.keep hb hHeld) (fun hN => ?_)
          clear hb
          clear hK K hHeld
          replace hHeld := hN
          clear hN
          generalize v27.alloc (.cells #[.int .i64 0, .int .i64 0, .int .i64 0] 35) = v29 at *
          generalize hbd : v27.heap.size = bd at B ⊢
          have G := Lib.hid (show Wd.heap.size ≤ bd by rw [← hbd]; exact N0)
          clear hbd N0
          (try simp only [Act.put, List.setIfInBounds_toArray, List.set_cons_zero, List.set_cons_succ])
          obtain ⟨y0, y1, y2, _⟩ := B.out.c3
          obtain ⟨y3, y4, y5⟩ := B.out.f3q
          refine wpAnyH_ready (rs := [10]) (by kernel_rfl) (by simp) ?_
          refine AllReadyH.cons (o := { dst := none, op := Op.store 35 (Operand.tmp 8) (Operand.tmp 25), type := 0, pos := "exact.go:6181", after := #[{ on := 9, ground := Ground.data }, { on := 7, ground := Ground.data }, { on := 5, ground := Ground.chain }, { on := 0, ground := Ground.phase }, { on := 1, ground := Ground.phase }, { on := 2, ground := Ground.phase }, { on := 3, ground := Ground.phase }, { on := 4, ground := Ground.phase }, { on := 5, ground := Ground.phase }, { on := 6, ground := Ground.phase }, { on := 7, ground := Ground.phase }, { on := 8, ground := Ground.textOnly Departure.lateStores }, { on := 9, ground := Ground.phase }], guard := none }) rfl (fun K hK => ?_) AllReadyH.nil
          go_simp
          clear y0 y1 y2 y3 y4 y5
          replace B := Lib.hid (BoxL.setQ (i := 2) (v := .int .i64 z2) (BoxL.setQ (i := 1) (v := .int .i64 z1) (BoxL.setQ (i := 0) (v := .int .i64 z0) B.out rfl) rfl) rfl)
          replace N := Lib.hid (((N.out.setCell (p := ⟨bd, 0, none⟩) G.out (.int .i64 z0)).setCell (p := ⟨bd, 1, none⟩) G.out (.int .i64 z1)).setCell (p := ⟨bd, 2, none⟩) G.out (.int .i64 z2))
          refine hK.out _ _ (He1.keep N.out H1.out) (fun hN => ?_)
          clear hK K hHeld
          replace hHeld := hN
          clear hN
          generalize ((v29.setCell ⟨bd, 0, none⟩ (.int .i64 z0)).setCell ⟨bd, 1, none⟩ (.int .i64 z1)).setCell ⟨bd, 2, none⟩ (.int .i64 z2) = v31 at *
          (try simp only [Act.put, List.setIfInBounds_toArray, List.set_cons_zero, List.set_cons_succ])
          refine wpAnyH_take (i := 11) (oi := { dst := some 9, op := Op.assign (Operand.tmp 26), type := 2, pos := "exact.go:6181", after := #[{ on := 8, ground := Ground.data }, { on := 10, ground := Ground.chain }, { on := 0, ground := Ground.phase }, { on := 1, ground := Ground.phase }, { on := 2, ground := Ground.phase }, { on := 3, ground := Ground.phase }, { on := 4, ground := Ground.phase }, { on := 5, ground := Ground.phase }, { on := 6, ground := Ground.phase }, { on := 7, ground := Ground.phase }, { on := 8, ground := Ground.phase }, { on := 9, ground := Ground.phase }, { on := 10, ground := Ground.phase }], guard := none }) (v := ?_) rfl (by kernel_rfl) (by kernel_rfl) (by kernel_rfl) (fun _ _ _ h => h) (Or.inl ⟨by rfl, ?_⟩) (by assumption) ?_
          rotate_left 1
          · ((intro w hSw; obtain ⟨s0, s1, s2, s3, s4, s5, s6, s7, s8, s9, s10, s11⟩ := hSw; go_simp; try with_reducible rfl))
          (try simp only [Act.put, List.setIfInBounds_toArray, List.set_cons_zero, List.set_cons_succ])
          refine wpAnyH_done (by kernel_rfl) ?_ _
    all_goals
      have H2 := Lib.hid hHeld
      clear hHeld N G
      try clear I
      obtain ⟨c0, c1, c2, c3, d0, d1, d2, c4, d3, _, _, _⟩ := H2.out
      go_wp2_with fail
      refine (toCalendar_any _ ⟨nm, ms, rs, wk⟩ _ ⟨_, _, rfl, HSZ.out, H2.out.2.2.2.2.2.2.2.2.2.1, H2.out.2.2.2.2.2.2.2.2.2.2.1⟩ HL.out).mono ?_
      rintro e w4 ⟨x2, rfl, hO, hb⟩
      obtain ⟨u, v, rfl, _, hM2, hR2⟩ := hO.is
      simp only at hM2 hR2
      obtain ⟨u1, u2, rfl, _⟩ := hM2.open
      obtain ⟨u3, u4, rfl, _⟩ := hR2.open
      have DB4 := Lib.hid ((B.out.keep hb).keep (bA (bR _) (.cells #[.string nm, .slice u1 ms.length u2, .slice u3 rs.length u4, .int .i64 wk] 33)))
      have H4 := Lib.hid (show Hf1 w bl (bl + 1) w4.heap.size nm wk (.slice p1 ms.length p2) (.slice p3 rs.length p4) (.slice u1 ms.length u2) (.slice u3 rs.length u4) ms rs a0 a1 a2 (w4.alloc (.cells #[.string nm, .slice u1 ms.length u2, .slice u3 rs.length u4, .int .i64 wk] 33)) from by
        have hb' : Below w4.heap.size w4 (w4.alloc (.cells #[.string nm, .slice u1 ms.length u2, .slice u3 rs.length u4, .int .i64 wk] 33)) := bA (bR _) _
        obtain ⟨d0, d1, d2, d3, d4⟩ := (BoxL.new w4 [.string nm, .slice u1 ms.length u2, .slice u3 rs.length u4, .int .i64 wk] 33).c4q
        exact ⟨d0, d1, d2, d3, d4, hM2.keep hb', hR2.keep hb', (H2.out.keep hb).keep hb'⟩)
      clear c0 c1 c2 c3 d0 d1 d2 c4 d3 hO hM2 hR2 hb H2 B
      obtain ⟨b0, b1, b2, b3, b4, _, _, c0, c1, c2, c3, d0, d1, d2, c4, d3, _, _, _⟩ := H4.out
      go_wp2_with fail
      generalize w4.alloc (.cells #[.string nm, .slice u1 ms.length u2, .slice u3 rs.length u4, .int .i64 wk] 33) = W4 at *
      generalize w4.heap.size = bx at *
      clear c0 c1 c2 c3 d0 d1 d2 c4 d3 b0 b1 b2 b3 b4
      have H4 := Lib.hid H4.out.drew
      have DB4 := Lib.hid (DB4.out.keep (bR W4).drew)
      have N := Lib.hid (bR W4.drew)
      refine wp_region_held_drew (S := Hf1 w bl (bl + 1) bx nm wk (.slice p1 ms.length p2) (.slice p3 rs.length p4) (.slice u1 ms.length u2) (.slice u3 rs.length u4) ms rs a0 a1 a2) (by kernel_rfl) H4.out (fun hHeld => ?_)
      generalize W4.drew = Wd at *
      refine wpAnyH_take (i := 0) (oi := { dst := some 30, op := Op.load 33 (Operand.tmp 10), type := 33, pos := "exact.go:6183", after := #[], guard := none }) (v := ?_) rfl (by kernel_rfl) (by kernel_rfl) (by kernel_rfl) (fun _ _ _ h => h) (Or.inl ⟨by rfl, ?_⟩) (by assumption) ?_
      rotate_left 1
      · ((intro w hSw; obtain ⟨s0, s1, s2, s3, s4, s5, s6, s7, s8, s9, s10, s11, s12, s13, s14, s15, s16, s17, s18⟩ := hSw; go_simp; try with_reducible rfl))
      (try simp only [Act.put, List.setIfInBounds_toArray, List.set_cons_zero, List.set_cons_succ])
      refine wpAnyH_take (i := 1) (oi := { dst := some 31, op := Op.load 27 (Operand.tmp 4), type := 27, pos := "exact.go:6183", after := #[], guard := none }) (v := ?_) rfl (by kernel_rfl) (by kernel_rfl) (by kernel_rfl) (fun _ _ _ h => h) (Or.inl ⟨by rfl, ?_⟩) (by assumption) ?_
      rotate_left 1
      · ((intro w hSw; obtain ⟨s0, s1, s2, s3, s4, s5, s6, s7, s8, s9, s10, s11, s12, s13, s14, s15, s16, s17, s18⟩ := hSw; go_simp; try with_reducible rfl))
      (try simp only [Act.put, List.setIfInBounds_toArray, List.set_cons_zero, List.set_cons_succ])
      refine wpAnyH_take (i := 3) (oi := { dst := some 33, op := Op.move (Operand.tmp 2), type := 2, pos := "exact.go:6183", after := #[], guard := none }) (v := ?_) rfl (by kernel_rfl) (by kernel_rfl) (by kernel_rfl) (fun _ _ _ h => h) (Or.inl ⟨by rfl, ?_⟩) (by assumption) ?_
      rotate_left 1
      · ((intro w hSw; obtain ⟨s0, s1, s2, s3, s4, s5, s6, s7, s8, s9, s10, s11, s12, s13, s14, s15, s16, s17, s18⟩ := hSw; go_simp; try with_reducible rfl))
      (try simp only [Act.put, List.setIfInBounds_toArray, List.set_cons_zero, List.set_cons_succ])
      refine wpAnyH_ready (rs := [2, 8]) (by kernel_rfl) (by simp) ?_
      refine AllReadyH.cons (o := { dst := some 32, op := Op.call { callee := Callee.value (Operand.func 14), args := #[Operand.tmp 31], argTypes := #[27] }, type := 35, pos := "exact.go:6183", after := #[{ on := 1, ground := Ground.data }], guard := none }) rfl (fun K hK => ?_) (AllReadyH.cons (o := { dst := some 11, op := Op.alloc 35, type := 0, pos := "exact.go:6183", after := #[], guard := none }) rfl (fun K hK => ?_) AllReadyH.nil)
      case' refine_2 =>
        go_simp
        have B := Lib.hid (BoxL.new Wd [.int .i64 0, .int .i64 0, .int .i64 0] 35)
        have N0 := N.out.size
        have hb := bA (bR Wd) (.cells #[.int .i64 0, .int .i64 0, .int .i64 0] 35)
        replace N := Lib.hid (bT N.out hb)
        refine hK.out _ _ (Hf1.keep hb hHeld) (fun hN => ?_)
        clear hb
        clear hK K hHeld
        replace hHeld := hN
        clear hN
        generalize Wd.alloc (.cells #[.int .i64 0, .int .i64 0, .int .i64 0] 35) = v2 at *
        generalize hbd : Wd.heap.size = bg at B ⊢
        have G := Lib.hid (show Wd.heap.size ≤ bg by rw [← hbd]; exact N0)
        clear hbd N0
        (try simp only [Act.put, List.setIfInBounds_toArray, List.set_cons_zero, List.set_cons_succ])
        refine wpAnyH_ready (rs := [2]) (by kernel_rfl) (by simp) ?_
        refine AllReadyH.cons (o := { dst := some 32, op := Op.call { callee := Callee.value (Operand.func 14), args := #[Operand.tmp 31], argTypes := #[27] }, type := 35, pos := "exact.go:6183", after := #[{ on := 1, ground := Ground.data }], guard := none }) rfl (fun K hK => ?_) AllReadyH.nil
        go_simp
        go_at_call 14
        refine (toDateV_any _ _ _ _).mono ?_
        rintro e v4 ⟨rfl, hb⟩
        replace N := Lib.hid (bT N.out hb)
        replace B := Lib.hid (B.out.keep hb)
        refine hK.out _ _ (Hf1.keep hb hHeld) (fun hN => ?_)
        clear hb
        clear hK K hHeld
        replace hHeld := hN
        clear hN
        (try simp only [Act.put, List.setIfInBounds_toArray, List.set_cons_zero, List.set_cons_succ])
        refine wpAnyH_ready (rs := [4]) (by kernel_rfl) (by simp) ?_
        refine AllReadyH.cons (o := { dst := some 34, op := Op.call { callee := Callee.value (Operand.func 23), args := #[Operand.tmp 30, Operand.tmp 32, Operand.tmp 33], argTypes := #[33, 35, 2] }, type := 41, pos := "exact.go:6183", after := #[{ on := 0, ground := Ground.data }, { on := 2, ground := Ground.data }, { on := 3, ground := Ground.data }, { on := 2, ground := Ground.chain }], guard := none }) rfl (fun K hK => ?_) AllReadyH.nil
        go_simp
        go_at_call 23
        refine (CI.out _ _ ⟨_, _, rfl, HSZ.out, hHeld.2.2.2.2.2.1, hHeld.2.2.2.2.2.2.1⟩).mono ?_
        rintro e v6 ⟨rfl, hb⟩
        replace N := Lib.hid (bT N.out hb)
        replace B := Lib.hid (B.out.keep hb)
        refine hK.out _ _ (Hf1.keep hb hHeld) (fun hN => ?_)
        clear hb
        clear hK K hHeld
        replace hHeld := hN
        clear hN
        (try simp only [Act.put, List.setIfInBounds_toArray, List.set_cons_zero, List.set_cons_succ])
        refine wpAnyH_take (i := 5) (oi := { dst := some 29, op := Op.move (Operand.tmp 34), type := 41, pos := "exact.go:6183", after := #[{ on := 4, ground := Ground.data }], guard := none }) (v := ?_) rfl (by kernel_rfl) (by kernel_rfl) (by kernel_rfl) (fun _ _ _ h => h) (Or.inl ⟨by rfl, ?_⟩) (by assumption) ?_
        rotate_left 1
        · ((intro w hSw; obtain ⟨s0, s1, s2, s3, s4, s5, s6, s7, s8, s9, s10, s11, s12, s13, s14, s15, s16, s17, s18⟩ := hSw; go_simp; try with_reducible rfl))
        (try simp only [Act.put, List.setIfInBounds_toArray, List.set_cons_zero, List.set_cons_succ])
        refine wpAnyH_take (i := 6) (oi := { dst := some 35, op := Op.extract (Operand.tmp 29) 0, type := 35, pos := "exact.go:6183", after := #[{ on := 5, ground := Ground.data }], guard := none }) (v := ?_) rfl (by kernel_rfl) (by kernel_rfl) (by kernel_rfl) (fun _ _ _ h => h) (Or.inl ⟨by rfl, ?_⟩) (by assumption) ?_
        rotate_left 1
        · ((intro w hSw; obtain ⟨s0, s1, s2, s3, s4, s5, s6, s7, s8, s9, s10, s11, s12, s13, s14, s15, s16, s17, s18⟩ := hSw; go_simp; try with_reducible rfl))
        (try simp only [Act.put, List.setIfInBounds_toArray, List.set_cons_zero, List.set_cons_succ])
        refine wpAnyH_take (i := 7) (oi := { dst := some 36, op := Op.extract (Operand.tmp 29) 1, type := 2, pos := "exact.go:6183", after := #[{ on := 5, ground := Ground.data }, { on := 9, ground := Ground.gcOnly Departure.lateStores }], guard := none }) (v := ?_) rfl (by kernel_rfl) (by kernel_rfl) (by kernel_rfl) (fun _ _ _ h => h) (Or.inl ⟨by rfl, ?_⟩) (by assumption) ?_
        rotate_left 1
        · ((intro w hSw; obtain ⟨s0, s1, s2, s3, s4, s5, s6, s7, s8, s9, s10, s11, s12, s13, s14, s15, s16, s17, s18⟩ := hSw; go_simp; try with_reducible rfl))
        (try simp only [Act.put, List.setIfInBounds_toArray, List.set_cons_zero, List.set_cons_succ])
        obtain ⟨y0, y1, y2, _⟩ := B.out.c3
        obtain ⟨y3, y4, y5⟩ := B.out.f3q
        refine wpAnyH_ready (rs := [9]) (by kernel_rfl) (by simp) ?_
        refine AllReadyH.cons (o := { dst := none, op := Op.store 35 (Operand.tmp 11) (Operand.tmp 35), type := 0, pos := "exact.go:6183", after := #[{ on := 8, ground := Ground.data }, { on := 6, ground := Ground.data }, { on := 4, ground := Ground.chain }, { on := 0, ground := Ground.phase }, { on := 1, ground := Ground.phase }, { on := 2, ground := Ground.phase }, { on := 3, ground := Ground.phase }, { on := 4, ground := Ground.phase }, { on := 5, ground := Ground.phase }, { on := 6, ground := Ground.phase }, { on := 7, ground := Ground.textOnly Departure.lateStores }, { on := 8, ground := Ground.phase }], guard := none }) rfl (fun K hK => ?_) AllReadyH.nil
        go_simp
        clear y0 y1 y2 y3 y4 y5
        replace B := Lib.hid (BoxL.setQ (i := 2) (v := .int .i64 z2) (BoxL.setQ (i := 1) (v := .int .i64 z1) (BoxL.setQ (i := 0) (v := .int .i64 z0) B.out rfl) rfl) rfl)
        replace N := Lib.hid (((N.out.setCell (p := ⟨bg, 0, none⟩) G.out (.int .i64 z0)).setCell (p := ⟨bg, 1, none⟩) G.out (.int .i64 z1)).setCell (p := ⟨bg, 2, none⟩) G.out (.int .i64 z2))
        refine hK.out _ _ (Hf1.keep N.out H4.out) (fun hN => ?_)
        clear hK K hHeld
        replace hHeld := hN
        clear hN
        generalize ((v6.setCell ⟨bg, 0, none⟩ (.int .i64 z0)).setCell ⟨bg, 1, none⟩ (.int .i64 z1)).setCell ⟨bg, 2, none⟩ (.int .i64 z2) = v8 at *
        (try simp only [Act.put, List.setIfInBounds_toArray, List.set_cons_zero, List.set_cons_succ])
        refine wpAnyH_take (i := 10) (oi := { dst := some 12, op := Op.assign (Operand.tmp 36), type := 2, pos := "exact.go:6183", after := #[{ on := 7, ground := Ground.data }, { on := 9, ground := Ground.chain }, { on := 0, ground := Ground.phase }, { on := 1, ground := Ground.phase }, { on := 2, ground := Ground.phase }, { on := 3, ground := Ground.phase }, { on := 4, ground := Ground.phase }, { on := 5, ground := Ground.phase }, { on := 6, ground := Ground.phase }, { on := 7, ground := Ground.phase }, { on := 8, ground := Ground.phase }, { on := 9, ground := Ground.phase }], guard := none }) (v := ?_) rfl (by kernel_rfl) (by kernel_rfl) (by kernel_rfl) (fun _ _ _ h => h) (Or.inl ⟨by rfl, ?_⟩) (by assumption) ?_
        rotate_left 1
        · ((intro w hSw; obtain ⟨s0, s1, s2, s3, s4, s5, s6, s7, s8, s9, s10, s11, s12, s13, s14, s15, s16, s17, s18⟩ := hSw; go_simp; try with_reducible rfl))
        (try simp only [Act.put, List.setIfInBounds_toArray, List.set_cons_zero, List.set_cons_succ])
        refine wpAnyH_done (by kernel_rfl) ?_ _
      case' refine_1 =>
        go_simp
        go_at_call 14
        refine (toDateV_any _ _ _ _).mono ?_
        rintro e v9 ⟨rfl, hb⟩
        replace N := Lib.hid (bT N.out hb)
        refine hK.out _ _ (Hf1.keep hb hHeld) (fun hN => ?_)
        clear hb
        clear hK K hHeld
        replace hHeld := hN
        clear hN
        (try simp only [Act.put, List.setIfInBounds_toArray, List.set_cons_zero, List.set_cons_succ])
        refine wpAnyH_ready (rs := [4, 8]) (by kernel_rfl) (by simp) ?_
        refine AllReadyH.cons (o := { dst := some 34, op := Op.call { callee := Callee.value (Operand.func 23), args := #[Operand.tmp 30, Operand.tmp 32, Operand.tmp 33], argTypes := #[33, 35, 2] }, type := 41, pos := "exact.go:6183", after := #[{ on := 0, ground := Ground.data }, { on := 2, ground := Ground.data }, { on := 3, ground := Ground.data }, { on := 2, ground := Ground.chain }], guard := none }) rfl (fun K hK => ?_) (AllReadyH.cons (o := { dst := some 11, op := Op.alloc 35, type := 0, pos := "exact.go:6183", after := #[], guard := none }) rfl (fun K hK => ?_) AllReadyH.nil)
        case' refine_2 =>
          go_simp
          have B := Lib.hid (BoxL.new v9 [.int .i64 0, .int .i64 0, .int .i64 0] 35)
          have N0 := N.out.size
          have hb := bA (bR v9) (.cells #[.int .i64 0, .int .i64 0, .int .i64 0] 35)
          replace N := Lib.hid (bT N.out hb)
          refine hK.out _ _ (Hf1.keep hb hHeld) (fun hN => ?_)
          clear hb
          clear hK K hHeld
          replace hHeld := hN
          clear hN
          generalize v9.alloc (.cells #[.int .i64 0, .int .i64 0, .int .i64 0] 35) = v11 at *
          generalize hbd : v9.heap.size = bg at B ⊢
          have G := Lib.hid (show Wd.heap.size ≤ bg by rw [← hbd]; exact N0)
          clear hbd N0
          (try simp only [Act.put, List.setIfInBounds_toArray, List.set_cons_zero, List.set_cons_succ])
          refine wpAnyH_ready (rs := [4]) (by kernel_rfl) (by simp) ?_
          refine AllReadyH.cons (o := { dst := some 34, op := Op.call { callee := Callee.value (Operand.func 23), args := #[Operand.tmp 30, Operand.tmp 32, Operand.tmp 33], argTypes := #[33, 35, 2] }, type := 41, pos := "exact.go:6183", after := #[{ on := 0, ground := Ground.data }, { on := 2, ground := Ground.data }, { on := 3, ground := Ground.data }, { on := 2, ground := Ground.chain }], guard := none }) rfl (fun K hK => ?_) AllReadyH.nil
          go_simp
          go_at_call 23
          refine (CI.out _ _ ⟨_, _, rfl, HSZ.out, hHeld.2.2.2.2.2.1, hHeld.2.2.2.2.2.2.1⟩).mono ?_
          rintro e v13 ⟨rfl, hb⟩
          replace N := Lib.hid (bT N.out hb)
          replace B := Lib.hid (B.out.keep hb)
          refine hK.out _ _ (Hf1.keep hb hHeld) (fun hN => ?_)
          clear hb
          clear hK K hHeld
          replace hHeld := hN
          clear hN
          (try simp only [Act.put, List.setIfInBounds_toArray, List.set_cons_zero, List.set_cons_succ])
          refine wpAnyH_take (i := 5) (oi := { dst := some 29, op := Op.move (Operand.tmp 34), type := 41, pos := "exact.go:6183", after := #[{ on := 4, ground := Ground.data }], guard := none }) (v := ?_) rfl (by kernel_rfl) (by kernel_rfl) (by kernel_rfl) (fun _ _ _ h => h) (Or.inl ⟨by rfl, ?_⟩) (by assumption) ?_
          rotate_left 1
          · ((intro w hSw; obtain ⟨s0, s1, s2, s3, s4, s5, s6, s7, s8, s9, s10, s11, s12, s13, s14, s15, s16, s17, s18⟩ := hSw; go_simp; try with_reducible rfl))
          (try simp only [Act.put, List.setIfInBounds_toArray, List.set_cons_zero, List.set_cons_succ])
          refine wpAnyH_take (i := 6) (oi := { dst := some 35, op := Op.extract (Operand.tmp 29) 0, type := 35, pos := "exact.go:6183", after := #[{ on := 5, ground := Ground.data }], guard := none }) (v := ?_) rfl (by kernel_rfl) (by kernel_rfl) (by kernel_rfl) (fun _ _ _ h => h) (Or.inl ⟨by rfl, ?_⟩) (by assumption) ?_
          rotate_left 1
          · ((intro w hSw; obtain ⟨s0, s1, s2, s3, s4, s5, s6, s7, s8, s9, s10, s11, s12, s13, s14, s15, s16, s17, s18⟩ := hSw; go_simp; try with_reducible rfl))
          (try simp only [Act.put, List.setIfInBounds_toArray, List.set_cons_zero, List.set_cons_succ])
          refine wpAnyH_take (i := 7) (oi := { dst := some 36, op := Op.extract (Operand.tmp 29) 1, type := 2, pos := "exact.go:6183", after := #[{ on := 5, ground := Ground.data }, { on := 9, ground := Ground.gcOnly Departure.lateStores }], guard := none }) (v := ?_) rfl (by kernel_rfl) (by kernel_rfl) (by kernel_rfl) (fun _ _ _ h => h) (Or.inl ⟨by rfl, ?_⟩) (by assumption) ?_
          rotate_left 1
          · ((intro w hSw; obtain ⟨s0, s1, s2, s3, s4, s5, s6, s7, s8, s9, s10, s11, s12, s13, s14, s15, s16, s17, s18⟩ := hSw; go_simp; try with_reducible rfl))
          (try simp only [Act.put, List.setIfInBounds_toArray, List.set_cons_zero, List.set_cons_succ])
          obtain ⟨y0, y1, y2, _⟩ := B.out.c3
          obtain ⟨y3, y4, y5⟩ := B.out.f3q
          refine wpAnyH_ready (rs := [9]) (by kernel_rfl) (by simp) ?_
          refine AllReadyH.cons (o := { dst := none, op := Op.store 35 (Operand.tmp 11) (Operand.tmp 35), type := 0, pos := "exact.go:6183", after := #[{ on := 8, ground := Ground.data }, { on := 6, ground := Ground.data }, { on := 4, ground := Ground.chain }, { on := 0, ground := Ground.phase }, { on := 1, ground := Ground.phase }, { on := 2, ground := Ground.phase }, { on := 3, ground := Ground.phase }, { on := 4, ground := Ground.phase }, { on := 5, ground := Ground.phase }, { on := 6, ground := Ground.phase }, { on := 7, ground := Ground.textOnly Departure.lateStores }, { on := 8, ground := Ground.phase }], guard := none }) rfl (fun K hK => ?_) AllReadyH.nil
          go_simp
          clear y0 y1 y2 y3 y4 y5
          replace B := Lib.hid (BoxL.setQ (i := 2) (v := .int .i64 z2) (BoxL.setQ (i := 1) (v := .int .i64 z1) (BoxL.setQ (i := 0) (v := .int .i64 z0) B.out rfl) rfl) rfl)
          replace N := Lib.hid (((N.out.setCell (p := ⟨bg, 0, none⟩) G.out (.int .i64 z0)).setCell (p := ⟨bg, 1, none⟩) G.out (.int .i64 z1)).setCell (p := ⟨bg, 2, none⟩) G.out (.int .i64 z2))
          refine hK.out _ _ (Hf1.keep N.out H4.out) (fun hN => ?_)
          clear hK K hHeld
          replace hHeld := hN
          clear hN
          generalize ((v13.setCell ⟨bg, 0, none⟩ (.int .i64 z0)).setCell ⟨bg, 1, none⟩ (.int .i64 z1)).setCell ⟨bg, 2, none⟩ (.int .i64 z2) = v15 at *
          (try simp only [Act.put, List.setIfInBounds_toArray, List.set_cons_zero, List.set_cons_succ])
          refine wpAnyH_take (i := 10) (oi := { dst := some 12, op := Op.assign (Operand.tmp 36), type := 2, pos := "exact.go:6183", after := #[{ on := 7, ground := Ground.data }, { on := 9, ground := Ground.chain }, { on := 0, ground := Ground.phase }, { on := 1, ground := Ground.phase }, { on := 2, ground := Ground.phase }, { on := 3, ground := Ground.phase }, { on := 4, ground := Ground.phase }, { on := 5, ground := Ground.phase }, { on := 6, ground := Ground.phase }, { on := 7, ground := Ground.phase }, { on := 8, ground := Ground.phase }, { on := 9, ground := Ground.phase }], guard := none }) (v := ?_) rfl (by kernel_rfl) (by kernel_rfl) (by kernel_rfl) (fun _ _ _ h => h) (Or.inl ⟨by rfl, ?_⟩) (by assumption) ?_
          rotate_left 1
          · ((intro w hSw; obtain ⟨s0, s1, s2, s3, s4, s5, s6, s7, s8, s9, s10, s11, s12, s13, s14, s15, s16, s17, s18⟩ := hSw; go_simp; try with_reducible rfl))
          (try simp only [Act.put, List.setIfInBounds_toArray, List.set_cons_zero, List.set_cons_succ])
          refine wpAnyH_done (by kernel_rfl) ?_ _
        case' refine_1 =>
          go_simp
          go_at_call 23
          refine (CI.out _ _ ⟨_, _, rfl, HSZ.out, hHeld.2.2.2.2.2.1, hHeld.2.2.2.2.2.2.1⟩).mono ?_
          rintro e v16 ⟨rfl, hb⟩
          replace N := Lib.hid (bT N.out hb)
          refine hK.out _ _ (Hf1.keep hb hHeld) (fun hN => ?_)
          clear hb
          clear hK K hHeld
          replace hHeld := hN
          clear hN
          (try simp only [Act.put, List.setIfInBounds_toArray, List.set_cons_zero, List.set_cons_succ])
          refine wpAnyH_take (i := 5) (oi := { dst := some 29, op := Op.move (Operand.tmp 34), type := 41, pos := "exact.go:6183", after := #[{ on := 4, ground := Ground.data }], guard := none }) (v := ?_) rfl (by kernel_rfl) (by kernel_rfl) (by kernel_rfl) (fun _ _ _ h => h) (Or.inl ⟨by rfl, ?_⟩) (by assumption) ?_
          rotate_left 1
          · ((intro w hSw; obtain ⟨s0, s1, s2, s3, s4, s5, s6, s7, s8, s9, s10, s11, s12, s13, s14, s15, s16, s17, s18⟩ := hSw; go_simp; try with_reducible rfl))
          (try simp only [Act.put, List.setIfInBounds_toArray, List.set_cons_zero, List.set_cons_succ])
          refine wpAnyH_take (i := 6) (oi := { dst := some 35, op := Op.extract (Operand.tmp 29) 0, type := 35, pos := "exact.go:6183", after := #[{ on := 5, ground := Ground.data }], guard := none }) (v := ?_) rfl (by kernel_rfl) (by kernel_rfl) (by kernel_rfl) (fun _ _ _ h => h) (Or.inl ⟨by rfl, ?_⟩) (by assumption) ?_
          rotate_left 1
          · ((intro w hSw; obtain ⟨s0, s1, s2, s3, s4, s5, s6, s7, s8, s9, s10, s11, s12, s13, s14, s15, s16, s17, s18⟩ := hSw; go_simp; try with_reducible rfl))
          (try simp only [Act.put, List.setIfInBounds_toArray, List.set_cons_zero, List.set_cons_succ])
          refine wpAnyH_take (i := 7) (oi := { dst := some 36, op := Op.extract (Operand.tmp 29) 1, type := 2, pos := "exact.go:6183", after := #[{ on := 5, ground := Ground.data }, { on := 9, ground := Ground.gcOnly Departure.lateStores }], guard := none }) (v := ?_) rfl (by kernel_rfl) (by kernel_rfl) (by kernel_rfl) (fun _ _ _ h => h) (Or.inl ⟨by rfl, ?_⟩) (by assumption) ?_
          rotate_left 1
          · ((intro w hSw; obtain ⟨s0, s1, s2, s3, s4, s5, s6, s7, s8, s9, s10, s11, s12, s13, s14, s15, s16, s17, s18⟩ := hSw; go_simp; try with_reducible rfl))
          (try simp only [Act.put, List.setIfInBounds_toArray, List.set_cons_zero, List.set_cons_succ])
          refine wpAnyH_ready (rs := [8]) (by kernel_rfl) (by simp) ?_
          refine AllReadyH.cons (o := { dst := some 11, op := Op.alloc 35, type := 0, pos := "exact.go:6183", after := #[], guard := none }) rfl (fun K hK => ?_) AllReadyH.nil
          go_simp
          have B := Lib.hid (BoxL.new v16 [.int .i64 0, .int .i64 0, .int .i64 0] 35)
          have N0 := N.out.size
          have hb := bA (bR v16) (.cells #[.int .i64 0, .int .i64 0, .int .i64 0] 35)
          replace N := Lib.hid (bT N.out hb)
          refine hK.out _ _ (Hf1.keep hb hHeld) (fun hN => ?_)
          clear hb
          clear hK K hHeld
          replace hHeld := hN
          clear hN
          generalize v16.alloc (.cells #[.int .i64 0, .int .i64 0, .int .i64 0] 35) = v18 at *
          generalize hbd : v16.heap.size = bg at B ⊢
          have G := Lib.hid (show Wd.heap.size ≤ bg by rw [← hbd]; exact N0)
          clear hbd N0
          (try simp only [Act.put, List.setIfInBounds_toArray, List.set_cons_zero, List.set_cons_succ])
          obtain ⟨y0, y1, y2, _⟩ := B.out.c3
          obtain ⟨y3, y4, y5⟩ := B.out.f3q
          refine wpAnyH_ready (rs := [9]) (by kernel_rfl) (by simp) ?_
          refine AllReadyH.cons (o := { dst := none, op := Op.store 35 (Operand.tmp 11) (Operand.tmp 35), type := 0, pos := "exact.go:6183", after := #[{ on := 8, ground := Ground.data }, { on := 6, ground := Ground.data }, { on := 4, ground := Ground.chain }, { on := 0, ground := Ground.phase }, { on := 1, ground := Ground.phase }, { on := 2, ground := Ground.phase }, { on := 3, ground := Ground.phase }, { on := 4, ground := Ground.phase }, { on := 5, ground := Ground.phase }, { on := 6, ground := Ground.phase }, { on := 7, ground := Ground.textOnly Departure.lateStores }, { on := 8, ground := Ground.phase }], guard := none }) rfl (fun K hK => ?_) AllReadyH.nil
          go_simp
          clear y0 y1 y2 y3 y4 y5
          replace B := Lib.hid (BoxL.setQ (i := 2) (v := .int .i64 z2) (BoxL.setQ (i := 1) (v := .int .i64 z1) (BoxL.setQ (i := 0) (v := .int .i64 z0) B.out rfl) rfl) rfl)
          replace N := Lib.hid (((N.out.setCell (p := ⟨bg, 0, none⟩) G.out (.int .i64 z0)).setCell (p := ⟨bg, 1, none⟩) G.out (.int .i64 z1)).setCell (p := ⟨bg, 2, none⟩) G.out (.int .i64 z2))
          refine hK.out _ _ (Hf1.keep N.out H4.out) (fun hN => ?_)
          clear hK K hHeld
          replace hHeld := hN
          clear hN
          generalize ((v18.setCell ⟨bg, 0, none⟩ (.int .i64 z0)).setCell ⟨bg, 1, none⟩ (.int .i64 z1)).setCell ⟨bg, 2, none⟩ (.int .i64 z2) = v20 at *
          (try simp only [Act.put, List.setIfInBounds_toArray, List.set_cons_zero, List.set_cons_succ])
          refine wpAnyH_take (i := 10) (oi := { dst := some 12, op := Op.assign (Operand.tmp 36), type := 2, pos := "exact.go:6183", after := #[{ on := 7, ground := Ground.data }, { on := 9, ground := Ground.chain }, { on := 0, ground := Ground.phase }, { on := 1, ground := Ground.phase }, { on := 2, ground := Ground.phase }, { on := 3, ground := Ground.phase }, { on := 4, ground := Ground.phase }, { on := 5, ground := Ground.phase }, { on := 6, ground := Ground.phase }, { on := 7, ground := Ground.phase }, { on := 8, ground := Ground.phase }, { on := 9, ground := Ground.phase }], guard := none }) (v := ?_) rfl (by kernel_rfl) (by kernel_rfl) (by kernel_rfl) (fun _ _ _ h => h) (Or.inl ⟨by rfl, ?_⟩) (by assumption) ?_
          rotate_left 1
          · ((intro w hSw; obtain ⟨s0, s1, s2, s3, s4, s5, s6, s7, s8, s9, s10, s11, s12, s13, s14, s15, s16, s17, s18⟩ := hSw; go_simp; try with_reducible rfl))
          (try simp only [Act.put, List.setIfInBounds_toArray, List.set_cons_zero, List.set_cons_succ])
          refine wpAnyH_done (by kernel_rfl) ?_ _
    all_goals
      have H5 := Lib.hid hHeld
      have DB5 := Lib.hid (DB4.out.keep N.out)
      obtain ⟨e0, e1, e2, _⟩ := DB5.out.c3
      obtain ⟨g0, g1, g2, _⟩ := B.out.c3
      clear hHeld N G H4 DB4 CS CI
      go_wp2_with fail
      refine (eqDate_same z0 z1 z2 _).mono ?_
      rintro e w6 ⟨rfl, hb⟩
      have H6 := Lib.hid (H5.out.keep hb)
      clear e0 e1 e2 g0 g1 g2 hb B DB5 H5
      obtain ⟨b0, b1, b2, b3, b4, _, _, c0, c1, c2, c3, d0, d1, d2, c4, d3, _, _, _⟩ := H6.out
      go_wp2_with fail
      have HS : FinC w bl bx nm wk (.slice p1 ms.length p2) (.slice p3 rs.length p4) (.slice u1 ms.length u2) (.slice u3 rs.length u4) ms rs w6 := ⟨c0, c1, c2, c3, b0, b1, b2, b3, c4, b4, H6.out.2.2.2.2.2.2.2.2.2.2.2.2.2.2.2.2.1, H6.out.2.2.2.2.2.2.2.2.2.2.2.2.2.2.2.2.2.1, H6.out.2.2.2.2.2.1, H6.out.2.2.2.2.2.2.1, H6.out.2.2.2.2.2.2.2.2.2.2.2.2.2.2.2.2.2.2⟩
      clear c0 c1 c2 c3 d0 d1 d2 c4 d3 b0 b1 b2 b3 b4 H6
      go_region_held3 (fun w' => w'.cell? ⟨bl, 0, none⟩ = some (.string nm) ∧ w'.cell? ⟨bl, 1, none⟩ = some (.slice p1 ms.length p2) ∧ w'.cell? ⟨bl, 2, none⟩ = some (.slice p3 rs.length p4) ∧ w'.cell? ⟨bl, 3, none⟩ = some (.int .i64 wk) ∧ w'.cell? ⟨bx, 0, none⟩ = some (.string nm) ∧ w'.cell? ⟨bx, 1, none⟩ = some (.slice u1 ms.length u2) ∧ w'.cell? ⟨bx, 2, none⟩ = some (.slice u3 rs.length u4) ∧ w'.cell? ⟨bx, 3, none⟩ = some (.int .i64 wk) ∧ bl < w'.heap.size ∧ bx < w'.heap.size ∧ SlMo w' (.slice p1 ms.length p2) ms ∧ SlRu w' (.slice p3 rs.length p4) rs ∧ SlMo w' (.slice u1 ms.length u2) ms ∧ SlRu w' (.slice u3 rs.length u4) rs ∧ Below w.heap.size w w') (first | exact HS.drew | assumption | exact FinC.keep hb (by first | assumption | exact HS.drew))
        (first
          | (go_at_call 13; have hS : FinC w bl bx nm wk (.slice p1 ms.length p2) (.slice p3 rs.length p4) (.slice u1 ms.length u2) (.slice u3 rs.length u4) ms rs _ := (by first | assumption | exact HS.drew); refine (toCalendar_any _ ⟨nm, ms, rs, wk⟩ _ ⟨_, _, rfl, HSZ.out, hS.2.2.2.2.2.2.2.2.2.2.1, hS.2.2.2.2.2.2.2.2.2.2.2.1⟩ HL.out).mono ?_; clear hS; rintro e w' ⟨x3, rfl, hA, hb⟩; have hIs := hA.is; clear hA)
          | (go_at_call 16; have hS : FinC w bl bx nm wk (.slice p1 ms.length p2) (.slice p3 rs.length p4) (.slice u1 ms.length u2) (.slice u3 rs.length u4) ms rs _ := (by first | assumption | exact HS.drew); refine (eqCalendar_same ⟨nm, ms, rs, wk⟩ _ _ _ ⟨_, _, rfl, HSZ.out, hS.2.2.2.2.2.2.2.2.2.2.2.2.1, hS.2.2.2.2.2.2.2.2.2.2.2.2.2.1⟩ (by assumption) HL.out).mono ?_; clear hS; rintro e w' ⟨rfl, hb⟩))
      have HT' : FinC w bl bx nm wk (.slice p1 ms.length p2) (.slice p3 rs.length p4) (.slice u1 ms.length u2) (.slice u3 rs.length u4) ms rs w' := by assumption
      have HU := Lib.hid HT'.2.2.2.2.2.2.2.2.2.2.2.2.2.2
      clear HT' HS
      go_wp2_with fail
      go_ret
      exact ⟨rfl, HU.out⟩
end Go.Proofs.Ytbkhejideffflaa

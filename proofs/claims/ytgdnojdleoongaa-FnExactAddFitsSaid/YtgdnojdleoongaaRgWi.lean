/-
  The walk of laws.FnExactAddFits.
-/
import Derived.Test.YtgdnojdleoongaaRgA
import Derived.Test.YtgdnojdleoongaaRgWc
import Derived.Test.YtgdnojdleoongaaRgWb
import Derived.Deep.AppendLies
namespace Go.Proofs.Ytgdnojdleoongaa
open Go.RowKit

/-- The two boxes of sums of the law. -/
def FtL (w : World) (b2 : Nat) (a b : Ft) (w' : World) : Prop := BoxL w' w.heap.size [.int .i64 a.n, .int .i64 a.x, .int .i64 a.y, .int .i64 a.xx, .int .i64 a.xy] ∧ BoxL w' b2 [.int .i64 b.n, .int .i64 b.x, .int .i64 b.y, .int .i64 b.xx, .int .i64 b.xy] ∧ Below w.heap.size w w'
theorem FtL.keep {w : World} {b2 : Nat} {a b : Ft} {x y : World} (h : FtL w b2 a b x) (hb : Below x.heap.size x y) : FtL w b2 a b y := ⟨h.1.keep hb, h.2.1.keep hb, bT h.2.2 hb⟩
/-- What a drawn region keeps: the law's two boxes of sums. -/
def AfK (w : World) (b2 : Nat) (a b : Ft) (W0 w' : World) : Prop := (w'.cell? ⟨w.heap.size, 0, none⟩ = some (.int .i64 a.n) ∧ w'.cell? ⟨w.heap.size, 1, none⟩ = some (.int .i64 a.x) ∧ w'.cell? ⟨w.heap.size, 2, none⟩ = some (.int .i64 a.y) ∧ w'.cell? ⟨w.heap.size, 3, none⟩ = some (.int .i64 a.xx) ∧ w'.cell? ⟨w.heap.size, 4, none⟩ = some (.int .i64 a.xy) ∧ w.heap.size < w'.heap.size) ∧ (w'.cell? ⟨b2, 0, none⟩ = some (.int .i64 b.n) ∧ w'.cell? ⟨b2, 1, none⟩ = some (.int .i64 b.x) ∧ w'.cell? ⟨b2, 2, none⟩ = some (.int .i64 b.y) ∧ w'.cell? ⟨b2, 3, none⟩ = some (.int .i64 b.xx) ∧ w'.cell? ⟨b2, 4, none⟩ = some (.int .i64 b.xy) ∧ b2 < w'.heap.size) ∧ Below W0.heap.size W0 w'
theorem AfK.bel {w : World} {b2 : Nat} {a b : Ft} {W0 w' : World} (h : AfK w b2 a b W0 w') : Below W0.heap.size W0 w' := h.2.2
theorem AfK.of {w : World} {b2 : Nat} {a b : Ft} {W0 w' : World} (h : FtL w b2 a b W0) (hb : Below W0.heap.size W0 w') : AfK w b2 a b W0 w' := ⟨(h.keep hb).1.c5, (h.keep hb).2.1.c5, hb⟩
theorem AfK.box {w : World} {b2 : Nat} {a b : Ft} {W0 w' : World} (_ : AfK w b2 a b W0 w') (T : TypeId) : BoxL (w'.alloc (.cells #[.int .i64 0, .int .i64 0, .int .i64 0, .int .i64 0, .int .i64 0] T)) w'.heap.size [.int .i64 0, .int .i64 0, .int .i64 0, .int .i64 0, .int .i64 0] := BoxL.new w' [.int .i64 0, .int .i64 0, .int .i64 0, .int .i64 0, .int .i64 0] T
set_option maxRecDepth 100000 in
set_option maxHeartbeats 32000000 in
theorem FnExactAddFits_walk (n x y xx xy n' x' y' xx' xy' : Int) (w : World) :
    Calls Try.prog 5 #[.agg #[.int .i64 n, .int .i64 x, .int .i64 y, .int .i64 xx, .int .i64 xy], .agg #[.int .i64 n', .int .i64 x', .int .i64 y', .int .i64 xx', .int .i64 xy']] w fun e w' => e = .returned (.bool true) ∧ Below w.heap.size w w' := by
  suffices H : ∀ a b : Ft, Calls Try.prog 5 #[.agg #[.int .i64 a.n, .int .i64 a.x, .int .i64 a.y, .int .i64 a.xx, .int .i64 a.xy], .agg #[.int .i64 b.n, .int .i64 b.x, .int .i64 b.y, .int .i64 b.xx, .int .i64 b.xy]] w fun e w' => e = .returned (.bool true) ∧ Below w.heap.size w w' from H ⟨n, x, y, xx, xy⟩ ⟨n', x', y', xx', xy'⟩
  clear n x y xx xy n' x' y' xx' xy'
  intro a b
  have H0 := Lib.hid (show FtL w (w.heap.size + 1) a b ((w.alloc (.cells #[.int .i64 a.n, .int .i64 a.x, .int .i64 a.y, .int .i64 a.xx, .int .i64 a.xy] 34)).alloc (.cells #[.int .i64 b.n, .int .i64 b.x, .int .i64 b.y, .int .i64 b.xx, .int .i64 b.xy] 34)) from ⟨(BoxL.new w [.int .i64 a.n, .int .i64 a.x, .int .i64 a.y, .int .i64 a.xx, .int .i64 a.xy] 34).alloc _, BoxL.at_ (vs := [.int .i64 b.n, .int .i64 b.x, .int .i64 b.y, .int .i64 b.xx, .int .i64 b.xy]) (by simp), bA (bA (bR _) _) _⟩)
  have CS := Lib.hid (fun W => AddFitsS_any a b W)
  have CI := Lib.hid (fun W => AddFitsI_any a b W)
  have TA := Lib.hid (fun W => toFitF a W)
  have TB := Lib.hid (fun W => toFitF b W)
  unfold FtC at CS CI
  generalize afE a b = R at *
  obtain ⟨⟨n, x, y, xx, xy⟩, c⟩ := R
  simp only at CS CI
  have n1 : (c != c) = false := by simp
  go_enter Try.func5, Try.ntmps5
  go_upto_region 1 with fail
  generalize (w.alloc (.cells #[.int .i64 a.n, .int .i64 a.x, .int .i64 a.y, .int .i64 a.xx, .int .i64 a.xy] 34)).alloc (.cells #[.int .i64 b.n, .int .i64 b.x, .int .i64 b.y, .int .i64 b.xx, .int .i64 b.xy] 34) = W0 at *
  generalize w.heap.size + 1 = b2 at *
  go_cut [5, 6] (fun s5 s6 wx => ∃ kk : Nat, s5 = .pointer (some ⟨kk, 0, none⟩) ∧ s6 = .int .i64 c ∧ BoxL wx kk [.int .i64 n, .int .i64 x, .int .i64 y, .int .i64 xx, .int .i64 xy] ∧ W0.heap.size ≤ kk ∧ Below W0.heap.size W0 wx)
  case first =>
    refine wp_region_held_drew (S := AfK w b2 a b W0) (by kernel_rfl) (AfK.of H0.out (bR _).drew) (fun hHeld => ?_)
    generalize hWd : World.drew W0 = Wd at hHeld ⊢
    clear hWd
    refine wpAnyH_take (i := 0) (oi := { dst := some 10, op := Op.load 34 (Operand.tmp 2), type := 34, pos := "exact.go:5622", after := #[], guard := none }) (v := ?_) rfl (by kernel_rfl) (by kernel_rfl) (by kernel_rfl) (fun _ _ _ h => h) (Or.inl ⟨by rfl, ?_⟩) (by assumption) ?_
    rotate_left 1
    · ((intro w hSw; obtain ⟨⟨c0, c1, c2, c3, c4, _⟩, ⟨d0, d1, d2, d3, d4, _⟩, _⟩ := hSw; go_simp; try with_reducible rfl))
    (try simp only [Act.put, List.setIfInBounds_toArray, List.set_cons_zero, List.set_cons_succ])
    refine wpAnyH_take (i := 2) (oi := { dst := some 12, op := Op.load 34 (Operand.tmp 3), type := 34, pos := "exact.go:5622", after := #[], guard := none }) (v := ?_) rfl (by kernel_rfl) (by kernel_rfl) (by kernel_rfl) (fun _ _ _ h => h) (Or.inl ⟨by rfl, ?_⟩) (by assumption) ?_
    rotate_left 1
    · ((intro w hSw; obtain ⟨⟨c0, c1, c2, c3, c4, _⟩, ⟨d0, d1, d2, d3, d4, _⟩, _⟩ := hSw; go_simp; try with_reducible rfl))
    (try simp only [Act.put, List.setIfInBounds_toArray, List.set_cons_zero, List.set_cons_succ])
    refine wpAnyH_ready (rs := [1, 8]) (by kernel_rfl) (by simp) ?_
    refine AllReadyH.cons (o := { dst := some 11, op := Op.call { callee := Callee.value (Operand.func 20), args := #[Operand.tmp 10], argTypes := #[34] }, type := 30, pos := "exact.go:5622", after := #[{ on := 0, ground := Ground.data }], guard := none }) rfl (fun K hK => ?_) ?_
    · skip
      go_simp
      go_at_call 20
      refine (TA.out _).mono ?_
      rintro e w' ⟨rfl, hb⟩
      refine hK.out _ _ (AfK.of H0.out (bT hHeld.bel hb)) (fun hHeld2 => ?_)
      clear hK K hHeld hb
      have hHeld := hHeld2
      clear hHeld2
      (try simp only [Act.put, List.setIfInBounds_toArray, List.set_cons_zero, List.set_cons_succ])
      refine wpAnyH_ready (rs := [3, 8]) (by kernel_rfl) (by simp) ?_
      refine AllReadyH.cons (o := { dst := some 13, op := Op.call { callee := Callee.value (Operand.func 20), args := #[Operand.tmp 12], argTypes := #[34] }, type := 30, pos := "exact.go:5622", after := #[{ on := 2, ground := Ground.data }, { on := 1, ground := Ground.chain }], guard := none }) rfl (fun K hK => ?_) ?_
      · skip
        go_simp
        go_at_call 20
        refine (TB.out _).mono ?_
        rintro e w' ⟨rfl, hb⟩
        refine hK.out _ _ (AfK.of H0.out (bT hHeld.bel hb)) (fun hHeld2 => ?_)
        clear hK K hHeld hb
        have hHeld := hHeld2
        clear hHeld2
        (try simp only [Act.put, List.setIfInBounds_toArray, List.set_cons_zero, List.set_cons_succ])
        refine wpAnyH_ready (rs := [4, 8]) (by kernel_rfl) (by simp) ?_
        refine AllReadyH.cons (o := { dst := some 14, op := Op.call { callee := Callee.value (Operand.func 19), args := #[Operand.tmp 11, Operand.tmp 13], argTypes := #[30, 30] }, type := 31, pos := "exact.go:5622", after := #[{ on := 1, ground := Ground.data }, { on := 3, ground := Ground.data }, { on := 3, ground := Ground.chain }], guard := none }) rfl (fun K hK => ?_) ?_
        · skip
          go_simp
          go_at_call 19
          refine (CS.out _).mono ?_
          rintro e w' ⟨rfl, hb⟩
          refine hK.out _ _ (AfK.of H0.out (bT hHeld.bel hb)) (fun hHeld2 => ?_)
          clear hK K hHeld hb
          have hHeld := hHeld2
          clear hHeld2
          (try simp only [Act.put, List.setIfInBounds_toArray, List.set_cons_zero, List.set_cons_succ])
          refine wpAnyH_take (i := 5) (oi := { dst := some 9, op := Op.move (Operand.tmp 14), type := 31, pos := "exact.go:5622", after := #[{ on := 4, ground := Ground.data }], guard := none }) (v := ?_) rfl (by kernel_rfl) (by kernel_rfl) (by kernel_rfl) (fun _ _ _ h => h) (Or.inl ⟨by rfl, ?_⟩) (by assumption) ?_
          rotate_left 1
          · ((intro w hSw; obtain ⟨⟨c0, c1, c2, c3, c4, _⟩, ⟨d0, d1, d2, d3, d4, _⟩, _⟩ := hSw; go_simp; try with_reducible rfl))
          (try simp only [Act.put, List.setIfInBounds_toArray, List.set_cons_zero, List.set_cons_succ])
          refine wpAnyH_take (i := 6) (oi := { dst := some 15, op := Op.extract (Operand.tmp 9) 0, type := 30, pos := "exact.go:5622", after := #[{ on := 5, ground := Ground.data }], guard := none }) (v := ?_) rfl (by kernel_rfl) (by kernel_rfl) (by kernel_rfl) (fun _ _ _ h => h) (Or.inl ⟨by rfl, ?_⟩) (by assumption) ?_
          rotate_left 1
          · ((intro w hSw; obtain ⟨⟨c0, c1, c2, c3, c4, _⟩, ⟨d0, d1, d2, d3, d4, _⟩, _⟩ := hSw; go_simp; try with_reducible rfl))
          (try simp only [Act.put, List.setIfInBounds_toArray, List.set_cons_zero, List.set_cons_succ])
          refine wpAnyH_take (i := 7) (oi := { dst := some 16, op := Op.extract (Operand.tmp 9) 1, type := 2, pos := "exact.go:5622", after := #[{ on := 5, ground := Ground.data }, { on := 9, ground := Ground.gcOnly Departure.lateStores }], guard := none }) (v := ?_) rfl (by kernel_rfl) (by kernel_rfl) (by kernel_rfl) (fun _ _ _ h => h) (Or.inl ⟨by rfl, ?_⟩) (by assumption) ?_
          rotate_left 1
          · ((intro w hSw; obtain ⟨⟨c0, c1, c2, c3, c4, _⟩, ⟨d0, d1, d2, d3, d4, _⟩, _⟩ := hSw; go_simp; try with_reducible rfl))
          (try simp only [Act.put, List.setIfInBounds_toArray, List.set_cons_zero, List.set_cons_succ])
          refine wpAnyH_ready (rs := [8]) (by kernel_rfl) (by simp) ?_
          refine AllReadyH.cons (o := { dst := some 5, op := Op.alloc 30, type := 0, pos := "exact.go:5622", after := #[], guard := none }) rfl (fun K hK => ?_) AllReadyH.nil
          go_simp
          refine hK.out _ _ (AfK.of H0.out (bA hHeld.bel _)) (fun hHeld2 => ?_)
          have hkk := hHeld.bel.size
          have ZB := Lib.hid (AfK.box hHeld 30)
          clear hK K hHeld
          have hHeld := hHeld2
          clear hHeld2
          (try simp only [Act.put, List.setIfInBounds_toArray, List.set_cons_zero, List.set_cons_succ])
          generalize hwA : World.alloc _ (Obj.cells _ 30) = wA at hHeld ZB ⊢
          clear hwA
          generalize hqk : Array.size (World.heap w') = kq at ZB hkk ⊢
          clear hqk
          refine wpAnyH_ready (rs := [9]) (by kernel_rfl) (by simp) ?_
          refine AllReadyH.cons (o := { dst := none, op := Op.store 30 (Operand.tmp 5) (Operand.tmp 15), type := 0, pos := "exact.go:5622", after := #[{ on := 8, ground := Ground.data }, { on := 6, ground := Ground.data }, { on := 4, ground := Ground.chain }, { on := 0, ground := Ground.phase }, { on := 1, ground := Ground.phase }, { on := 2, ground := Ground.phase }, { on := 3, ground := Ground.phase }, { on := 4, ground := Ground.phase }, { on := 5, ground := Ground.phase }, { on := 6, ground := Ground.phase }, { on := 7, ground := Ground.textOnly Departure.lateStores }, { on := 8, ground := Ground.phase }], guard := none }) rfl (fun K hK => ?_) AllReadyH.nil
          obtain ⟨o0, o1, o2, o3, o4, o5⟩ := ZB.out.c5
          obtain ⟨p0, p1, p2, p3, p4⟩ := ZB.out.f5
          go_simp
          refine hK.out _ _ (AfK.of H0.out (bset5R hHeld.bel hkk)) (fun hHeld2 => ?_)
          have ZF := BoxL.set5R (v0 := .int .i64 n) (v1 := .int .i64 x) (v2 := .int .i64 y) (v3 := .int .i64 xx) (v4 := .int .i64 xy) ZB.out
          clear hK K hHeld ZB
          have hHeld := hHeld2
          clear hHeld2 o0 o1 o2 o3 o4 o5 p0 p1 p2 p3 p4
          (try simp only [Act.put, List.setIfInBounds_toArray, List.set_cons_zero, List.set_cons_succ])
          refine wpAnyH_take (i := 10) (oi := { dst := some 6, op := Op.assign (Operand.tmp 16), type := 2, pos := "exact.go:5622", after := #[{ on := 7, ground := Ground.data }, { on := 9, ground := Ground.chain }, { on := 0, ground := Ground.phase }, { on := 1, ground := Ground.phase }, { on := 2, ground := Ground.phase }, { on := 3, ground := Ground.phase }, { on := 4, ground := Ground.phase }, { on := 5, ground := Ground.phase }, { on := 6, ground := Ground.phase }, { on := 7, ground := Ground.phase }, { on := 8, ground := Ground.phase }, { on := 9, ground := Ground.phase }], guard := none }) (v := ?_) rfl (by kernel_rfl) (by kernel_rfl) (by kernel_rfl) (fun _ _ _ h => h) (Or.inl ⟨by rfl, ?_⟩) (by assumption) ?_
          rotate_left 1
          · ((intro w hSw; obtain ⟨⟨c0, c1, c2, c3, c4, _⟩, ⟨d0, d1, d2, d3, d4, _⟩, _⟩ := hSw; go_simp; try with_reducible rfl))
          (try simp only [Act.put, List.setIfInBounds_toArray, List.set_cons_zero, List.set_cons_succ])
          refine wpAnyH_done (by kernel_rfl) ?_ _
          go_wp2_with fail
          go_meet
          exact ⟨_, rfl, rfl, ZF, hkk, hHeld.bel⟩
        refine AllReadyH.cons (o := { dst := some 5, op := Op.alloc 30, type := 0, pos := "exact.go:5622", after := #[], guard := none }) rfl (fun K hK => ?_) AllReadyH.nil
        go_simp
        refine hK.out _ _ (AfK.of H0.out (bA hHeld.bel _)) (fun hHeld2 => ?_)
        have hkk := hHeld.bel.size
        have ZB := Lib.hid (AfK.box hHeld 30)
        clear hK K hHeld
        have hHeld := hHeld2
        clear hHeld2
        (try simp only [Act.put, List.setIfInBounds_toArray, List.set_cons_zero, List.set_cons_succ])
        generalize hwA : World.alloc _ (Obj.cells _ 30) = wA at hHeld ZB ⊢
        clear hwA
        generalize hqk : Array.size (World.heap w') = kq at ZB hkk ⊢
        clear hqk
        refine wpAnyH_ready (rs := [4]) (by kernel_rfl) (by simp) ?_
        refine AllReadyH.cons (o := { dst := some 14, op := Op.call { callee := Callee.value (Operand.func 19), args := #[Operand.tmp 11, Operand.tmp 13], argTypes := #[30, 30] }, type := 31, pos := "exact.go:5622", after := #[{ on := 1, ground := Ground.data }, { on := 3, ground := Ground.data }, { on := 3, ground := Ground.chain }], guard := none }) rfl (fun K hK => ?_) AllReadyH.nil
        go_simp
        go_at_call 19
        refine (CS.out _).mono ?_
        rintro e w' ⟨rfl, hb⟩
        refine hK.out _ _ (AfK.of H0.out (bT hHeld.bel hb)) (fun hHeld2 => ?_)
        have ZB := Lib.hid (ZB.out.keep hb)
        clear hK K hHeld hb
        have hHeld := hHeld2
        clear hHeld2
        (try simp only [Act.put, List.setIfInBounds_toArray, List.set_cons_zero, List.set_cons_succ])
        refine wpAnyH_take (i := 5) (oi := { dst := some 9, op := Op.move (Operand.tmp 14), type := 31, pos := "exact.go:5622", after := #[{ on := 4, ground := Ground.data }], guard := none }) (v := ?_) rfl (by kernel_rfl) (by kernel_rfl) (by kernel_rfl) (fun _ _ _ h => h) (Or.inl ⟨by rfl, ?_⟩) (by assumption) ?_
        rotate_left 1
        · ((intro w hSw; obtain ⟨⟨c0, c1, c2, c3, c4, _⟩, ⟨d0, d1, d2, d3, d4, _⟩, _⟩ := hSw; go_simp; try with_reducible rfl))
        (try simp only [Act.put, List.setIfInBounds_toArray, List.set_cons_zero, List.set_cons_succ])
        refine wpAnyH_take (i := 6) (oi := { dst := some 15, op := Op.extract (Operand.tmp 9) 0, type := 30, pos := "exact.go:5622", after := #[{ on := 5, ground := Ground.data }], guard := none }) (v := ?_) rfl (by kernel_rfl) (by kernel_rfl) (by kernel_rfl) (fun _ _ _ h => h) (Or.inl ⟨by rfl, ?_⟩) (by assumption) ?_
        rotate_left 1
        · ((intro w hSw; obtain ⟨⟨c0, c1, c2, c3, c4, _⟩, ⟨d0, d1, d2, d3, d4, _⟩, _⟩ := hSw; go_simp; try with_reducible rfl))
        (try simp only [Act.put, List.setIfInBounds_toArray, List.set_cons_zero, List.set_cons_succ])
        refine wpAnyH_take (i := 7) (oi := { dst := some 16, op := Op.extract (Operand.tmp 9) 1, type := 2, pos := "exact.go:5622", after := #[{ on := 5, ground := Ground.data }, { on := 9, ground := Ground.gcOnly Departure.lateStores }], guard := none }) (v := ?_) rfl (by kernel_rfl) (by kernel_rfl) (by kernel_rfl) (fun _ _ _ h => h) (Or.inl ⟨by rfl, ?_⟩) (by assumption) ?_
        rotate_left 1
        · ((intro w hSw; obtain ⟨⟨c0, c1, c2, c3, c4, _⟩, ⟨d0, d1, d2, d3, d4, _⟩, _⟩ := hSw; go_simp; try with_reducible rfl))
        (try simp only [Act.put, List.setIfInBounds_toArray, List.set_cons_zero, List.set_cons_succ])
        refine wpAnyH_ready (rs := [9]) (by kernel_rfl) (by simp) ?_
        refine AllReadyH.cons (o := { dst := none, op := Op.store 30 (Operand.tmp 5) (Operand.tmp 15), type := 0, pos := "exact.go:5622", after := #[{ on := 8, ground := Ground.data }, { on := 6, ground := Ground.data }, { on := 4, ground := Ground.chain }, { on := 0, ground := Ground.phase }, { on := 1, ground := Ground.phase }, { on := 2, ground := Ground.phase }, { on := 3, ground := Ground.phase }, { on := 4, ground := Ground.phase }, { on := 5, ground := Ground.phase }, { on := 6, ground := Ground.phase }, { on := 7, ground := Ground.textOnly Departure.lateStores }, { on := 8, ground := Ground.phase }], guard := none }) rfl (fun K hK => ?_) AllReadyH.nil
        obtain ⟨o0, o1, o2, o3, o4, o5⟩ := ZB.out.c5
        obtain ⟨p0, p1, p2, p3, p4⟩ := ZB.out.f5
        go_simp
        refine hK.out _ _ (AfK.of H0.out (bset5R hHeld.bel hkk)) (fun hHeld2 => ?_)
        have ZF := BoxL.set5R (v0 := .int .i64 n) (v1 := .int .i64 x) (v2 := .int .i64 y) (v3 := .int .i64 xx) (v4 := .int .i64 xy) ZB.out
        clear hK K hHeld ZB
        have hHeld := hHeld2
        clear hHeld2 o0 o1 o2 o3 o4 o5 p0 p1 p2 p3 p4
        (try simp only [Act.put, List.setIfInBounds_toArray, List.set_cons_zero, List.set_cons_succ])
        refine wpAnyH_take (i := 10) (oi := { dst := some 6, op := Op.assign (Operand.tmp 16), type := 2, pos := "exact.go:5622", after := #[{ on := 7, ground := Ground.data }, { on := 9, ground := Ground.chain }, { on := 0, ground := Ground.phase }, { on := 1, ground := Ground.phase }, { on := 2, ground := Ground.phase }, { on := 3, ground := Ground.phase }, { on := 4, ground := Ground.phase }, { on := 5, ground := Ground.phase }, { on := 6, ground := Ground.phase }, { on := 7, ground := Ground.phase }, { on := 8, ground := Ground.phase }, { on := 9, ground := Ground.phase }], guard := none }) (v := ?_) rfl (by kernel_rfl) (by kernel_rfl) (by kernel_rfl) (fun _ _ _ h => h) (Or.inl ⟨by rfl, ?_⟩) (by assumption) ?_
        rotate_left 1
        · ((intro w hSw; obtain ⟨⟨c0, c1, c2, c3, c4, _⟩, ⟨d0, d1, d2, d3, d4, _⟩, _⟩ := hSw; go_simp; try with_reducible rfl))
        (try simp only [Act.put, List.setIfInBounds_toArray, List.set_cons_zero, List.set_cons_succ])
        refine wpAnyH_done (by kernel_rfl) ?_ _
        go_wp2_with fail
        go_meet
        exact ⟨_, rfl, rfl, ZF, hkk, hHeld.bel⟩
      refine AllReadyH.cons (o := { dst := some 5, op := Op.alloc 30, type := 0, pos := "exact.go:5622", after := #[], guard := none }) rfl (fun K hK => ?_) AllReadyH.nil
      go_simp
      refine hK.out _ _ (AfK.of H0.out (bA hHeld.bel _)) (fun hHeld2 => ?_)
      have hkk := hHeld.bel.size
      have ZB := Lib.hid (AfK.box hHeld 30)
      clear hK K hHeld
      have hHeld := hHeld2
      clear hHeld2
      (try simp only [Act.put, List.setIfInBounds_toArray, List.set_cons_zero, List.set_cons_succ])
      generalize hwA : World.alloc _ (Obj.cells _ 30) = wA at hHeld ZB ⊢
      clear hwA
      generalize hqk : Array.size (World.heap w') = kq at ZB hkk ⊢
      clear hqk
      refine wpAnyH_ready (rs := [3]) (by kernel_rfl) (by simp) ?_
      refine AllReadyH.cons (o := { dst := some 13, op := Op.call { callee := Callee.value (Operand.func 20), args := #[Operand.tmp 12], argTypes := #[34] }, type := 30, pos := "exact.go:5622", after := #[{ on := 2, ground := Ground.data }, { on := 1, ground := Ground.chain }], guard := none }) rfl (fun K hK => ?_) AllReadyH.nil
      go_simp
      go_at_call 20
      refine (TB.out _).mono ?_
      rintro e w' ⟨rfl, hb⟩
      refine hK.out _ _ (AfK.of H0.out (bT hHeld.bel hb)) (fun hHeld2 => ?_)
      have ZB := Lib.hid (ZB.out.keep hb)
      clear hK K hHeld hb
      have hHeld := hHeld2
      clear hHeld2
      (try simp only [Act.put, List.setIfInBounds_toArray, List.set_cons_zero, List.set_cons_succ])
      refine wpAnyH_ready (rs := [4]) (by kernel_rfl) (by simp) ?_
      refine AllReadyH.cons (o := { dst := some 14, op := Op.call { callee := Callee.value (Operand.func 19), args := #[Operand.tmp 11, Operand.tmp 13], argTypes := #[30, 30] }, type := 31, pos := "exact.go:5622", after := #[{ on := 1, ground := Ground.data }, { on := 3, ground := Ground.data }, { on := 3, ground := Ground.chain }], guard := none }) rfl (fun K hK => ?_) AllReadyH.nil
      go_simp
      go_at_call 19
      refine (CS.out _).mono ?_
      rintro e w' ⟨rfl, hb⟩
      refine hK.out _ _ (AfK.of H0.out (bT hHeld.bel hb)) (fun hHeld2 => ?_)
      have ZB := Lib.hid (ZB.out.keep hb)
      clear hK K hHeld hb
      have hHeld := hHeld2
      clear hHeld2
      (try simp only [Act.put, List.setIfInBounds_toArray, List.set_cons_zero, List.set_cons_succ])
      refine wpAnyH_take (i := 5) (oi := { dst := some 9, op := Op.move (Operand.tmp 14), type := 31, pos := "exact.go:5622", after := #[{ on := 4, ground := Ground.data }], guard := none }) (v := ?_) rfl (by kernel_rfl) (by kernel_rfl) (by kernel_rfl) (fun _ _ _ h => h) (Or.inl ⟨by rfl, ?_⟩) (by assumption) ?_
      rotate_left 1
      · ((intro w hSw; obtain ⟨⟨c0, c1, c2, c3, c4, _⟩, ⟨d0, d1, d2, d3, d4, _⟩, _⟩ := hSw; go_simp; try with_reducible rfl))
      (try simp only [Act.put, List.setIfInBounds_toArray, List.set_cons_zero, List.set_cons_succ])
      refine wpAnyH_take (i := 6) (oi := { dst := some 15, op := Op.extract (Operand.tmp 9) 0, type := 30, pos := "exact.go:5622", after := #[{ on := 5, ground := Ground.data }], guard := none }) (v := ?_) rfl (by kernel_rfl) (by kernel_rfl) (by kernel_rfl) (fun _ _ _ h => h) (Or.inl ⟨by rfl, ?_⟩) (by assumption) ?_
      rotate_left 1
      · ((intro w hSw; obtain ⟨⟨c0, c1, c2, c3, c4, _⟩, ⟨d0, d1, d2, d3, d4, _⟩, _⟩ := hSw; go_simp; try with_reducible rfl))
      (try simp only [Act.put, List.setIfInBounds_toArray, List.set_cons_zero, List.set_cons_succ])
      refine wpAnyH_take (i := 7) (oi := { dst := some 16, op := Op.extract (Operand.tmp 9) 1, type := 2, pos := "exact.go:5622", after := #[{ on := 5, ground := Ground.data }, { on := 9, ground := Ground.gcOnly Departure.lateStores }], guard := none }) (v := ?_) rfl (by kernel_rfl) (by kernel_rfl) (by kernel_rfl) (fun _ _ _ h => h) (Or.inl ⟨by rfl, ?_⟩) (by assumption) ?_
      rotate_left 1
      · ((intro w hSw; obtain ⟨⟨c0, c1, c2, c3, c4, _⟩, ⟨d0, d1, d2, d3, d4, _⟩, _⟩ := hSw; go_simp; try with_reducible rfl))
      (try simp only [Act.put, List.setIfInBounds_toArray, List.set_cons_zero, List.set_cons_succ])
      refine wpAnyH_ready (rs := [9]) (by kernel_rfl) (by simp) ?_
      refine AllReadyH.cons (o := { dst := none, op := Op.store 30 (Operand.tmp 5) (Operand.tmp 15), type := 0, pos := "exact.go:5622", after := #[{ on := 8, ground := Ground.data }, { on := 6, ground := Ground.data }, { on := 4, ground := Ground.chain }, { on := 0, ground := Ground.phase }, { on := 1, ground := Ground.phase }, { on := 2, ground := Ground.phase }, { on := 3, ground := Ground.phase }, { on := 4, ground := Ground.phase }, { on := 5, ground := Ground.phase }, { on := 6, ground := Ground.phase }, { on := 7, ground := Ground.textOnly Departure.lateStores }, { on := 8, ground := Ground.phase }], guard := none }) rfl (fun K hK => ?_) AllReadyH.nil
      obtain ⟨o0, o1, o2, o3, o4, o5⟩ := ZB.out.c5
      obtain ⟨p0, p1, p2, p3, p4⟩ := ZB.out.f5
      go_simp
      refine hK.out _ _ (AfK.of H0.out (bset5R hHeld.bel hkk)) (fun hHeld2 => ?_)
      have ZF := BoxL.set5R (v0 := .int .i64 n) (v1 := .int .i64 x) (v2 := .int .i64 y) (v3 := .int .i64 xx) (v4 := .int .i64 xy) ZB.out
      clear hK K hHeld ZB
      have hHeld := hHeld2
      clear hHeld2 o0 o1 o2 o3 o4 o5 p0 p1 p2 p3 p4
      (try simp only [Act.put, List.setIfInBounds_toArray, List.set_cons_zero, List.set_cons_succ])
      refine wpAnyH_take (i := 10) (oi := { dst := some 6, op := Op.assign (Operand.tmp 16), type := 2, pos := "exact.go:5622", after := #[{ on := 7, ground := Ground.data }, { on := 9, ground := Ground.chain }, { on := 0, ground := Ground.phase }, { on := 1, ground := Ground.phase }, { on := 2, ground := Ground.phase }, { on := 3, ground := Ground.phase }, { on := 4, ground := Ground.phase }, { on := 5, ground := Ground.phase }, { on := 6, ground := Ground.phase }, { on := 7, ground := Ground.phase }, { on := 8, ground := Ground.phase }, { on := 9, ground := Ground.phase }], guard := none }) (v := ?_) rfl (by kernel_rfl) (by kernel_rfl) (by kernel_rfl) (fun _ _ _ h => h) (Or.inl ⟨by rfl, ?_⟩) (by assumption) ?_
      rotate_left 1
      · ((intro w hSw; obtain ⟨⟨c0, c1, c2, c3, c4, _⟩, ⟨d0, d1, d2, d3, d4, _⟩, _⟩ := hSw; go_simp; try with_reducible rfl))
      (try simp only [Act.put, List.setIfInBounds_toArray, List.set_cons_zero, List.set_cons_succ])
      refine wpAnyH_done (by kernel_rfl) ?_ _
      go_wp2_with fail
      go_meet
      exact ⟨_, rfl, rfl, ZF, hkk, hHeld.bel⟩
    refine AllReadyH.cons (o := { dst := some 5, op := Op.alloc 30, type := 0, pos := "exact.go:5622", after := #[], guard := none }) rfl (fun K hK => ?_) AllReadyH.nil
    go_simp
    refine hK.out _ _ (AfK.of H0.out (bA hHeld.bel _)) (fun hHeld2 => ?_)
    have hkk := hHeld.bel.size
    have ZB := Lib.hid (AfK.box hHeld 30)
    clear hK K hHeld
    have hHeld := hHeld2
    clear hHeld2
    (try simp only [Act.put, List.setIfInBounds_toArray, List.set_cons_zero, List.set_cons_succ])
    generalize hwA : World.alloc _ (Obj.cells _ 30) = wA at hHeld ZB ⊢
    clear hwA
    generalize hqk : Array.size (World.heap Wd) = kq at ZB hkk ⊢
    clear hqk
    refine wpAnyH_ready (rs := [1]) (by kernel_rfl) (by simp) ?_
    refine AllReadyH.cons (o := { dst := some 11, op := Op.call { callee := Callee.value (Operand.func 20), args := #[Operand.tmp 10], argTypes := #[34] }, type := 30, pos := "exact.go:5622", after := #[{ on := 0, ground := Ground.data }], guard := none }) rfl (fun K hK => ?_) AllReadyH.nil
    go_simp
    go_at_call 20
    refine (TA.out _).mono ?_
    rintro e w' ⟨rfl, hb⟩
    refine hK.out _ _ (AfK.of H0.out (bT hHeld.bel hb)) (fun hHeld2 => ?_)
    have ZB := Lib.hid (ZB.out.keep hb)
    clear hK K hHeld hb
    have hHeld := hHeld2
    clear hHeld2
    (try simp only [Act.put, List.setIfInBounds_toArray, List.set_cons_zero, List.set_cons_succ])
    refine wpAnyH_ready (rs := [3]) (by kernel_rfl) (by simp) ?_
    refine AllReadyH.cons (o := { dst := some 13, op := Op.call { callee := Callee.value (Operand.func 20), args := #[Operand.tmp 12], argTypes := #[34] }, type := 30, pos := "exact.go:5622", after := #[{ on := 2, ground := Ground.data }, { on := 1, ground := Ground.chain }], guard := none }) rfl (fun K hK => ?_) AllReadyH.nil
    go_simp
    go_at_call 20
    refine (TB.out _).mono ?_
    rintro e w' ⟨rfl, hb⟩
    refine hK.out _ _ (AfK.of H0.out (bT hHeld.bel hb)) (fun hHeld2 => ?_)
    have ZB := Lib.hid (ZB.out.keep hb)
    clear hK K hHeld hb
    have hHeld := hHeld2
    clear hHeld2
    (try simp only [Act.put, List.setIfInBounds_toArray, List.set_cons_zero, List.set_cons_succ])
    refine wpAnyH_ready (rs := [4]) (by kernel_rfl) (by simp) ?_
    refine AllReadyH.cons (o := { dst := some 14, op := Op.call { callee := Callee.value (Operand.func 19), args := #[Operand.tmp 11, Operand.tmp 13], argTypes := #[30, 30] }, type := 31, pos := "exact.go:5622", after := #[{ on := 1, ground := Ground.data }, { on := 3, ground := Ground.data }, { on := 3, ground := Ground.chain }], guard := none }) rfl (fun K hK => ?_) AllReadyH.nil
    go_simp
    go_at_call 19
    refine (CS.out _).mono ?_
    rintro e w' ⟨rfl, hb⟩
    refine hK.out _ _ (AfK.of H0.out (bT hHeld.bel hb)) (fun hHeld2 => ?_)
    have ZB := Lib.hid (ZB.out.keep hb)
    clear hK K hHeld hb
    have hHeld := hHeld2
    clear hHeld2
    (try simp only [Act.put, List.setIfInBounds_toArray, List.set_cons_zero, List.set_cons_succ])
    refine wpAnyH_take (i := 5) (oi := { dst := some 9, op := Op.move (Operand.tmp 14), type := 31, pos := "exact.go:5622", after := #[{ on := 4, ground := Ground.data }], guard := none }) (v := ?_) rfl (by kernel_rfl) (by kernel_rfl) (by kernel_rfl) (fun _ _ _ h => h) (Or.inl ⟨by rfl, ?_⟩) (by assumption) ?_
    rotate_left 1
    · ((intro w hSw; obtain ⟨⟨c0, c1, c2, c3, c4, _⟩, ⟨d0, d1, d2, d3, d4, _⟩, _⟩ := hSw; go_simp; try with_reducible rfl))
    (try simp only [Act.put, List.setIfInBounds_toArray, List.set_cons_zero, List.set_cons_succ])
    refine wpAnyH_take (i := 6) (oi := { dst := some 15, op := Op.extract (Operand.tmp 9) 0, type := 30, pos := "exact.go:5622", after := #[{ on := 5, ground := Ground.data }], guard := none }) (v := ?_) rfl (by kernel_rfl) (by kernel_rfl) (by kernel_rfl) (fun _ _ _ h => h) (Or.inl ⟨by rfl, ?_⟩) (by assumption) ?_
    rotate_left 1
    · ((intro w hSw; obtain ⟨⟨c0, c1, c2, c3, c4, _⟩, ⟨d0, d1, d2, d3, d4, _⟩, _⟩ := hSw; go_simp; try with_reducible rfl))
    (try simp only [Act.put, List.setIfInBounds_toArray, List.set_cons_zero, List.set_cons_succ])
    refine wpAnyH_take (i := 7) (oi := { dst := some 16, op := Op.extract (Operand.tmp 9) 1, type := 2, pos := "exact.go:5622", after := #[{ on := 5, ground := Ground.data }, { on := 9, ground := Ground.gcOnly Departure.lateStores }], guard := none }) (v := ?_) rfl (by kernel_rfl) (by kernel_rfl) (by kernel_rfl) (fun _ _ _ h => h) (Or.inl ⟨by rfl, ?_⟩) (by assumption) ?_
    rotate_left 1
    · ((intro w hSw; obtain ⟨⟨c0, c1, c2, c3, c4, _⟩, ⟨d0, d1, d2, d3, d4, _⟩, _⟩ := hSw; go_simp; try with_reducible rfl))
    (try simp only [Act.put, List.setIfInBounds_toArray, List.set_cons_zero, List.set_cons_succ])
    refine wpAnyH_ready (rs := [9]) (by kernel_rfl) (by simp) ?_
    refine AllReadyH.cons (o := { dst := none, op := Op.store 30 (Operand.tmp 5) (Operand.tmp 15), type := 0, pos := "exact.go:5622", after := #[{ on := 8, ground := Ground.data }, { on := 6, ground := Ground.data }, { on := 4, ground := Ground.chain }, { on := 0, ground := Ground.phase }, { on := 1, ground := Ground.phase }, { on := 2, ground := Ground.phase }, { on := 3, ground := Ground.phase }, { on := 4, ground := Ground.phase }, { on := 5, ground := Ground.phase }, { on := 6, ground := Ground.phase }, { on := 7, ground := Ground.textOnly Departure.lateStores }, { on := 8, ground := Ground.phase }], guard := none }) rfl (fun K hK => ?_) AllReadyH.nil
    obtain ⟨o0, o1, o2, o3, o4, o5⟩ := ZB.out.c5
    obtain ⟨p0, p1, p2, p3, p4⟩ := ZB.out.f5
    go_simp
    refine hK.out _ _ (AfK.of H0.out (bset5R hHeld.bel hkk)) (fun hHeld2 => ?_)
    have ZF := BoxL.set5R (v0 := .int .i64 n) (v1 := .int .i64 x) (v2 := .int .i64 y) (v3 := .int .i64 xx) (v4 := .int .i64 xy) ZB.out
    clear hK K hHeld ZB
    have hHeld := hHeld2
    clear hHeld2 o0 o1 o2 o3 o4 o5 p0 p1 p2 p3 p4
    (try simp only [Act.put, List.setIfInBounds_toArray, List.set_cons_zero, List.set_cons_succ])
    refine wpAnyH_take (i := 10) (oi := { dst := some 6, op := Op.assign (Operand.tmp 16), type := 2, pos := "exact.go:5622", after := #[{ on := 7, ground := Ground.data }, { on := 9, ground := Ground.chain }, { on := 0, ground := Ground.phase }, { on := 1, ground := Ground.phase }, { on := 2, ground := Ground.phase }, { on := 3, ground := Ground.phase }, { on := 4, ground := Ground.phase }, { on := 5, ground := Ground.phase }, { on := 6, ground := Ground.phase }, { on := 7, ground := Ground.phase }, { on := 8, ground := Ground.phase }, { on := 9, ground := Ground.phase }], guard := none }) (v := ?_) rfl (by kernel_rfl) (by kernel_rfl) (by kernel_rfl) (fun _ _ _ h => h) (Or.inl ⟨by rfl, ?_⟩) (by assumption) ?_
    rotate_left 1
    · ((intro w hSw; obtain ⟨⟨c0, c1, c2, c3, c4, _⟩, ⟨d0, d1, d2, d3, d4, _⟩, _⟩ := hSw; go_simp; try with_reducible rfl))
    (try simp only [Act.put, List.setIfInBounds_toArray, List.set_cons_zero, List.set_cons_succ])
    refine wpAnyH_done (by kernel_rfl) ?_ _
    go_wp2_with fail
    go_meet
    exact ⟨_, rfl, rfl, ZF, hkk, hHeld.bel⟩
  case rest =>
    obtain ⟨k5, rfl, rfl, hX, hkk, hB⟩ := hcut
    have X1 := Lib.hid hX
    have H1 := Lib.hid (H0.out.keep hB)
    clear hX hB CS H0 hkk
    generalize wc = w1 at *
    go_upto_region 2 with fail
    go_cut [7, 8] (fun s7 s8 wx => ∃ kk : Nat, s7 = .pointer (some ⟨kk, 0, none⟩) ∧ s8 = .int .i64 c ∧ BoxL wx kk [.int .i64 n, .int .i64 x, .int .i64 y, .int .i64 xx, .int .i64 xy] ∧ w1.heap.size ≤ kk ∧ Below w1.heap.size w1 wx)
    case first =>
      refine wp_region_held_drew (S := AfK w b2 a b w1) (by kernel_rfl) (AfK.of H1.out (bR _).drew) (fun hHeld => ?_)
      generalize hWd : World.drew w1 = Wd at hHeld ⊢
      clear hWd
      refine wpAnyH_take (i := 0) (oi := { dst := some 18, op := Op.load 34 (Operand.tmp 2), type := 34, pos := "exact.go:5623", after := #[], guard := none }) (v := ?_) rfl (by kernel_rfl) (by kernel_rfl) (by kernel_rfl) (fun _ _ _ h => h) (Or.inl ⟨by rfl, ?_⟩) (by assumption) ?_
      rotate_left 1
      · ((intro w hSw; obtain ⟨⟨c0, c1, c2, c3, c4, _⟩, ⟨d0, d1, d2, d3, d4, _⟩, _⟩ := hSw; go_simp; try with_reducible rfl))
      (try simp only [Act.put, List.setIfInBounds_toArray, List.set_cons_zero, List.set_cons_succ])
      refine wpAnyH_take (i := 2) (oi := { dst := some 20, op := Op.load 34 (Operand.tmp 3), type := 34, pos := "exact.go:5623", after := #[], guard := none }) (v := ?_) rfl (by kernel_rfl) (by kernel_rfl) (by kernel_rfl) (fun _ _ _ h => h) (Or.inl ⟨by rfl, ?_⟩) (by assumption) ?_
      rotate_left 1
      · ((intro w hSw; obtain ⟨⟨c0, c1, c2, c3, c4, _⟩, ⟨d0, d1, d2, d3, d4, _⟩, _⟩ := hSw; go_simp; try with_reducible rfl))
      (try simp only [Act.put, List.setIfInBounds_toArray, List.set_cons_zero, List.set_cons_succ])
      refine wpAnyH_ready (rs := [1, 8]) (by kernel_rfl) (by simp) ?_
      refine AllReadyH.cons (o := { dst := some 19, op := Op.call { callee := Callee.value (Operand.func 20), args := #[Operand.tmp 18], argTypes := #[34] }, type := 30, pos := "exact.go:5623", after := #[{ on := 0, ground := Ground.data }], guard := none }) rfl (fun K hK => ?_) ?_
      · skip
        go_simp
        go_at_call 20
        refine (TA.out _).mono ?_
        rintro e w' ⟨rfl, hb⟩
        refine hK.out _ _ (AfK.of H1.out (bT hHeld.bel hb)) (fun hHeld2 => ?_)
        clear hK K hHeld hb
        have hHeld := hHeld2
        clear hHeld2
        (try simp only [Act.put, List.setIfInBounds_toArray, List.set_cons_zero, List.set_cons_succ])
        refine wpAnyH_ready (rs := [3, 8]) (by kernel_rfl) (by simp) ?_
        refine AllReadyH.cons (o := { dst := some 21, op := Op.call { callee := Callee.value (Operand.func 20), args := #[Operand.tmp 20], argTypes := #[34] }, type := 30, pos := "exact.go:5623", after := #[{ on := 2, ground := Ground.data }, { on := 1, ground := Ground.chain }], guard := none }) rfl (fun K hK => ?_) ?_
        · skip
          go_simp
          go_at_call 20
          refine (TB.out _).mono ?_
          rintro e w' ⟨rfl, hb⟩
          refine hK.out _ _ (AfK.of H1.out (bT hHeld.bel hb)) (fun hHeld2 => ?_)
          clear hK K hHeld hb
          have hHeld := hHeld2
          clear hHeld2
          (try simp only [Act.put, List.setIfInBounds_toArray, List.set_cons_zero, List.set_cons_succ])
          refine wpAnyH_ready (rs := [4, 8]) (by kernel_rfl) (by simp) ?_
          refine AllReadyH.cons (o := { dst := some 22, op := Op.call { callee := Callee.value (Operand.func 21), args := #[Operand.tmp 19, Operand.tmp 21], argTypes := #[30, 30] }, type := 31, pos := "exact.go:5623", after := #[{ on := 1, ground := Ground.data }, { on := 3, ground := Ground.data }, { on := 3, ground := Ground.chain }], guard := none }) rfl (fun K hK => ?_) ?_
          · skip
            go_simp
            go_at_call 21
            refine (CI.out _).mono ?_
            rintro e w' ⟨rfl, hb⟩
            refine hK.out _ _ (AfK.of H1.out (bT hHeld.bel hb)) (fun hHeld2 => ?_)
            clear hK K hHeld hb
            have hHeld := hHeld2
            clear hHeld2
            (try simp only [Act.put, List.setIfInBounds_toArray, List.set_cons_zero, List.set_cons_succ])
            refine wpAnyH_take (i := 5) (oi := { dst := some 17, op := Op.move (Operand.tmp 22), type := 31, pos := "exact.go:5623", after := #[{ on := 4, ground := Ground.data }], guard := none }) (v := ?_) rfl (by kernel_rfl) (by kernel_rfl) (by kernel_rfl) (fun _ _ _ h => h) (Or.inl ⟨by rfl, ?_⟩) (by assumption) ?_
            rotate_left 1
            · ((intro w hSw; obtain ⟨⟨c0, c1, c2, c3, c4, _⟩, ⟨d0, d1, d2, d3, d4, _⟩, _⟩ := hSw; go_simp; try with_reducible rfl))
            (try simp only [Act.put, List.setIfInBounds_toArray, List.set_cons_zero, List.set_cons_succ])
            refine wpAnyH_take (i := 6) (oi := { dst := some 23, op := Op.extract (Operand.tmp 17) 0, type := 30, pos := "exact.go:5623", after := #[{ on := 5, ground := Ground.data }], guard := none }) (v := ?_) rfl (by kernel_rfl) (by kernel_rfl) (by kernel_rfl) (fun _ _ _ h => h) (Or.inl ⟨by rfl, ?_⟩) (by assumption) ?_
            rotate_left 1
            · ((intro w hSw; obtain ⟨⟨c0, c1, c2, c3, c4, _⟩, ⟨d0, d1, d2, d3, d4, _⟩, _⟩ := hSw; go_simp; try with_reducible rfl))
            (try simp only [Act.put, List.setIfInBounds_toArray, List.set_cons_zero, List.set_cons_succ])
            refine wpAnyH_take (i := 7) (oi := { dst := some 24, op := Op.extract (Operand.tmp 17) 1, type := 2, pos := "exact.go:5623", after := #[{ on := 5, ground := Ground.data }, { on := 9, ground := Ground.gcOnly Departure.lateStores }], guard := none }) (v := ?_) rfl (by kernel_rfl) (by kernel_rfl) (by kernel_rfl) (fun _ _ _ h => h) (Or.inl ⟨by rfl, ?_⟩) (by assumption) ?_
            rotate_left 1
            · ((intro w hSw; obtain ⟨⟨c0, c1, c2, c3, c4, _⟩, ⟨d0, d1, d2, d3, d4, _⟩, _⟩ := hSw; go_simp; try with_reducible rfl))
            (try simp only [Act.put, List.setIfInBounds_toArray, List.set_cons_zero, List.set_cons_succ])
            refine wpAnyH_ready (rs := [8]) (by kernel_rfl) (by simp) ?_
            refine AllReadyH.cons (o := { dst := some 7, op := Op.alloc 30, type := 0, pos := "exact.go:5623", after := #[], guard := none }) rfl (fun K hK => ?_) AllReadyH.nil
            go_simp
            refine hK.out _ _ (AfK.of H1.out (bA hHeld.bel _)) (fun hHeld2 => ?_)
            have hkk := hHeld.bel.size
            have ZB := Lib.hid (AfK.box hHeld 30)
            clear hK K hHeld
            have hHeld := hHeld2
            clear hHeld2
            (try simp only [Act.put, List.setIfInBounds_toArray, List.set_cons_zero, List.set_cons_succ])
            generalize hwA : World.alloc _ (Obj.cells _ 30) = wA at hHeld ZB ⊢
            clear hwA
            generalize hqk : Array.size (World.heap w') = kq at ZB hkk ⊢
            clear hqk
            refine wpAnyH_ready (rs := [9]) (by kernel_rfl) (by simp) ?_
            refine AllReadyH.cons (o := { dst := none, op := Op.store 30 (Operand.tmp 7) (Operand.tmp 23), type := 0, pos := "exact.go:5623", after := #[{ on := 8, ground := Ground.data }, { on := 6, ground := Ground.data }, { on := 4, ground := Ground.chain }, { on := 0, ground := Ground.phase }, { on := 1, ground := Ground.phase }, { on := 2, ground := Ground.phase }, { on := 3, ground := Ground.phase }, { on := 4, ground := Ground.phase }, { on := 5, ground := Ground.phase }, { on := 6, ground := Ground.phase }, { on := 7, ground := Ground.textOnly Departure.lateStores }, { on := 8, ground := Ground.phase }], guard := none }) rfl (fun K hK => ?_) AllReadyH.nil
            obtain ⟨o0, o1, o2, o3, o4, o5⟩ := ZB.out.c5
            obtain ⟨p0, p1, p2, p3, p4⟩ := ZB.out.f5
            go_simp
            refine hK.out _ _ (AfK.of H1.out (bset5R hHeld.bel hkk)) (fun hHeld2 => ?_)
            have ZF := BoxL.set5R (v0 := .int .i64 n) (v1 := .int .i64 x) (v2 := .int .i64 y) (v3 := .int .i64 xx) (v4 := .int .i64 xy) ZB.out
            clear hK K hHeld ZB
            have hHeld := hHeld2
            clear hHeld2 o0 o1 o2 o3 o4 o5 p0 p1 p2 p3 p4
            (try simp only [Act.put, List.setIfInBounds_toArray, List.set_cons_zero, List.set_cons_succ])
            refine wpAnyH_take (i := 10) (oi := { dst := some 8, op := Op.assign (Operand.tmp 24), type := 2, pos := "exact.go:5623", after := #[{ on := 7, ground := Ground.data }, { on := 9, ground := Ground.chain }, { on := 0, ground := Ground.phase }, { on := 1, ground := Ground.phase }, { on := 2, ground := Ground.phase }, { on := 3, ground := Ground.phase }, { on := 4, ground := Ground.phase }, { on := 5, ground := Ground.phase }, { on := 6, ground := Ground.phase }, { on := 7, ground := Ground.phase }, { on := 8, ground := Ground.phase }, { on := 9, ground := Ground.phase }], guard := none }) (v := ?_) rfl (by kernel_rfl) (by kernel_rfl) (by kernel_rfl) (fun _ _ _ h => h) (Or.inl ⟨by rfl, ?_⟩) (by assumption) ?_
            rotate_left 1
            · ((intro w hSw; obtain ⟨⟨c0, c1, c2, c3, c4, _⟩, ⟨d0, d1, d2, d3, d4, _⟩, _⟩ := hSw; go_simp; try with_reducible rfl))
            (try simp only [Act.put, List.setIfInBounds_toArray, List.set_cons_zero, List.set_cons_succ])
            refine wpAnyH_done (by kernel_rfl) ?_ _
            go_wp2_with fail
            go_meet
            exact ⟨_, rfl, rfl, ZF, hkk, hHeld.bel⟩
          refine AllReadyH.cons (o := { dst := some 7, op := Op.alloc 30, type := 0, pos := "exact.go:5623", after := #[], guard := none }) rfl (fun K hK => ?_) AllReadyH.nil
          go_simp
          refine hK.out _ _ (AfK.of H1.out (bA hHeld.bel _)) (fun hHeld2 => ?_)
          have hkk := hHeld.bel.size
          have ZB := Lib.hid (AfK.box hHeld 30)
          clear hK K hHeld
          have hHeld := hHeld2
          clear hHeld2
          (try simp only [Act.put, List.setIfInBounds_toArray, List.set_cons_zero, List.set_cons_succ])
          generalize hwA : World.alloc _ (Obj.cells _ 30) = wA at hHeld ZB ⊢
          clear hwA
          generalize hqk : Array.size (World.heap w') = kq at ZB hkk ⊢
          clear hqk
          refine wpAnyH_ready (rs := [4]) (by kernel_rfl) (by simp) ?_
          refine AllReadyH.cons (o := { dst := some 22, op := Op.call { callee := Callee.value (Operand.func 21), args := #[Operand.tmp 19, Operand.tmp 21], argTypes := #[30, 30] }, type := 31, pos := "exact.go:5623", after := #[{ on := 1, ground := Ground.data }, { on := 3, ground := Ground.data }, { on := 3, ground := Ground.chain }], guard := none }) rfl (fun K hK => ?_) AllReadyH.nil
          go_simp
          go_at_call 21
          refine (CI.out _).mono ?_
          rintro e w' ⟨rfl, hb⟩
          refine hK.out _ _ (AfK.of H1.out (bT hHeld.bel hb)) (fun hHeld2 => ?_)
          have ZB := Lib.hid (ZB.out.keep hb)
          clear hK K hHeld hb
          have hHeld := hHeld2
          clear hHeld2
          (try simp only [Act.put, List.setIfInBounds_toArray, List.set_cons_zero, List.set_cons_succ])
          refine wpAnyH_take (i := 5) (oi := { dst := some 17, op := Op.move (Operand.tmp 22), type := 31, pos := "exact.go:5623", after := #[{ on := 4, ground := Ground.data }], guard := none }) (v := ?_) rfl (by kernel_rfl) (by kernel_rfl) (by kernel_rfl) (fun _ _ _ h => h) (Or.inl ⟨by rfl, ?_⟩) (by assumption) ?_
          rotate_left 1
          · ((intro w hSw; obtain ⟨⟨c0, c1, c2, c3, c4, _⟩, ⟨d0, d1, d2, d3, d4, _⟩, _⟩ := hSw; go_simp; try with_reducible rfl))
          (try simp only [Act.put, List.setIfInBounds_toArray, List.set_cons_zero, List.set_cons_succ])
          refine wpAnyH_take (i := 6) (oi := { dst := some 23, op := Op.extract (Operand.tmp 17) 0, type := 30, pos := "exact.go:5623", after := #[{ on := 5, ground := Ground.data }], guard := none }) (v := ?_) rfl (by kernel_rfl) (by kernel_rfl) (by kernel_rfl) (fun _ _ _ h => h) (Or.inl ⟨by rfl, ?_⟩) (by assumption) ?_
          rotate_left 1
          · ((intro w hSw; obtain ⟨⟨c0, c1, c2, c3, c4, _⟩, ⟨d0, d1, d2, d3, d4, _⟩, _⟩ := hSw; go_simp; try with_reducible rfl))
          (try simp only [Act.put, List.setIfInBounds_toArray, List.set_cons_zero, List.set_cons_succ])
          refine wpAnyH_take (i := 7) (oi := { dst := some 24, op := Op.extract (Operand.tmp 17) 1, type := 2, pos := "exact.go:5623", after := #[{ on := 5, ground := Ground.data }, { on := 9, ground := Ground.gcOnly Departure.lateStores }], guard := none }) (v := ?_) rfl (by kernel_rfl) (by kernel_rfl) (by kernel_rfl) (fun _ _ _ h => h) (Or.inl ⟨by rfl, ?_⟩) (by assumption) ?_
          rotate_left 1
          · ((intro w hSw; obtain ⟨⟨c0, c1, c2, c3, c4, _⟩, ⟨d0, d1, d2, d3, d4, _⟩, _⟩ := hSw; go_simp; try with_reducible rfl))
          (try simp only [Act.put, List.setIfInBounds_toArray, List.set_cons_zero, List.set_cons_succ])
          refine wpAnyH_ready (rs := [9]) (by kernel_rfl) (by simp) ?_
          refine AllReadyH.cons (o := { dst := none, op := Op.store 30 (Operand.tmp 7) (Operand.tmp 23), type := 0, pos := "exact.go:5623", after := #[{ on := 8, ground := Ground.data }, { on := 6, ground := Ground.data }, { on := 4, ground := Ground.chain }, { on := 0, ground := Ground.phase }, { on := 1, ground := Ground.phase }, { on := 2, ground := Ground.phase }, { on := 3, ground := Ground.phase }, { on := 4, ground := Ground.phase }, { on := 5, ground := Ground.phase }, { on := 6, ground := Ground.phase }, { on := 7, ground := Ground.textOnly Departure.lateStores }, { on := 8, ground := Ground.phase }], guard := none }) rfl (fun K hK => ?_) AllReadyH.nil
          obtain ⟨o0, o1, o2, o3, o4, o5⟩ := ZB.out.c5
          obtain ⟨p0, p1, p2, p3, p4⟩ := ZB.out.f5
          go_simp
          refine hK.out _ _ (AfK.of H1.out (bset5R hHeld.bel hkk)) (fun hHeld2 => ?_)
          have ZF := BoxL.set5R (v0 := .int .i64 n) (v1 := .int .i64 x) (v2 := .int .i64 y) (v3 := .int .i64 xx) (v4 := .int .i64 xy) ZB.out
          clear hK K hHeld ZB
          have hHeld := hHeld2
          clear hHeld2 o0 o1 o2 o3 o4 o5 p0 p1 p2 p3 p4
          (try simp only [Act.put, List.setIfInBounds_toArray, List.set_cons_zero, List.set_cons_succ])
          refine wpAnyH_take (i := 10) (oi := { dst := some 8, op := Op.assign (Operand.tmp 24), type := 2, pos := "exact.go:5623", after := #[{ on := 7, ground := Ground.data }, { on := 9, ground := Ground.chain }, { on := 0, ground := Ground.phase }, { on := 1, ground := Ground.phase }, { on := 2, ground := Ground.phase }, { on := 3, ground := Ground.phase }, { on := 4, ground := Ground.phase }, { on := 5, ground := Ground.phase }, { on := 6, ground := Ground.phase }, { on := 7, ground := Ground.phase }, { on := 8, ground := Ground.phase }, { on := 9, ground := Ground.phase }], guard := none }) (v := ?_) rfl (by kernel_rfl) (by kernel_rfl) (by kernel_rfl) (fun _ _ _ h => h) (Or.inl ⟨by rfl, ?_⟩) (by assumption) ?_
          rotate_left 1
          · ((intro w hSw; obtain ⟨⟨c0, c1, c2, c3, c4, _⟩, ⟨d0, d1, d2, d3, d4, _⟩, _⟩ := hSw; go_simp; try with_reducible rfl))
          (try simp only [Act.put, List.setIfInBounds_toArray, List.set_cons_zero, List.set_cons_succ])
          refine wpAnyH_done (by kernel_rfl) ?_ _
          go_wp2_with fail
          go_meet
          exact ⟨_, rfl, rfl, ZF, hkk, hHeld.bel⟩
        refine AllReadyH.cons (o := { dst := some 7, op := Op.alloc 30, type := 0, pos := "exact.go:5623", after := #[], guard := none }) rfl (fun K hK => ?_) AllReadyH.nil
        go_simp
        refine hK.out _ _ (AfK.of H1.out (bA hHeld.bel _)) (fun hHeld2 => ?_)
        have hkk := hHeld.bel.size
        have ZB := Lib.hid (AfK.box hHeld 30)
        clear hK K hHeld
        have hHeld := hHeld2
        clear hHeld2
        (try simp only [Act.put, List.setIfInBounds_toArray, List.set_cons_zero, List.set_cons_succ])
        generalize hwA : World.alloc _ (Obj.cells _ 30) = wA at hHeld ZB ⊢
        clear hwA
        generalize hqk : Array.size (World.heap w') = kq at ZB hkk ⊢
        clear hqk
        refine wpAnyH_ready (rs := [3]) (by kernel_rfl) (by simp) ?_
        refine AllReadyH.cons (o := { dst := some 21, op := Op.call { callee := Callee.value (Operand.func 20), args := #[Operand.tmp 20], argTypes := #[34] }, type := 30, pos := "exact.go:5623", after := #[{ on := 2, ground := Ground.data }, { on := 1, ground := Ground.chain }], guard := none }) rfl (fun K hK => ?_) AllReadyH.nil
        go_simp
        go_at_call 20
        refine (TB.out _).mono ?_
        rintro e w' ⟨rfl, hb⟩
        refine hK.out _ _ (AfK.of H1.out (bT hHeld.bel hb)) (fun hHeld2 => ?_)
        have ZB := Lib.hid (ZB.out.keep hb)
        clear hK K hHeld hb
        have hHeld := hHeld2
        clear hHeld2
        (try simp only [Act.put, List.setIfInBounds_toArray, List.set_cons_zero, List.set_cons_succ])
        refine wpAnyH_ready (rs := [4]) (by kernel_rfl) (by simp) ?_
        refine AllReadyH.cons (o := { dst := some 22, op := Op.call { callee := Callee.value (Operand.func 21), args := #[Operand.tmp 19, Operand.tmp 21], argTypes := #[30, 30] }, type := 31, pos := "exact.go:5623", after := #[{ on := 1, ground := Ground.data }, { on := 3, ground := Ground.data }, { on := 3, ground := Ground.chain }], guard := none }) rfl (fun K hK => ?_) AllReadyH.nil
        go_simp
        go_at_call 21
        refine (CI.out _).mono ?_
        rintro e w' ⟨rfl, hb⟩
        refine hK.out _ _ (AfK.of H1.out (bT hHeld.bel hb)) (fun hHeld2 => ?_)
        have ZB := Lib.hid (ZB.out.keep hb)
        clear hK K hHeld hb
        have hHeld := hHeld2
        clear hHeld2
        (try simp only [Act.put, List.setIfInBounds_toArray, List.set_cons_zero, List.set_cons_succ])
        refine wpAnyH_take (i := 5) (oi := { dst := some 17, op := Op.move (Operand.tmp 22), type := 31, pos := "exact.go:5623", after := #[{ on := 4, ground := Ground.data }], guard := none }) (v := ?_) rfl (by kernel_rfl) (by kernel_rfl) (by kernel_rfl) (fun _ _ _ h => h) (Or.inl ⟨by rfl, ?_⟩) (by assumption) ?_
        rotate_left 1
        · ((intro w hSw; obtain ⟨⟨c0, c1, c2, c3, c4, _⟩, ⟨d0, d1, d2, d3, d4, _⟩, _⟩ := hSw; go_simp; try with_reducible rfl))
        (try simp only [Act.put, List.setIfInBounds_toArray, List.set_cons_zero, List.set_cons_succ])
        refine wpAnyH_take (i := 6) (oi := { dst := some 23, op := Op.extract (Operand.tmp 17) 0, type := 30, pos := "exact.go:5623", after := #[{ on := 5, ground := Ground.data }], guard := none }) (v := ?_) rfl (by kernel_rfl) (by kernel_rfl) (by kernel_rfl) (fun _ _ _ h => h) (Or.inl ⟨by rfl, ?_⟩) (by assumption) ?_
        rotate_left 1
        · ((intro w hSw; obtain ⟨⟨c0, c1, c2, c3, c4, _⟩, ⟨d0, d1, d2, d3, d4, _⟩, _⟩ := hSw; go_simp; try with_reducible rfl))
        (try simp only [Act.put, List.setIfInBounds_toArray, List.set_cons_zero, List.set_cons_succ])
        refine wpAnyH_take (i := 7) (oi := { dst := some 24, op := Op.extract (Operand.tmp 17) 1, type := 2, pos := "exact.go:5623", after := #[{ on := 5, ground := Ground.data }, { on := 9, ground := Ground.gcOnly Departure.lateStores }], guard := none }) (v := ?_) rfl (by kernel_rfl) (by kernel_rfl) (by kernel_rfl) (fun _ _ _ h => h) (Or.inl ⟨by rfl, ?_⟩) (by assumption) ?_
        rotate_left 1
        · ((intro w hSw; obtain ⟨⟨c0, c1, c2, c3, c4, _⟩, ⟨d0, d1, d2, d3, d4, _⟩, _⟩ := hSw; go_simp; try with_reducible rfl))
        (try simp only [Act.put, List.setIfInBounds_toArray, List.set_cons_zero, List.set_cons_succ])
        refine wpAnyH_ready (rs := [9]) (by kernel_rfl) (by simp) ?_
        refine AllReadyH.cons (o := { dst := none, op := Op.store 30 (Operand.tmp 7) (Operand.tmp 23), type := 0, pos := "exact.go:5623", after := #[{ on := 8, ground := Ground.data }, { on := 6, ground := Ground.data }, { on := 4, ground := Ground.chain }, { on := 0, ground := Ground.phase }, { on := 1, ground := Ground.phase }, { on := 2, ground := Ground.phase }, { on := 3, ground := Ground.phase }, { on := 4, ground := Ground.phase }, { on := 5, ground := Ground.phase }, { on := 6, ground := Ground.phase }, { on := 7, ground := Ground.textOnly Departure.lateStores }, { on := 8, ground := Ground.phase }], guard := none }) rfl (fun K hK => ?_) AllReadyH.nil
        obtain ⟨o0, o1, o2, o3, o4, o5⟩ := ZB.out.c5
        obtain ⟨p0, p1, p2, p3, p4⟩ := ZB.out.f5
        go_simp
        refine hK.out _ _ (AfK.of H1.out (bset5R hHeld.bel hkk)) (fun hHeld2 => ?_)
        have ZF := BoxL.set5R (v0 := .int .i64 n) (v1 := .int .i64 x) (v2 := .int .i64 y) (v3 := .int .i64 xx) (v4 := .int .i64 xy) ZB.out
        clear hK K hHeld ZB
        have hHeld := hHeld2
        clear hHeld2 o0 o1 o2 o3 o4 o5 p0 p1 p2 p3 p4
        (try simp only [Act.put, List.setIfInBounds_toArray, List.set_cons_zero, List.set_cons_succ])
        refine wpAnyH_take (i := 10) (oi := { dst := some 8, op := Op.assign (Operand.tmp 24), type := 2, pos := "exact.go:5623", after := #[{ on := 7, ground := Ground.data }, { on := 9, ground := Ground.chain }, { on := 0, ground := Ground.phase }, { on := 1, ground := Ground.phase }, { on := 2, ground := Ground.phase }, { on := 3, ground := Ground.phase }, { on := 4, ground := Ground.phase }, { on := 5, ground := Ground.phase }, { on := 6, ground := Ground.phase }, { on := 7, ground := Ground.phase }, { on := 8, ground := Ground.phase }, { on := 9, ground := Ground.phase }], guard := none }) (v := ?_) rfl (by kernel_rfl) (by kernel_rfl) (by kernel_rfl) (fun _ _ _ h => h) (Or.inl ⟨by rfl, ?_⟩) (by assumption) ?_
        rotate_left 1
        · ((intro w hSw; obtain ⟨⟨c0, c1, c2, c3, c4, _⟩, ⟨d0, d1, d2, d3, d4, _⟩, _⟩ := hSw; go_simp; try with_reducible rfl))
        (try simp only [Act.put, List.setIfInBounds_toArray, List.set_cons_zero, List.set_cons_succ])
        refine wpAnyH_done (by kernel_rfl) ?_ _
        go_wp2_with fail
        go_meet
        exact ⟨_, rfl, rfl, ZF, hkk, hHeld.bel⟩
      refine AllReadyH.cons (o := { dst := some 7, op := Op.alloc 30, type := 0, pos := "exact.go:5623", after := #[], guard := none }) rfl (fun K hK => ?_) AllReadyH.nil
      go_simp
      refine hK.out _ _ (AfK.of H1.out (bA hHeld.bel _)) (fun hHeld2 => ?_)
      have hkk := hHeld.bel.size
      have ZB := Lib.hid (AfK.box hHeld 30)
      clear hK K hHeld
      have hHeld := hHeld2
      clear hHeld2
      (try simp only [Act.put, List.setIfInBounds_toArray, List.set_cons_zero, List.set_cons_succ])
      generalize hwA : World.alloc _ (Obj.cells _ 30) = wA at hHeld ZB ⊢
      clear hwA
      generalize hqk : Array.size (World.heap Wd) = kq at ZB hkk ⊢
      clear hqk
      refine wpAnyH_ready (rs := [1]) (by kernel_rfl) (by simp) ?_
      refine AllReadyH.cons (o := { dst := some 19, op := Op.call { callee := Callee.value (Operand.func 20), args := #[Operand.tmp 18], argTypes := #[34] }, type := 30, pos := "exact.go:5623", after := #[{ on := 0, ground := Ground.data }], guard := none }) rfl (fun K hK => ?_) AllReadyH.nil
      go_simp
      go_at_call 20
      refine (TA.out _).mono ?_
      rintro e w' ⟨rfl, hb⟩
      refine hK.out _ _ (AfK.of H1.out (bT hHeld.bel hb)) (fun hHeld2 => ?_)
      have ZB := Lib.hid (ZB.out.keep hb)
      clear hK K hHeld hb
      have hHeld := hHeld2
      clear hHeld2
      (try simp only [Act.put, List.setIfInBounds_toArray, List.set_cons_zero, List.set_cons_succ])
      refine wpAnyH_ready (rs := [3]) (by kernel_rfl) (by simp) ?_
      refine AllReadyH.cons (o := { dst := some 21, op := Op.call { callee := Callee.value (Operand.func 20), args := #[Operand.tmp 20], argTypes := #[34] }, type := 30, pos := "exact.go:5623", after := #[{ on := 2, ground := Ground.data }, { on := 1, ground := Ground.chain }], guard := none }) rfl (fun K hK => ?_) AllReadyH.nil
      go_simp
      go_at_call 20
      refine (TB.out _).mono ?_
      rintro e w' ⟨rfl, hb⟩
      refine hK.out _ _ (AfK.of H1.out (bT hHeld.bel hb)) (fun hHeld2 => ?_)
      have ZB := Lib.hid (ZB.out.keep hb)
      clear hK K hHeld hb
      have hHeld := hHeld2
      clear hHeld2
      (try simp only [Act.put, List.setIfInBounds_toArray, List.set_cons_zero, List.set_cons_succ])
      refine wpAnyH_ready (rs := [4]) (by kernel_rfl) (by simp) ?_
      refine AllReadyH.cons (o := { dst := some 22, op := Op.call { callee := Callee.value (Operand.func 21), args := #[Operand.tmp 19, Operand.tmp 21], argTypes := #[30, 30] }, type := 31, pos := "exact.go:5623", after := #[{ on := 1, ground := Ground.data }, { on := 3, ground := Ground.data }, { on := 3, ground := Ground.chain }], guard := none }) rfl (fun K hK => ?_) AllReadyH.nil
      go_simp
      go_at_call 21
      refine (CI.out _).mono ?_
      rintro e w' ⟨rfl, hb⟩
      refine hK.out _ _ (AfK.of H1.out (bT hHeld.bel hb)) (fun hHeld2 => ?_)
      have ZB := Lib.hid (ZB.out.keep hb)
      clear hK K hHeld hb
      have hHeld := hHeld2
      clear hHeld2
      (try simp only [Act.put, List.setIfInBounds_toArray, List.set_cons_zero, List.set_cons_succ])
      refine wpAnyH_take (i := 5) (oi := { dst := some 17, op := Op.move (Operand.tmp 22), type := 31, pos := "exact.go:5623", after := #[{ on := 4, ground := Ground.data }], guard := none }) (v := ?_) rfl (by kernel_rfl) (by kernel_rfl) (by kernel_rfl) (fun _ _ _ h => h) (Or.inl ⟨by rfl, ?_⟩) (by assumption) ?_
      rotate_left 1
      · ((intro w hSw; obtain ⟨⟨c0, c1, c2, c3, c4, _⟩, ⟨d0, d1, d2, d3, d4, _⟩, _⟩ := hSw; go_simp; try with_reducible rfl))
      (try simp only [Act.put, List.setIfInBounds_toArray, List.set_cons_zero, List.set_cons_succ])
      refine wpAnyH_take (i := 6) (oi := { dst := some 23, op := Op.extract (Operand.tmp 17) 0, type := 30, pos := "exact.go:5623", after := #[{ on := 5, ground := Ground.data }], guard := none }) (v := ?_) rfl (by kernel_rfl) (by kernel_rfl) (by kernel_rfl) (fun _ _ _ h => h) (Or.inl ⟨by rfl, ?_⟩) (by assumption) ?_
      rotate_left 1
      · ((intro w hSw; obtain ⟨⟨c0, c1, c2, c3, c4, _⟩, ⟨d0, d1, d2, d3, d4, _⟩, _⟩ := hSw; go_simp; try with_reducible rfl))
      (try simp only [Act.put, List.setIfInBounds_toArray, List.set_cons_zero, List.set_cons_succ])
      refine wpAnyH_take (i := 7) (oi := { dst := some 24, op := Op.extract (Operand.tmp 17) 1, type := 2, pos := "exact.go:5623", after := #[{ on := 5, ground := Ground.data }, { on := 9, ground := Ground.gcOnly Departure.lateStores }], guard := none }) (v := ?_) rfl (by kernel_rfl) (by kernel_rfl) (by kernel_rfl) (fun _ _ _ h => h) (Or.inl ⟨by rfl, ?_⟩) (by assumption) ?_
      rotate_left 1
      · ((intro w hSw; obtain ⟨⟨c0, c1, c2, c3, c4, _⟩, ⟨d0, d1, d2, d3, d4, _⟩, _⟩ := hSw; go_simp; try with_reducible rfl))
      (try simp only [Act.put, List.setIfInBounds_toArray, List.set_cons_zero, List.set_cons_succ])
      refine wpAnyH_ready (rs := [9]) (by kernel_rfl) (by simp) ?_
      refine AllReadyH.cons (o := { dst := none, op := Op.store 30 (Operand.tmp 7) (Operand.tmp 23), type := 0, pos := "exact.go:5623", after := #[{ on := 8, ground := Ground.data }, { on := 6, ground := Ground.data }, { on := 4, ground := Ground.chain }, { on := 0, ground := Ground.phase }, { on := 1, ground := Ground.phase }, { on := 2, ground := Ground.phase }, { on := 3, ground := Ground.phase }, { on := 4, ground := Ground.phase }, { on := 5, ground := Ground.phase }, { on := 6, ground := Ground.phase }, { on := 7, ground := Ground.textOnly Departure.lateStores }, { on := 8, ground := Ground.phase }], guard := none }) rfl (fun K hK => ?_) AllReadyH.nil
      obtain ⟨o0, o1, o2, o3, o4, o5⟩ := ZB.out.c5
      obtain ⟨p0, p1, p2, p3, p4⟩ := ZB.out.f5
      go_simp
      refine hK.out _ _ (AfK.of H1.out (bset5R hHeld.bel hkk)) (fun hHeld2 => ?_)
      have ZF := BoxL.set5R (v0 := .int .i64 n) (v1 := .int .i64 x) (v2 := .int .i64 y) (v3 := .int .i64 xx) (v4 := .int .i64 xy) ZB.out
      clear hK K hHeld ZB
      have hHeld := hHeld2
      clear hHeld2 o0 o1 o2 o3 o4 o5 p0 p1 p2 p3 p4
      (try simp only [Act.put, List.setIfInBounds_toArray, List.set_cons_zero, List.set_cons_succ])
      refine wpAnyH_take (i := 10) (oi := { dst := some 8, op := Op.assign (Operand.tmp 24), type := 2, pos := "exact.go:5623", after := #[{ on := 7, ground := Ground.data }, { on := 9, ground := Ground.chain }, { on := 0, ground := Ground.phase }, { on := 1, ground := Ground.phase }, { on := 2, ground := Ground.phase }, { on := 3, ground := Ground.phase }, { on := 4, ground := Ground.phase }, { on := 5, ground := Ground.phase }, { on := 6, ground := Ground.phase }, { on := 7, ground := Ground.phase }, { on := 8, ground := Ground.phase }, { on := 9, ground := Ground.phase }], guard := none }) (v := ?_) rfl (by kernel_rfl) (by kernel_rfl) (by kernel_rfl) (fun _ _ _ h => h) (Or.inl ⟨by rfl, ?_⟩) (by assumption) ?_
      rotate_left 1
      · ((intro w hSw; obtain ⟨⟨c0, c1, c2, c3, c4, _⟩, ⟨d0, d1, d2, d3, d4, _⟩, _⟩ := hSw; go_simp; try with_reducible rfl))
      (try simp only [Act.put, List.setIfInBounds_toArray, List.set_cons_zero, List.set_cons_succ])
      refine wpAnyH_done (by kernel_rfl) ?_ _
      go_wp2_with fail
      go_meet
      exact ⟨_, rfl, rfl, ZF, hkk, hHeld.bel⟩
    case rest =>
      obtain ⟨k7, rfl, rfl, hY, hkk, hB⟩ := hcut
      have X2 := Lib.hid (X1.out.keep hB)
      have L2 := Lib.hid (bT H1.out.2.2 hB)
      obtain ⟨x0, x1, x2, x3, x4, x5⟩ := X2.out.c5
      obtain ⟨y0, y1, y2, y3, y4, y5⟩ := hY.c5
      clear hB CI X1 H1 hkk
      go_wp2_with fail
      refine (eqFit_same _ _ _ _ _ _).mono ?_
      rintro en w4 ⟨rfl, hb⟩
      go_wp2_with fail
      go_ret
      exact ⟨rfl, bT L2.out hb⟩
end Go.Proofs.Ytgdnojdleoongaa

/-
  The contract of impl.ValidWorks.
-/
import Derived.Test.YtnijbbligkmefaaWkJ
namespace Go.Proofs.Ytnijbbligkmefaa
open Go.RowKit

/-- What stands in a round over the arbors. -/
def ArH (W0 : World) (bx nb : Nat) (u : Value) (s : ByteArray) (t : Value) (rs : List Arb) (ts : List Int) (w' : World) : Prop :=
  w'.cell? ⟨bx, 0, none⟩ = some u ∧ w'.cell? ⟨nb, 0, none⟩ = some (.string s) ∧ w'.cell? ⟨nb, 1, none⟩ = some t ∧ bx < w'.heap.size ∧ nb < w'.heap.size ∧ SlA w' u rs ∧ Sl64 w' t ts ∧ Below W0.heap.size W0 w'
theorem ArH.keep {W0 : World} {bx nb : Nat} {u : Value} {s : ByteArray} {t : Value} {rs : List Arb} {ts : List Int} {w' w2 : World} (hb : Below w'.heap.size w' w2) (h : ArH W0 bx nb u s t rs ts w') : ArH W0 bx nb u s t rs ts w2 := by
  obtain ⟨a, c0, c1, e1, e2, e3, e4, e5⟩ := h
  exact ⟨(hb.cell (p := ⟨bx, 0, none⟩) e1).trans a, (hb.cell (p := ⟨nb, 0, none⟩) e2).trans c0, (hb.cell (p := ⟨nb, 1, none⟩) e2).trans c1, Nat.lt_of_lt_of_le e1 hb.size, Nat.lt_of_lt_of_le e2 hb.size, e3.keep hb, e4.keep hb, bT e5 hb⟩
theorem ArH.drew {W0 : World} {bx nb : Nat} {u : Value} {s : ByteArray} {t : Value} {rs : List Arb} {ts : List Int} {w' : World} (h : ArH W0 bx nb u s t rs ts w') : ArH W0 bx nb u s t rs ts w'.drew :=
  h.keep (bR _).drew
/-- What stands in a round over the meshes. -/
def MeH (W0 : World) (bx nb : Nat) (u v : Value) (y0 y1 y2 y3 : Int) (rs : List Arb) (ms : List Msh) (w' : World) : Prop :=
  w'.cell? ⟨bx, 0, none⟩ = some u ∧ w'.cell? ⟨bx, 1, none⟩ = some v ∧ w'.cell? ⟨nb, 0, none⟩ = some (.int .i64 y0) ∧ w'.cell? ⟨nb, 1, none⟩ = some (.int .i64 y1) ∧ w'.cell? ⟨nb, 2, none⟩ = some (.int .i64 y2) ∧ w'.cell? ⟨nb, 3, none⟩ = some (.int .i64 y3) ∧ bx < w'.heap.size ∧ nb < w'.heap.size ∧ SlA w' u rs ∧ SlM w' v ms ∧ Below W0.heap.size W0 w'
theorem MeH.keep {W0 : World} {bx nb : Nat} {u v : Value} {y0 y1 y2 y3 : Int} {rs : List Arb} {ms : List Msh} {w' w2 : World} (hb : Below w'.heap.size w' w2) (h : MeH W0 bx nb u v y0 y1 y2 y3 rs ms w') : MeH W0 bx nb u v y0 y1 y2 y3 rs ms w2 := by
  obtain ⟨a0, a1, c0, c1, c2, c3, e1, e2, e3, e4, e5⟩ := h
  exact ⟨(hb.cell (p := ⟨bx, 0, none⟩) e1).trans a0, (hb.cell (p := ⟨bx, 1, none⟩) e1).trans a1, (hb.cell (p := ⟨nb, 0, none⟩) e2).trans c0, (hb.cell (p := ⟨nb, 1, none⟩) e2).trans c1, (hb.cell (p := ⟨nb, 2, none⟩) e2).trans c2, (hb.cell (p := ⟨nb, 3, none⟩) e2).trans c3, Nat.lt_of_lt_of_le e1 hb.size, Nat.lt_of_lt_of_le e2 hb.size, e3.keep hb, e4.keep hb, bT e5 hb⟩
theorem MeH.drew {W0 : World} {bx nb : Nat} {u v : Value} {y0 y1 y2 y3 : Int} {rs : List Arb} {ms : List Msh} {w' : World} (h : MeH W0 bx nb u v y0 y1 y2 y3 rs ms w') : MeH W0 bx nb u v y0 y1 y2 y3 rs ms w'.drew :=
  h.keep (bR _).drew
set_option maxRecDepth 100000 in
set_option maxHeartbeats 8000000 in
theorem ValidWorksI_any (rs : List Arb) (ms : List Msh) (u v : Value) (w : World) (ha : SlA w u rs) (hm : SlM w v ms) :
    Calls Try.prog 14 #[.agg #[u, v]] w (BoolBel (okW rs ms) w) := by
  obtain ⟨h0, ao, cap, rfl, hcp, hc⟩ := ha
  obtain ⟨h0', bo, bcap, rfl, hcp', hc'⟩ := hm
  have X := Lib.hid (BoxU.new w (.slice ao rs.length cap) (.slice bo ms.length bcap) 31)
  have L0 := Lib.hid (bA (bR w) (.cells #[.slice ao rs.length cap, .slice bo ms.length bcap] 31))
  have HA := Lib.hid (SlA.keep (show SlA w (.slice ao rs.length cap) rs from ⟨h0, ao, cap, rfl, hcp, hc⟩) L0.out)
  have HM := Lib.hid (SlM.keep (show SlM w (.slice bo ms.length bcap) ms from ⟨h0', bo, bcap, rfl, hcp', hc'⟩) L0.out)
  have HCP := Lib.hid hcp
  have HCP' := Lib.hid hcp'
  clear hc hc' hcp hcp'
  by_cases h16 : rs.length ≤ 16
  · have h16' : ¬ (16 : Int) < (rs.length : Int) := by omega
    have h16'' : decide ((16 : Int) < (rs.length : Int)) = false := decide_eq_false h16'
    by_cases h24 : ms.length ≤ 24
    · have h24' : ¬ (24 : Int) < (ms.length : Int) := by omega
      have h24'' : decide ((24 : Int) < (ms.length : Int)) = false := decide_eq_false h24'
      obtain ⟨x0, x1, _, _, x4⟩ := X.out
      go_enter Try.func14, Try.ntmps14
      go_wp2_with fail
      generalize w.alloc (.cells #[.slice ao rs.length cap, .slice bo ms.length bcap] 31) = W0 at *
      generalize w.heap.size = bx at X x0 x1 x4
      clear x0 x1 x4
      go_loopw [20] (fun i wr => ∃ (k : Nat), k ≤ rs.length ∧ i = .int .i64 k ∧ arbK rs k ∧ Below W0.heap.size W0 wr) (fun i _ => rs.length - (intOf i).toNat)
      case atStart => exact ⟨0, by omega, rfl, arbK_zero _, bR _⟩
      case round =>
        obtain ⟨k, hk, rfl, hok, hbw⟩ := hrel
        have HK := Lib.hid hok
        have HBW := Lib.hid hbw
        clear hok hbw
        by_cases hlt : k < rs.length
        · obtain ⟨_, ao', cap', e', _, hc⟩ := HA.out.keep HBW.out
          injection e' with e1 e2 e3
          subst e1 e3
          obtain ⟨g, rfl, hg, hc⟩ := hc (by omega)
          obtain ⟨c0, hs, hts, t, c1, ht⟩ := hc k hlt
          have HP := Lib.hid (show arAt rs k = ((arAt rs k).1, (arAt rs k).2) from rfl)
          obtain ⟨tao, tc, rfl, hti⟩ := id ht
          have HT := Lib.hid ht
          clear hc ht hti
          generalize (arAt rs k).1 = s at *
          generalize (arAt rs k).2 = ts at *
          go_wp2_with fail
          have HS : ArH W0 bx wr.heap.size (.slice (some ⟨g, 0, none⟩) rs.length cap) s (.slice tao ts.length tc) rs ts (wr.alloc (.cells #[.string s, .slice tao ts.length tc] 42)) := by
            have a := X.out.keep HBW.out
            have hb : Below wr.heap.size wr (wr.alloc (.cells #[.string s, .slice tao ts.length tc] 42)) := bA (bR _) _
            exact ⟨(hb.cell (p := ⟨bx, 0, none⟩) a.lt).trans a.c0, by simp [go_sem], by simp [go_sem], Nat.lt_of_lt_of_le a.lt hb.size, by simp, (HA.out.keep HBW.out).keep hb, HT.out.keep hb, bT HBW.out hb⟩
          have HW := Lib.hid (fun h => okW_a (rs := rs) (ms := ms) hlt h)
          have HS1 := Lib.hid (arbK_succ (rs := rs) (k := k) HK.out)
          have HO := Lib.hid (own_take hlt)
          rw [HP.out] at HW HS1 HO
          generalize wr.alloc (.cells #[.string s, .slice tao ts.length tc] 42) = W1 at *
          generalize wr.heap.size = nb at *
          cases hp : arbB (s, ts)
          · have HW' := Lib.hid (HW.out (.inl hp))
            refine wp_region_held_drew (S := ArH W0 bx nb (.slice (some ⟨g, 0, none⟩) rs.length cap) s (.slice tao ts.length tc) rs ts) (by kernel_rfl) HS.drew (fun hHeld => ?_)
            refine wpAnyH_take (i := 0) (oi := { dst := some 25, op := Op.load 42 (Operand.tmp 4), type := 42, pos := "l08_arbors.go:56", after := #[], guard := none }) (v := ?_) rfl (by kernel_rfl) (by kernel_rfl) (by kernel_rfl) (fun _ _ _ h => h) (Or.inl ⟨by rfl, ?_⟩) (by assumption) ?_
            rotate_left 1
            · ((intro w hSw; obtain ⟨s1, s2, s3, s4, s5, s6, s7, s8⟩ := hSw; go_simp; try with_reducible rfl))
            (try simp only [Act.put, List.setIfInBounds_toArray, List.set_cons_zero, List.set_cons_succ])
            refine wpAnyH_ready (rs := [1]) (by kernel_rfl) (by simp) ?_
            refine AllReadyH.cons (o := { dst := some 26, op := Op.call { callee := Callee.value (Operand.func 49), args := #[Operand.tmp 25], argTypes := #[42] }, type := 4, pos := "l08_arbors.go:56", after := #[{ on := 0, ground := Ground.data }], guard := none }) rfl (fun K hK => ?_) AllReadyH.nil
            go_simp
            go_at_call 49
            refine (ArborValid_any s ts _ _ hHeld.2.2.2.2.2.2.1 hs hts).mono ?_
            rw [hp]
            rintro e w' ⟨rfl, hb⟩
            refine hK.out _ _ (ArH.keep hb hHeld) (fun hHeld2 => ?_)
            clear hK K hHeld
            (try simp only [Act.put, List.setIfInBounds_toArray, List.set_cons_zero, List.set_cons_succ])
            refine wpAnyH_take (i := 2) (oi := { dst := some 27, op := Op.unOp UnOp.not 4 (Operand.tmp 26), type := 4, pos := "l08_arbors.go:56", after := #[{ on := 1, ground := Ground.data }], guard := none }) (v := ?_) rfl (by kernel_rfl) (by kernel_rfl) (by kernel_rfl) (fun _ _ _ h => h) (Or.inl ⟨by rfl, ?_⟩) (by assumption) ?_
            rotate_left 1
            · ((intro w hSw; obtain ⟨s1, s2, s3, s4, s5, s6, s7, s8⟩ := hSw; go_simp; try with_reducible rfl))
            (try simp only [Act.put, List.setIfInBounds_toArray, List.set_cons_zero, List.set_cons_succ])
            refine wpAnyH_take (i := 3) (oi := { dst := some 28, op := Op.move (Operand.tmp 27), type := 4, pos := "l08_arbors.go:56", after := #[{ on := 2, ground := Ground.data }, { on := 1, ground := Ground.chain }], guard := none }) (v := ?_) rfl (by kernel_rfl) (by kernel_rfl) (by kernel_rfl) (fun _ _ _ h => h) (Or.inl ⟨by rfl, ?_⟩) (by assumption) ?_
            rotate_left 1
            · ((intro w hSw; obtain ⟨s1, s2, s3, s4, s5, s6, s7, s8⟩ := hSw; go_simp; try with_reducible rfl))
            (try simp only [Act.put, List.setIfInBounds_toArray, List.set_cons_zero, List.set_cons_succ])
            refine wpAnyH_take (i := 4) (oi := { dst := some 29, op := Op.fieldAddr 31 (Operand.tmp 1) 0, type := 0, pos := "l08_arbors.go:56", after := #[{ on := 3, ground := Ground.guard }], guard := some (3, false) }) (v := undef) rfl (by kernel_rfl) (by kernel_rfl) (by kernel_rfl) (fun _ _ _ h => h) (Or.inr ⟨by rfl, rfl⟩) (by assumption) ?_
            (try simp only [Act.put, List.setIfInBounds_toArray, List.set_cons_zero, List.set_cons_succ])
            refine wpAnyH_take (i := 5) (oi := { dst := some 30, op := Op.load 28 (Operand.tmp 29), type := 28, pos := "l08_arbors.go:56", after := #[{ on := 4, ground := Ground.data }, { on := 3, ground := Ground.guard }], guard := some (3, false) }) (v := undef) rfl (by kernel_rfl) (by kernel_rfl) (by kernel_rfl) (fun _ _ _ h => h) (Or.inr ⟨by rfl, rfl⟩) (by assumption) ?_
            (try simp only [Act.put, List.setIfInBounds_toArray, List.set_cons_zero, List.set_cons_succ])
            refine wpAnyH_take (i := 6) (oi := { dst := some 31, op := Op.move (Operand.tmp 3), type := 3, pos := "l08_arbors.go:56", after := #[{ on := 3, ground := Ground.guard }], guard := some (3, false) }) (v := undef) rfl (by kernel_rfl) (by kernel_rfl) (by kernel_rfl) (fun _ _ _ h => h) (Or.inr ⟨by rfl, rfl⟩) (by assumption) ?_
            (try simp only [Act.put, List.setIfInBounds_toArray, List.set_cons_zero, List.set_cons_succ])
            refine wpAnyH_take (i := 7) (oi := { dst := some 32, op := Op.slice 28 (Operand.tmp 30) none (some (Operand.tmp 31)) none, type := 28, pos := "l08_arbors.go:56", after := #[{ on := 5, ground := Ground.data }, { on := 6, ground := Ground.data }, { on := 3, ground := Ground.guard }], guard := some (3, false) }) (v := undef) rfl (by kernel_rfl) (by kernel_rfl) (by kernel_rfl) (fun _ _ _ h => h) (Or.inr ⟨by rfl, rfl⟩) (by assumption) ?_
            (try simp only [Act.put, List.setIfInBounds_toArray, List.set_cons_zero, List.set_cons_succ])
            refine wpAnyH_take (i := 8) (oi := { dst := some 33, op := Op.fieldAddr 42 (Operand.tmp 4) 0, type := 0, pos := "l08_arbors.go:56", after := #[{ on := 3, ground := Ground.guard }], guard := some (3, false) }) (v := undef) rfl (by kernel_rfl) (by kernel_rfl) (by kernel_rfl) (fun _ _ _ h => h) (Or.inr ⟨by rfl, rfl⟩) (by assumption) ?_
            (try simp only [Act.put, List.setIfInBounds_toArray, List.set_cons_zero, List.set_cons_succ])
            refine wpAnyH_take (i := 9) (oi := { dst := some 34, op := Op.load 9 (Operand.tmp 33), type := 9, pos := "l08_arbors.go:56", after := #[{ on := 8, ground := Ground.data }, { on := 3, ground := Ground.guard }], guard := some (3, false) }) (v := undef) rfl (by kernel_rfl) (by kernel_rfl) (by kernel_rfl) (fun _ _ _ h => h) (Or.inr ⟨by rfl, rfl⟩) (by assumption) ?_
            (try simp only [Act.put, List.setIfInBounds_toArray, List.set_cons_zero, List.set_cons_succ])
            refine wpAnyH_take (i := 10) (oi := { dst := some 35, op := Op.call { callee := Callee.value (Operand.func 50), args := #[Operand.tmp 32, Operand.tmp 34], argTypes := #[28, 9] }, type := 3, pos := "l08_arbors.go:56", after := #[{ on := 7, ground := Ground.data }, { on := 9, ground := Ground.data }, { on := 3, ground := Ground.chain }, { on := 3, ground := Ground.guard }], guard := some (3, false) }) (v := undef) rfl (by kernel_rfl) (by kernel_rfl) (by kernel_rfl) (fun _ _ _ h => h) (Or.inr ⟨by rfl, rfl⟩) (by assumption) ?_
            (try simp only [Act.put, List.setIfInBounds_toArray, List.set_cons_zero, List.set_cons_succ])
            refine wpAnyH_take (i := 11) (oi := { dst := some 36, op := Op.binOp BinOp.geq 3 (Operand.tmp 35) (Operand.const (Value.int IntKind.i64 0)) 3, type := 4, pos := "l08_arbors.go:56", after := #[{ on := 10, ground := Ground.data }, { on := 3, ground := Ground.guard }], guard := some (3, false) }) (v := undef) rfl (by kernel_rfl) (by kernel_rfl) (by kernel_rfl) (fun _ _ _ h => h) (Or.inr ⟨by rfl, rfl⟩) (by assumption) ?_
            (try simp only [Act.put, List.setIfInBounds_toArray, List.set_cons_zero, List.set_cons_succ])
            refine wpAnyH_take (i := 12) (oi := { dst := some 37, op := Op.pick (Operand.tmp 28) (Operand.const (Value.bool true)) (Operand.tmp 36), type := 4, pos := "l08_arbors.go:56", after := #[{ on := 3, ground := Ground.data }, { on := 11, ground := Ground.data }], guard := none }) (v := ?_) rfl (by kernel_rfl) (by kernel_rfl) (by kernel_rfl) (fun _ _ _ h => h) (Or.inl ⟨by rfl, ?_⟩) (by assumption) ?_
            rotate_left 1
            · ((intro w hSw; obtain ⟨s1, s2, s3, s4, s5, s6, s7, s8⟩ := hSw; go_simp; try with_reducible rfl))
            (try simp only [Act.put, List.setIfInBounds_toArray, List.set_cons_zero, List.set_cons_succ])
            refine wpAnyH_done (by kernel_rfl) ?_ _
            have HB := Lib.hid hHeld2.2.2.2.2.2.2.2
            clear hHeld2
            go_wp2_with fail
            go_ret
            exact ⟨ret_bool HW'.out.symm, bT L0.out HB.out⟩
          · have hV := fun W h => ArborValid_any s ts (.slice tao ts.length tc) W h hs hts
            rw [hp] at hV
            have HV := Lib.hid hV
            clear hV
            have HI := Lib.hid (fun W (h : SlA W (.slice (some ⟨g, 0, none⟩) rs.length cap) rs) => indexNamed_any (rs.take k) s (.slice (some ⟨g, 0, none⟩) k cap) W (h.take (by omega)))
            have hk0 : (0 : Int) ≤ (k : Int) := by omega
            have hkc : (k : Int) ≤ (cap : Int) := by have := HCP.out; omega
            cases hown : ownN rs k
            · have hz := HO.out
              rw [hown] at hz
              clear HO
              generalize idxN (rs.take k) s = z at *
              have hz' : 0 ≤ z := by simpa using hz
              have HW' := Lib.hid (HW.out (.inr hown))
              go_region_held3 (fun w' => w'.cell? ⟨bx, 0, none⟩ = some (.slice (some ⟨g, 0, none⟩) rs.length cap) ∧ w'.cell? ⟨nb, 0, none⟩ = some (.string s) ∧ w'.cell? ⟨nb, 1, none⟩ = some (.slice tao ts.length tc) ∧ bx < w'.heap.size ∧ nb < w'.heap.size ∧ SlA w' (.slice (some ⟨g, 0, none⟩) rs.length cap) rs ∧ Sl64 w' (.slice tao ts.length tc) ts ∧ Below W0.heap.size W0 w') (first | exact HS.drew | exact ArH.keep hb (by assumption))
                (first
                  | (go_at_call 49; have hS : ArH W0 bx nb (.slice (some ⟨g, 0, none⟩) rs.length cap) s (.slice tao ts.length tc) rs ts _ := (by assumption); refine (HV.out _ hS.2.2.2.2.2.2.1).mono ?_; clear hS; rintro e w' ⟨rfl, hb⟩)
                  | (go_at_call 50; have hS : ArH W0 bx nb (.slice (some ⟨g, 0, none⟩) rs.length cap) s (.slice tao ts.length tc) rs ts _ := (by assumption); refine (HI.out _ hS.2.2.2.2.2.1).mono ?_; clear hS; rintro e w' ⟨rfl, hb⟩))
              have HT' : ArH W0 bx nb (.slice (some ⟨g, 0, none⟩) rs.length cap) s (.slice tao ts.length tc) rs ts w' := by assumption
              have HU := Lib.hid HT'.2.2.2.2.2.2.2
              clear hb HT' HS
              go_wp2_with fail
              go_ret
              exact ⟨ret_bool HW'.out.symm, bT L0.out HU.out⟩
            · have hz := HO.out
              rw [hown] at hz
              clear HO
              generalize idxN (rs.take k) s = z at *
              have hz' : ¬ 0 ≤ z := by simpa using hz
              have HS' := Lib.hid (HS1.out hp hown)
              go_region_held3 (fun w' => w'.cell? ⟨bx, 0, none⟩ = some (.slice (some ⟨g, 0, none⟩) rs.length cap) ∧ w'.cell? ⟨nb, 0, none⟩ = some (.string s) ∧ w'.cell? ⟨nb, 1, none⟩ = some (.slice tao ts.length tc) ∧ bx < w'.heap.size ∧ nb < w'.heap.size ∧ SlA w' (.slice (some ⟨g, 0, none⟩) rs.length cap) rs ∧ Sl64 w' (.slice tao ts.length tc) ts ∧ Below W0.heap.size W0 w') (first | exact HS.drew | exact ArH.keep hb (by assumption))
                (first
                  | (go_at_call 49; have hS : ArH W0 bx nb (.slice (some ⟨g, 0, none⟩) rs.length cap) s (.slice tao ts.length tc) rs ts _ := (by assumption); refine (HV.out _ hS.2.2.2.2.2.2.1).mono ?_; clear hS; rintro e w' ⟨rfl, hb⟩)
                  | (go_at_call 50; have hS : ArH W0 bx nb (.slice (some ⟨g, 0, none⟩) rs.length cap) s (.slice tao ts.length tc) rs ts _ := (by assumption); refine (HI.out _ hS.2.2.2.2.2.1).mono ?_; clear hS; rintro e w' ⟨rfl, hb⟩))
              have HT' : ArH W0 bx nb (.slice (some ⟨g, 0, none⟩) rs.length cap) s (.slice tao ts.length tc) rs ts w' := by assumption
              have HU := Lib.hid HT'.2.2.2.2.2.2.2
              clear hb HT' HS
              go_wp2_with fail
              go_roundw
              case rel => exact ⟨k + 1, by omega, by go_num, HS'.out, HU.out⟩
              case measure => simp [intOf]; omega
        · obtain rfl : k = rs.length := by omega
          obtain ⟨x0, x1, _, _, x4⟩ := X.out.keep HBW.out
          go_wp2_with fail
          clear x0 x1 x4
          generalize wr = W2 at *
          go_loopw [42] (fun i wr => ∃ (k : Nat), k ≤ ms.length ∧ i = .int .i64 k ∧ mshK rs ms k ∧ Below W0.heap.size W0 wr) (fun i _ => ms.length - (intOf i).toNat)
          case atStart => exact ⟨0, by omega, rfl, mshK_zero _ _, HBW.out⟩
          case round =>
            obtain ⟨k, hk, rfl, hok, hbw⟩ := hrel
            have HM2 := Lib.hid hok
            have HBW2 := Lib.hid hbw
            clear hok hbw
            by_cases hlt : k < ms.length
            · obtain ⟨_, ao', cap', e', _, hc⟩ := HM.out.keep HBW2.out
              injection e' with e1 e2 e3
              subst e1 e3
              obtain ⟨g, rfl, hg, hc⟩ := hc (by omega)
              obtain ⟨c0, c1, c2, c3⟩ := hc k hlt
              have HP := Lib.hid (show msAt ms k = ((msAt ms k).1, (msAt ms k).2.1, (msAt ms k).2.2.1, (msAt ms k).2.2.2) from rfl)
              clear hc
              generalize (msAt ms k).1 = y0 at *
              generalize (msAt ms k).2.1 = y1 at *
              generalize (msAt ms k).2.2.1 = y2 at *
              generalize (msAt ms k).2.2.2 = y3 at *
              go_wp2_with fail
              have HS : MeH W0 bx wr.heap.size (.slice ao rs.length cap) (.slice (some ⟨g, 0, none⟩) ms.length bcap) y0 y1 y2 y3 rs ms (wr.alloc (.cells #[.int .i64 y0, .int .i64 y1, .int .i64 y2, .int .i64 y3] 52)) := by
                have a := X.out.keep HBW2.out
                have hb : Below wr.heap.size wr (wr.alloc (.cells #[.int .i64 y0, .int .i64 y1, .int .i64 y2, .int .i64 y3] 52)) := bA (bR _) _
                exact ⟨(hb.cell (p := ⟨bx, 0, none⟩) a.lt).trans a.c0, (hb.cell (p := ⟨bx, 1, none⟩) a.lt).trans a.c1, by simp [go_sem], by simp [go_sem], by simp [go_sem], by simp [go_sem], Nat.lt_of_lt_of_le a.lt hb.size, by simp, (HA.out.keep HBW2.out).keep hb, (HM.out.keep HBW2.out).keep hb, bT HBW2.out hb⟩
              have HW := Lib.hid (fun h => okW_m (rs := rs) (ms := ms) hlt h)
              have HS1 := Lib.hid (mshK_succ (rs := rs) (ms := ms) (k := k) HM2.out)
              rw [HP.out] at HW HS1
              generalize wr.alloc (.cells #[.int .i64 y0, .int .i64 y1, .int .i64 y2, .int .i64 y3] 52) = W1 at *
              generalize wr.heap.size = nb at *
              cases hp : mshB rs (y0, y1, y2, y3)
              · have HW' := Lib.hid (HW.out (.inl hp))
                refine wp_region_held_drew (S := MeH W0 bx nb (.slice ao rs.length cap) (.slice (some ⟨g, 0, none⟩) ms.length bcap) y0 y1 y2 y3 rs ms) (by kernel_rfl) HS.drew (fun hHeld => ?_)
                refine wpAnyH_take (i := 0) (oi := { dst := some 47, op := Op.load 31 (Operand.tmp 1), type := 31, pos := "l08_arbors.go:61", after := #[], guard := none }) (v := ?_) rfl (by kernel_rfl) (by kernel_rfl) (by kernel_rfl) (fun _ _ _ h => h) (Or.inl ⟨by rfl, ?_⟩) (by assumption) ?_
                rotate_left 1
                · ((intro w hSw; obtain ⟨s1, s2, s3, s4, s5, s6, s7, s8, s9, s10, s11⟩ := hSw; go_simp; try with_reducible rfl))
                (try simp only [Act.put, List.setIfInBounds_toArray, List.set_cons_zero, List.set_cons_succ])
                refine wpAnyH_take (i := 1) (oi := { dst := some 48, op := Op.load 52 (Operand.tmp 6), type := 52, pos := "l08_arbors.go:61", after := #[], guard := none }) (v := ?_) rfl (by kernel_rfl) (by kernel_rfl) (by kernel_rfl) (fun _ _ _ h => h) (Or.inl ⟨by rfl, ?_⟩) (by assumption) ?_
                rotate_left 1
                · ((intro w hSw; obtain ⟨s1, s2, s3, s4, s5, s6, s7, s8, s9, s10, s11⟩ := hSw; go_simp; try with_reducible rfl))
                (try simp only [Act.put, List.setIfInBounds_toArray, List.set_cons_zero, List.set_cons_succ])
                refine wpAnyH_ready (rs := [2]) (by kernel_rfl) (by simp) ?_
                refine AllReadyH.cons (o := { dst := some 49, op := Op.call { callee := Callee.value (Operand.func 51), args := #[Operand.tmp 47, Operand.tmp 48], argTypes := #[31, 52] }, type := 4, pos := "l08_arbors.go:61", after := #[{ on := 0, ground := Ground.data }, { on := 1, ground := Ground.data }], guard := none }) rfl (fun K hK => ?_) AllReadyH.nil
                go_simp
                go_at_call 51
                refine (allows_any rs ms _ _ y0 y1 y2 y3 _ hHeld.2.2.2.2.2.2.2.2.1 hHeld.2.2.2.2.2.2.2.2.2.1).mono ?_
                rw [hp]
                rintro e w' ⟨rfl, hb⟩
                refine hK.out _ _ (MeH.keep hb hHeld) (fun hHeld2 => ?_)
                clear hK K hHeld
                (try simp only [Act.put, List.setIfInBounds_toArray, List.set_cons_zero, List.set_cons_succ])
                refine wpAnyH_take (i := 3) (oi := { dst := some 50, op := Op.unOp UnOp.not 4 (Operand.tmp 49), type := 4, pos := "l08_arbors.go:61", after := #[{ on := 2, ground := Ground.data }], guard := none }) (v := ?_) rfl (by kernel_rfl) (by kernel_rfl) (by kernel_rfl) (fun _ _ _ h => h) (Or.inl ⟨by rfl, ?_⟩) (by assumption) ?_
                rotate_left 1
                · ((intro w hSw; obtain ⟨s1, s2, s3, s4, s5, s6, s7, s8, s9, s10, s11⟩ := hSw; go_simp; try with_reducible rfl))
                (try simp only [Act.put, List.setIfInBounds_toArray, List.set_cons_zero, List.set_cons_succ])
                refine wpAnyH_take (i := 4) (oi := { dst := some 51, op := Op.move (Operand.tmp 50), type := 4, pos := "l08_arbors.go:61", after := #[{ on := 3, ground := Ground.data }, { on := 2, ground := Ground.chain }], guard := none }) (v := ?_) rfl (by kernel_rfl) (by kernel_rfl) (by kernel_rfl) (fun _ _ _ h => h) (Or.inl ⟨by rfl, ?_⟩) (by assumption) ?_
                rotate_left 1
                · ((intro w hSw; obtain ⟨s1, s2, s3, s4, s5, s6, s7, s8, s9, s10, s11⟩ := hSw; go_simp; try with_reducible rfl))
                (try simp only [Act.put, List.setIfInBounds_toArray, List.set_cons_zero, List.set_cons_succ])
                refine wpAnyH_take (i := 5) (oi := { dst := some 52, op := Op.fieldAddr 31 (Operand.tmp 1) 1, type := 0, pos := "l08_arbors.go:61", after := #[{ on := 4, ground := Ground.guard }], guard := some (4, false) }) (v := undef) rfl (by kernel_rfl) (by kernel_rfl) (by kernel_rfl) (fun _ _ _ h => h) (Or.inr ⟨by rfl, rfl⟩) (by assumption) ?_
                (try simp only [Act.put, List.setIfInBounds_toArray, List.set_cons_zero, List.set_cons_succ])
                refine wpAnyH_take (i := 6) (oi := { dst := some 53, op := Op.load 29 (Operand.tmp 52), type := 29, pos := "l08_arbors.go:61", after := #[{ on := 5, ground := Ground.data }, { on := 4, ground := Ground.guard }], guard := some (4, false) }) (v := undef) rfl (by kernel_rfl) (by kernel_rfl) (by kernel_rfl) (fun _ _ _ h => h) (Or.inr ⟨by rfl, rfl⟩) (by assumption) ?_
                (try simp only [Act.put, List.setIfInBounds_toArray, List.set_cons_zero, List.set_cons_succ])
                refine wpAnyH_take (i := 7) (oi := { dst := some 54, op := Op.move (Operand.tmp 5), type := 3, pos := "l08_arbors.go:61", after := #[{ on := 4, ground := Ground.guard }], guard := some (4, false) }) (v := undef) rfl (by kernel_rfl) (by kernel_rfl) (by kernel_rfl) (fun _ _ _ h => h) (Or.inr ⟨by rfl, rfl⟩) (by assumption) ?_
                (try simp only [Act.put, List.setIfInBounds_toArray, List.set_cons_zero, List.set_cons_succ])
                refine wpAnyH_take (i := 8) (oi := { dst := some 55, op := Op.slice 29 (Operand.tmp 53) none (some (Operand.tmp 54)) none, type := 29, pos := "l08_arbors.go:61", after := #[{ on := 6, ground := Ground.data }, { on := 7, ground := Ground.data }, { on := 4, ground := Ground.guard }], guard := some (4, false) }) (v := undef) rfl (by kernel_rfl) (by kernel_rfl) (by kernel_rfl) (fun _ _ _ h => h) (Or.inr ⟨by rfl, rfl⟩) (by assumption) ?_
                (try simp only [Act.put, List.setIfInBounds_toArray, List.set_cons_zero, List.set_cons_succ])
                refine wpAnyH_take (i := 9) (oi := { dst := some 56, op := Op.load 52 (Operand.tmp 6), type := 52, pos := "l08_arbors.go:61", after := #[{ on := 4, ground := Ground.guard }], guard := some (4, false) }) (v := undef) rfl (by kernel_rfl) (by kernel_rfl) (by kernel_rfl) (fun _ _ _ h => h) (Or.inr ⟨by rfl, rfl⟩) (by assumption) ?_
                (try simp only [Act.put, List.setIfInBounds_toArray, List.set_cons_zero, List.set_cons_succ])
                refine wpAnyH_take (i := 10) (oi := { dst := some 57, op := Op.makeFunc (Fn.func 53) #[Operand.tmp 56] #[], type := 82, pos := "l08_arbors.go:61", after := #[{ on := 9, ground := Ground.data }, { on := 4, ground := Ground.guard }], guard := some (4, false) }) (v := undef) rfl (by kernel_rfl) (by kernel_rfl) (by kernel_rfl) (fun _ _ _ h => h) (Or.inr ⟨by rfl, rfl⟩) (by assumption) ?_
                (try simp only [Act.put, List.setIfInBounds_toArray, List.set_cons_zero, List.set_cons_succ])
                refine wpAnyH_take (i := 11) (oi := { dst := some 58, op := Op.call { callee := Callee.value (Operand.func 52), args := #[Operand.tmp 55, Operand.tmp 57], argTypes := #[29, 82] }, type := 4, pos := "l08_arbors.go:61", after := #[{ on := 8, ground := Ground.data }, { on := 10, ground := Ground.data }, { on := 4, ground := Ground.chain }, { on := 4, ground := Ground.guard }], guard := some (4, false) }) (v := undef) rfl (by kernel_rfl) (by kernel_rfl) (by kernel_rfl) (fun _ _ _ h => h) (Or.inr ⟨by rfl, rfl⟩) (by assumption) ?_
                (try simp only [Act.put, List.setIfInBounds_toArray, List.set_cons_zero, List.set_cons_succ])
                refine wpAnyH_take (i := 12) (oi := { dst := some 59, op := Op.pick (Operand.tmp 51) (Operand.const (Value.bool true)) (Operand.tmp 58), type := 4, pos := "l08_arbors.go:61", after := #[{ on := 4, ground := Ground.data }, { on := 11, ground := Ground.data }], guard := none }) (v := ?_) rfl (by kernel_rfl) (by kernel_rfl) (by kernel_rfl) (fun _ _ _ h => h) (Or.inl ⟨by rfl, ?_⟩) (by assumption) ?_
                rotate_left 1
                · ((intro w hSw; obtain ⟨s1, s2, s3, s4, s5, s6, s7, s8, s9, s10, s11⟩ := hSw; go_simp; try with_reducible rfl))
                (try simp only [Act.put, List.setIfInBounds_toArray, List.set_cons_zero, List.set_cons_succ])
                refine wpAnyH_done (by kernel_rfl) ?_ _
                have HB := Lib.hid hHeld2.2.2.2.2.2.2.2.2.2.2
                clear hHeld2
                go_wp2_with fail
                go_ret
                exact ⟨ret_bool HW'.out.symm, bT L0.out HB.out⟩
              · have hV := fun W h1 h2 => allows_any rs ms (.slice ao rs.length cap) (.slice (some ⟨g, 0, none⟩) ms.length bcap) y0 y1 y2 y3 W h1 h2
                rw [hp] at hV
                have HV := Lib.hid hV
                clear hV
                have hI := fun W (h : SlM W (.slice (some ⟨g, 0, none⟩) ms.length bcap) ms) => containsM_any (ms.take k) y0 y1 y2 y3 (.slice (some ⟨g, 0, none⟩) k bcap) W (h.take (by omega))
                rw [kn_take] at hI
                have HI := Lib.hid hI
                clear hI
                have hk0 : (0 : Int) ≤ (k : Int) := by omega
                have hkc : (k : Int) ≤ (bcap : Int) := by have := HCP'.out; omega
                cases hkn : knM ms (y0, y1, y2, y3) k
                · rw [hkn] at HI
                  have HS' := Lib.hid (HS1.out hp hkn)
                  go_region_held3 (fun w' => w'.cell? ⟨bx, 0, none⟩ = some (.slice ao rs.length cap) ∧ w'.cell? ⟨bx, 1, none⟩ = some (.slice (some ⟨g, 0, none⟩) ms.length bcap) ∧ w'.cell? ⟨nb, 0, none⟩ = some (.int .i64 y0) ∧ w'.cell? ⟨nb, 1, none⟩ = some (.int .i64 y1) ∧ w'.cell? ⟨nb, 2, none⟩ = some (.int .i64 y2) ∧ w'.cell? ⟨nb, 3, none⟩ = some (.int .i64 y3) ∧ bx < w'.heap.size ∧ nb < w'.heap.size ∧ SlA w' (.slice ao rs.length cap) rs ∧ SlM w' (.slice (some ⟨g, 0, none⟩) ms.length bcap) ms ∧ Below W0.heap.size W0 w') (first | exact HS.drew | assumption | exact MeH.keep hb (by assumption))
                    (first
                      | (go_at_call 51; have hS : MeH W0 bx nb (.slice ao rs.length cap) (.slice (some ⟨g, 0, none⟩) ms.length bcap) y0 y1 y2 y3 rs ms _ := (by assumption); refine (HV.out _ hS.2.2.2.2.2.2.2.2.1 hS.2.2.2.2.2.2.2.2.2.1).mono ?_; clear hS; rintro e w' ⟨rfl, hb⟩)
                      | (go_at_call 52; have hS : MeH W0 bx nb (.slice ao rs.length cap) (.slice (some ⟨g, 0, none⟩) ms.length bcap) y0 y1 y2 y3 rs ms _ := (by assumption); refine (HI.out _ hS.2.2.2.2.2.2.2.2.2.1).mono ?_; clear hS; rintro e w' ⟨rfl, hb⟩))
                  have HT' : MeH W0 bx nb (.slice ao rs.length cap) (.slice (some ⟨g, 0, none⟩) ms.length bcap) y0 y1 y2 y3 rs ms w' := by assumption
                  have HU := Lib.hid HT'.2.2.2.2.2.2.2.2.2.2
                  clear hb HT' HS
                  go_wp2_with fail
                  go_roundw
                  case rel => exact ⟨k + 1, by omega, by go_num, HS'.out, HU.out⟩
                  case measure => simp [intOf]; omega
                · rw [hkn] at HI
                  have HW' := Lib.hid (HW.out (.inr hkn))
                  go_region_held3 (fun w' => w'.cell? ⟨bx, 0, none⟩ = some (.slice ao rs.length cap) ∧ w'.cell? ⟨bx, 1, none⟩ = some (.slice (some ⟨g, 0, none⟩) ms.length bcap) ∧ w'.cell? ⟨nb, 0, none⟩ = some (.int .i64 y0) ∧ w'.cell? ⟨nb, 1, none⟩ = some (.int .i64 y1) ∧ w'.cell? ⟨nb, 2, none⟩ = some (.int .i64 y2) ∧ w'.cell? ⟨nb, 3, none⟩ = some (.int .i64 y3) ∧ bx < w'.heap.size ∧ nb < w'.heap.size ∧ SlA w' (.slice ao rs.length cap) rs ∧ SlM w' (.slice (some ⟨g, 0, none⟩) ms.length bcap) ms ∧ Below W0.heap.size W0 w') (first | exact HS.drew | assumption | exact MeH.keep hb (by assumption))
                    (first
                      | (go_at_call 51; have hS : MeH W0 bx nb (.slice ao rs.length cap) (.slice (some ⟨g, 0, none⟩) ms.length bcap) y0 y1 y2 y3 rs ms _ := (by assumption); refine (HV.out _ hS.2.2.2.2.2.2.2.2.1 hS.2.2.2.2.2.2.2.2.2.1).mono ?_; clear hS; rintro e w' ⟨rfl, hb⟩)
                      | (go_at_call 52; have hS : MeH W0 bx nb (.slice ao rs.length cap) (.slice (some ⟨g, 0, none⟩) ms.length bcap) y0 y1 y2 y3 rs ms _ := (by assumption); refine (HI.out _ hS.2.2.2.2.2.2.2.2.2.1).mono ?_; clear hS; rintro e w' ⟨rfl, hb⟩))
                  have HT' : MeH W0 bx nb (.slice ao rs.length cap) (.slice (some ⟨g, 0, none⟩) ms.length bcap) y0 y1 y2 y3 rs ms w' := by assumption
                  have HU := Lib.hid HT'.2.2.2.2.2.2.2.2.2.2
                  clear hb HT' HS
                  go_wp2_with fail
                  go_ret
                  exact ⟨ret_bool HW'.out.symm, bT L0.out HU.out⟩
            · obtain rfl : k = ms.length := by omega
              have HR := Lib.hid (okW_go HK.out HM2.out)
              have HR' := Lib.hid (show okW rs ms = true by rw [HR.out]; simp [h16, h24])
              go_wp2_with fail
              go_ret
              exact ⟨ret_bool HR'.out.symm, bT L0.out HBW2.out⟩
    · have h24' : (24 : Int) < (ms.length : Int) := by omega
      have h24'' : decide ((24 : Int) < (ms.length : Int)) = true := decide_eq_true h24'
      have HR := Lib.hid (okW_len (rs := rs) (ms := ms) (by omega))
      obtain ⟨x0, x1, _, _, x4⟩ := X.out
      go_enter Try.func14, Try.ntmps14
      go_wp2_with fail
      go_ret
      exact ⟨ret_bool HR.out.symm, L0.out⟩
  · have h16' : (16 : Int) < (rs.length : Int) := by omega
    have h16'' : decide ((16 : Int) < (rs.length : Int)) = true := decide_eq_true h16'
    have HR := Lib.hid (okW_len (rs := rs) (ms := ms) (by omega))
    obtain ⟨x0, x1, _, _, x4⟩ := X.out
    go_enter Try.func14, Try.ntmps14
    go_wp2_with fail
    go_ret
    exact ⟨ret_bool HR.out.symm, L0.out⟩
end Go.Proofs.Ytnijbbligkmefaa

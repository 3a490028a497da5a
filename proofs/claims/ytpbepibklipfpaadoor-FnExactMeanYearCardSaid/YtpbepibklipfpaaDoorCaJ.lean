/-
  The program's side of validity: areMonths, ValidCalendar.
-/
import Derived.Test.YtpbepibklipfpaaDoorCaI
namespace Go.Proofs.YtpbepibklipfpaaDoor
open Go.RowKit

/-- What stands in a round over the months. -/
def MoH (W0 : World) (nb : Nat) (v : Value) (nm : ByteArray) (x y : Int) (ms : List Mo) (w' : World) : Prop :=
  w'.cell? ⟨nb, 0, none⟩ = some (.string nm) ∧ w'.cell? ⟨nb, 1, none⟩ = some (.int .i64 x) ∧ w'.cell? ⟨nb, 2, none⟩ = some (.int .i64 y) ∧ nb < w'.heap.size ∧ SlMo w' v ms ∧ Below W0.heap.size W0 w'
theorem MoH.keep {W0 : World} {nb : Nat} {v : Value} {nm : ByteArray} {x y : Int} {ms : List Mo} {w' w2 : World} (hb : Below w'.heap.size w' w2) (h : MoH W0 nb v nm x y ms w') : MoH W0 nb v nm x y ms w2 := by
  obtain ⟨c0, c1, c2, e2, e3, e4⟩ := h
  exact ⟨(hb.cell (p := ⟨nb, 0, none⟩) e2).trans c0, (hb.cell (p := ⟨nb, 1, none⟩) e2).trans c1, (hb.cell (p := ⟨nb, 2, none⟩) e2).trans c2, Nat.lt_of_lt_of_le e2 hb.size, e3.keep hb, bT e4 hb⟩
theorem MoH.drew {W0 : World} {nb : Nat} {v : Value} {nm : ByteArray} {x y : Int} {ms : List Mo} {w' : World} (h : MoH W0 nb v nm x y ms w') : MoH W0 nb v nm x y ms w'.drew := h.keep (bR _).drew
set_option maxRecDepth 100000 in
set_option maxHeartbeats 8000000 in
theorem areMonths_any (ms : List Mo) (v : Value) (w : World) (ha : SlMo w v ms) :
    Calls Tryd.prog 98 #[v] w (BoolBel (okMo ms) w) := by
  obtain ⟨ao, cap, rfl, ⟨l1, l2⟩, hcc⟩ := ha.open
  unfold maxLen at l2
  have HA := Lib.hid ha
  have HCP := Lib.hid l1
  clear ha hcc
  cases hq : inB (ms.length : Int) 1 20
  · have HN := Lib.hid (okMo_len hq)
    go_enter Tryd.func98, Tryd.ntmps98
    go_wp2_with (go_at_call 56; refine (isBetween_any _ _ _ _).mono ?_; rintro e w1 ⟨rfl, rfl⟩)
    go_ret
    exact ⟨ret_bool HN.out.symm, bR _⟩
  have HQ := Lib.hid hq
  go_enter Tryd.func98, Tryd.ntmps98
  go_wp2_with (go_at_call 56; refine (isBetween_any _ _ _ _).mono ?_; rintro e w1 ⟨rfl, rfl⟩)
  clear hq
  go_loopw [11] (fun i wr => ∃ (k : Nat), k ≤ ms.length ∧ i = .int .i64 k ∧ moK ms k ∧ Below w.heap.size w wr) (fun i _ => ms.length - (intOf i).toNat)
  case atStart => exact ⟨0, by omega, rfl, moK_zero _, bR _⟩
  case round =>
    obtain ⟨k, hk, rfl, hok, hbw⟩ := hrel
    have HK := Lib.hid hok
    have HBW := Lib.hid hbw
    clear hok
    by_cases hlt : k < ms.length
    · have HA1 := Lib.hid (HA.out.keep hbw)
      obtain ⟨ao', cap', e', _, hc⟩ := HA1.out.open
      injection e' with e1 e2 e3
      subst e1 e3
      obtain ⟨g, o, rfl, hg, hc⟩ := hc (by omega)
      obtain ⟨c0, c1, c2, c5⟩ := hc k hlt
      have HSZ := Lib.hid c5
      have HP := Lib.hid (show moAt ms k = ⟨(moAt ms k).nm, (moAt ms k).d, (moAt ms k).l⟩ from rfl)
      have HW := Lib.hid (fun h => okMo_s (ms := ms) hlt h)
      have HS1 := Lib.hid (moK_succ (ms := ms) (k := k) HK.out)
      rw [HP.out] at HW HS1
      clear hc c5 hbw
      generalize (moAt ms k).nm = nm at *
      generalize (moAt ms k).d = x at *
      generalize (moAt ms k).l = y at *
      go_wp2_with fail
      have HS : MoH w wr.heap.size (.slice (some ⟨g, o, none⟩) ms.length cap) nm x y ms (wr.alloc (.cells #[.string nm, .int .i64 x, .int .i64 y] 79)) := by
        obtain ⟨d0, d1, d2, d3⟩ := (BoxL.new wr [.string nm, .int .i64 x, .int .i64 y] 79).c3
        exact ⟨d0, d1, d2, d3, HA1.out.keep (bA (bR _) _), bA HBW.out _⟩
      have HI := Lib.hid (fun W' (h : SlMo W' (.slice (some ⟨g, o, none⟩) ms.length cap) ms) => containsMo_any (ms.take k) ⟨nm, x, y⟩ (.slice (some ⟨g, o, none⟩) k cap) W' (h.take (by omega)))
      unfold moV at HI
      clear c0 c1 c2 HA1 hg
      generalize wr.alloc (.cells #[.string nm, .int .i64 x, .int .i64 y] 79) = W1 at *
      generalize wr.heap.size = nb at *
      have hk0 : (0 : Int) ≤ (k : Int) := by omega
      have hkc : (k : Int) ≤ (cap : Int) := by have := HCP.out; omega
      cases hp : moB ⟨nm, x, y⟩
      · have HB := Lib.hid hp
        have HN := Lib.hid (HW.out (.inl hp))
        clear hp HW HI HS1
        refine wp_region_held_drew (S := MoH w nb (.slice (some ⟨g, o, none⟩) ms.length cap) nm x y ms) (by kernel_rfl) HS.drew (fun hHeld => ?_)
        refine wpAnyH_take (i := 0) (oi := { dst := some 16, op := Op.load 79 (Operand.tmp 4), type := 79, pos := "l15_calendars.go:243", after := #[], guard := none }) (v := ?_) rfl (by kernel_rfl) (by kernel_rfl) (by kernel_rfl) (fun _ _ _ h => h) (Or.inl ⟨by rfl, ?_⟩) (by assumption) ?_
        rotate_left 1
        · ((intro w hSw; obtain ⟨s1, s2, s3, s4, s5, s6⟩ := hSw; go_simp; try with_reducible rfl))
        (try simp only [Act.put, List.setIfInBounds_toArray, List.set_cons_zero, List.set_cons_succ])
        refine wpAnyH_ready (rs := [1]) (by kernel_rfl) (by simp) ?_
        refine AllReadyH.cons (o := { dst := some 17, op := Op.call { callee := Callee.value (Operand.func 121), args := #[Operand.tmp 16], argTypes := #[79] }, type := 4, pos := "l15_calendars.go:243", after := #[{ on := 0, ground := Ground.data }], guard := none }) rfl (fun K hK => ?_) AllReadyH.nil
        go_simp
        go_at_call 121
        refine (moValid_any nm x y _ HSZ.out).mono ?_
        rw [HB.out]
        rintro e w' ⟨rfl, hb⟩
        refine hK.out _ _ (MoH.keep hb hHeld) (fun hHeld2 => ?_)
        clear hK K hHeld
        (try simp only [Act.put, List.setIfInBounds_toArray, List.set_cons_zero, List.set_cons_succ])
        refine wpAnyH_take (i := 2) (oi := { dst := some 18, op := Op.unOp UnOp.not 4 (Operand.tmp 17), type := 4, pos := "l15_calendars.go:243", after := #[{ on := 1, ground := Ground.data }], guard := none }) (v := ?_) rfl (by kernel_rfl) (by kernel_rfl) (by kernel_rfl) (fun _ _ _ h => h) (Or.inl ⟨by rfl, ?_⟩) (by assumption) ?_
        rotate_left 1
        · ((intro w hSw; obtain ⟨s1, s2, s3, s4, s5, s6⟩ := hSw; go_simp; try with_reducible rfl))
        (try simp only [Act.put, List.setIfInBounds_toArray, List.set_cons_zero, List.set_cons_succ])
        refine wpAnyH_take (i := 3) (oi := { dst := some 19, op := Op.move (Operand.tmp 18), type := 4, pos := "l15_calendars.go:243", after := #[{ on := 2, ground := Ground.data }, { on := 1, ground := Ground.chain }], guard := none }) (v := ?_) rfl (by kernel_rfl) (by kernel_rfl) (by kernel_rfl) (fun _ _ _ h => h) (Or.inl ⟨by rfl, ?_⟩) (by assumption) ?_
        rotate_left 1
        · ((intro w hSw; obtain ⟨s1, s2, s3, s4, s5, s6⟩ := hSw; go_simp; try with_reducible rfl))
        (try simp only [Act.put, List.setIfInBounds_toArray, List.set_cons_zero, List.set_cons_succ])
        refine wpAnyH_take (i := 4) (oi := { dst := some 20, op := Op.move (Operand.tmp 0), type := 31, pos := "l15_calendars.go:243", after := #[{ on := 3, ground := Ground.guard }], guard := some (3, false) }) (v := undef) rfl (by kernel_rfl) (by kernel_rfl) (by kernel_rfl) (fun _ _ _ h => h) (Or.inr ⟨by rfl, rfl⟩) (by assumption) ?_
        (try simp only [Act.put, List.setIfInBounds_toArray, List.set_cons_zero, List.set_cons_succ])
        refine wpAnyH_take (i := 5) (oi := { dst := some 21, op := Op.move (Operand.tmp 3), type := 3, pos := "l15_calendars.go:243", after := #[{ on := 3, ground := Ground.guard }], guard := some (3, false) }) (v := undef) rfl (by kernel_rfl) (by kernel_rfl) (by kernel_rfl) (fun _ _ _ h => h) (Or.inr ⟨by rfl, rfl⟩) (by assumption) ?_
        (try simp only [Act.put, List.setIfInBounds_toArray, List.set_cons_zero, List.set_cons_succ])
        refine wpAnyH_take (i := 6) (oi := { dst := some 22, op := Op.slice 31 (Operand.tmp 20) none (some (Operand.tmp 21)) none, type := 31, pos := "l15_calendars.go:243", after := #[{ on := 4, ground := Ground.data }, { on := 5, ground := Ground.data }, { on := 3, ground := Ground.guard }], guard := some (3, false) }) (v := undef) rfl (by kernel_rfl) (by kernel_rfl) (by kernel_rfl) (fun _ _ _ h => h) (Or.inr ⟨by rfl, rfl⟩) (by assumption) ?_
        (try simp only [Act.put, List.setIfInBounds_toArray, List.set_cons_zero, List.set_cons_succ])
        refine wpAnyH_take (i := 7) (oi := { dst := some 23, op := Op.load 79 (Operand.tmp 4), type := 79, pos := "l15_calendars.go:243", after := #[{ on := 3, ground := Ground.guard }], guard := some (3, false) }) (v := undef) rfl (by kernel_rfl) (by kernel_rfl) (by kernel_rfl) (fun _ _ _ h => h) (Or.inr ⟨by rfl, rfl⟩) (by assumption) ?_
        (try simp only [Act.put, List.setIfInBounds_toArray, List.set_cons_zero, List.set_cons_succ])
        refine wpAnyH_take (i := 8) (oi := { dst := some 24, op := Op.makeFunc (Fn.func 123) #[Operand.tmp 23] #[], type := 156, pos := "l15_calendars.go:243", after := #[{ on := 7, ground := Ground.data }, { on := 3, ground := Ground.guard }], guard := some (3, false) }) (v := undef) rfl (by kernel_rfl) (by kernel_rfl) (by kernel_rfl) (fun _ _ _ h => h) (Or.inr ⟨by rfl, rfl⟩) (by assumption) ?_
        (try simp only [Act.put, List.setIfInBounds_toArray, List.set_cons_zero, List.set_cons_succ])
        refine wpAnyH_take (i := 9) (oi := { dst := some 25, op := Op.call { callee := Callee.value (Operand.func 122), args := #[Operand.tmp 22, Operand.tmp 24], argTypes := #[31, 156] }, type := 4, pos := "l15_calendars.go:243", after := #[{ on := 6, ground := Ground.data }, { on := 8, ground := Ground.data }, { on := 3, ground := Ground.chain }, { on := 3, ground := Ground.guard }], guard := some (3, false) }) (v := undef) rfl (by kernel_rfl) (by kernel_rfl) (by kernel_rfl) (fun _ _ _ h => h) (Or.inr ⟨by rfl, rfl⟩) (by assumption) ?_
        (try simp only [Act.put, List.setIfInBounds_toArray, List.set_cons_zero, List.set_cons_succ])
        refine wpAnyH_take (i := 10) (oi := { dst := some 26, op := Op.pick (Operand.tmp 19) (Operand.const (Value.bool true)) (Operand.tmp 25), type := 4, pos := "l15_calendars.go:243", after := #[{ on := 3, ground := Ground.data }, { on := 9, ground := Ground.data }], guard := none }) (v := ?_) rfl (by kernel_rfl) (by kernel_rfl) (by kernel_rfl) (fun _ _ _ h => h) (Or.inl ⟨by rfl, ?_⟩) (by assumption) ?_
        rotate_left 1
        · ((intro w hSw; obtain ⟨s1, s2, s3, s4, s5, s6⟩ := hSw; go_simp; try with_reducible rfl))
        (try simp only [Act.put, List.setIfInBounds_toArray, List.set_cons_zero, List.set_cons_succ])
        refine wpAnyH_done (by kernel_rfl) ?_ _
        have HU := Lib.hid hHeld2.2.2.2.2.2
        clear hHeld2
        go_wp2_with fail
        go_ret
        exact ⟨ret_bool HN.out.symm, HU.out⟩
      · have HB := Lib.hid hp
        cases hown : hasM (ms.take k) nm
        · rw [hown] at HI
          have HSK := Lib.hid (HS1.out hp hown)
          clear hp hown HW
          go_region_held3 (fun w' => w'.cell? ⟨nb, 0, none⟩ = some (.string nm) ∧ w'.cell? ⟨nb, 1, none⟩ = some (.int .i64 x) ∧ w'.cell? ⟨nb, 2, none⟩ = some (.int .i64 y) ∧ nb < w'.heap.size ∧ SlMo w' (.slice (some ⟨g, o, none⟩) ms.length cap) ms ∧ Below w.heap.size w w') (first | exact HS.drew | exact MoH.keep hb (by first | assumption | exact HS.drew))
              (first
                | (go_at_call 121; refine (moValid_any nm x y _ HSZ.out).mono ?_; rw [HB.out]; rintro e w' ⟨rfl, hb⟩)
                | (go_at_call 122; have hS : MoH w nb (.slice (some ⟨g, o, none⟩) ms.length cap) nm x y ms _ := (by assumption); refine (HI.out _ hS.2.2.2.2.1).mono ?_; clear hS; rintro e w' ⟨rfl, hb⟩))
          have HT' : MoH w nb (.slice (some ⟨g, o, none⟩) ms.length cap) nm x y ms w' := by assumption
          have HU := Lib.hid HT'.2.2.2.2.2
          clear hb HT' HS
          go_wp2_with fail
          go_roundw
          case rel => exact ⟨k + 1, by omega, by go_num, HSK.out, HU.out⟩
          case measure => simp [intOf]; omega
        · rw [hown] at HI
          have HN := Lib.hid (HW.out (.inr hown))
          clear hp hown HW
          go_region_held3 (fun w' => w'.cell? ⟨nb, 0, none⟩ = some (.string nm) ∧ w'.cell? ⟨nb, 1, none⟩ = some (.int .i64 x) ∧ w'.cell? ⟨nb, 2, none⟩ = some (.int .i64 y) ∧ nb < w'.heap.size ∧ SlMo w' (.slice (some ⟨g, o, none⟩) ms.length cap) ms ∧ Below w.heap.size w w') (first | exact HS.drew | exact MoH.keep hb (by first | assumption | exact HS.drew))
              (first
                | (go_at_call 121; refine (moValid_any nm x y _ HSZ.out).mono ?_; rw [HB.out]; rintro e w' ⟨rfl, hb⟩)
                | (go_at_call 122; have hS : MoH w nb (.slice (some ⟨g, o, none⟩) ms.length cap) nm x y ms _ := (by assumption); refine (HI.out _ hS.2.2.2.2.1).mono ?_; clear hS; rintro e w' ⟨rfl, hb⟩))
          have HT' : MoH w nb (.slice (some ⟨g, o, none⟩) ms.length cap) nm x y ms w' := by assumption
          have HU := Lib.hid HT'.2.2.2.2.2
          clear hb HT' HS
          go_wp2_with fail
          go_ret
          exact ⟨ret_bool HN.out.symm, HU.out⟩
    · obtain rfl : k = ms.length := by omega
      have HR := Lib.hid (okMo_all HK.out HQ.out)
      go_wp2_with fail
      go_ret
      exact ⟨ret_bool HR.out.symm, HBW.out⟩
set_option maxRecDepth 100000 in
set_option maxHeartbeats 4000000 in
theorem ValidCalendarI_any (c : Cal) (x : Value) (w : World) (h : IsC w x c) :
    Calls Tryd.prog 63 #[x] w (BoolBel (okC c) w) := by
  obtain ⟨u, v, rfl, hs, hM, hR⟩ := h
  have XB := Lib.hid (BoxL.new w [.string c.nm, u, v, .int .i64 c.wk] 34)
  have L0 := Lib.hid (bA (bR w) (.cells #[.string c.nm, u, v, .int .i64 c.wk] 34))
  have HM := Lib.hid (hM.keep L0.out)
  have HR := Lib.hid (hR.keep L0.out)
  have Y1 := Lib.hid (okC_r (c := c))
  have Y2 := Lib.hid (okC_n (c := c))
  have Y3 := Lib.hid (okC_m (c := c))
  have Y4 := Lib.hid (okC_w (c := c))
  have CY := Lib.hid (fun W (h : SlRu W v c.rs) => areRules_any c.rs v W h)
  have CM := Lib.hid (fun W (h : SlMo W u c.ms) => areMonths_any c.ms u W h)
  have CN := Lib.hid (fun W => IsNameI_any c.nm W hs)
  obtain ⟨a1, n1, rfl, _⟩ := hM.open
  obtain ⟨a2, n2, rfl, _⟩ := hR.open
  generalize okRu c.rs = q1 at *
  generalize nameB c.nm = q2 at *
  generalize okMo c.ms = q3 at *
  generalize okC c = q at *
  generalize c.nm = nm at *
  generalize c.wk = wk at *
  clear hs hM hR
  obtain ⟨c0, c1, c2, c3, c4⟩ := XB.out.c4q
  go_enter Tryd.func63, Tryd.ntmps63
  go_wp2_with fail
  generalize w.alloc (.cells #[.string nm, .slice a1 c.ms.length n1, .slice a2 c.rs.length n2, .int .i64 wk] 34) = W0 at *
  generalize w.heap.size = nb at XB c0 c1 c2 c3 c4 ⊢
  refine (CN.out _).mono ?_
  rintro e w1 ⟨rfl, hb⟩
  have L1 := Lib.hid (bT L0.out hb)
  have HM1 := Lib.hid (HM.out.keep hb)
  have HR1 := Lib.hid (HR.out.keep hb)
  have XB1 := Lib.hid (XB.out.keep hb)
  clear hb c0 c1 c2 c3 c4
  obtain ⟨c0, c1, c2, c3, c4⟩ := XB1.out.c4q
  cases q2
  · have HN := Lib.hid (Y2.out rfl)
    go_wp2_with fail
    go_ret
    exact ⟨ret_bool HN.out.symm, L1.out⟩
  go_wp2_with fail
  refine (CM.out _ HM1.out).mono ?_
  rintro e w2 ⟨rfl, hb⟩
  have L2 := Lib.hid (bT L1.out hb)
  have HR2 := Lib.hid (HR1.out.keep hb)
  have XB2 := Lib.hid (XB1.out.keep hb)
  clear hb c0 c1 c2 c3 c4
  obtain ⟨c0, c1, c2, c3, c4⟩ := XB2.out.c4q
  cases q3
  · have HN := Lib.hid (Y3.out rfl)
    go_wp2_with fail
    go_ret
    exact ⟨ret_bool HN.out.symm, L2.out⟩
  go_wp2_with fail
  refine (CY.out _ HR2.out).mono ?_
  rintro e w3 ⟨rfl, hb⟩
  have L3 := Lib.hid (bT L2.out hb)
  have XB3 := Lib.hid (XB2.out.keep hb)
  clear hb c0 c1 c2 c3 c4
  obtain ⟨c0, c1, c2, c3, c4⟩ := XB3.out.c4q
  cases q1
  · have HN := Lib.hid (Y1.out rfl)
    go_wp2_with fail
    go_ret
    exact ⟨ret_bool HN.out.symm, L3.out⟩
  · have HN := Lib.hid (Y4.out (by first | rfl | trivial) (by first | rfl | trivial) (by first | rfl | trivial))
    go_wp2_with fail
    refine (isBetween_any _ _ _ _).mono ?_
    rintro e w4 ⟨rfl, rfl⟩
    go_wp2_with fail
    go_ret
    exact ⟨ret_bool HN.out.symm, L3.out⟩
end Go.Proofs.YtpbepibklipfpaaDoor

/-
  The contract of impl.ValidPlate.
-/
import Derived.Test.YtmhheecjpalajaaPlI
namespace Go.Proofs.Ytmhheecjpalajaa
open Go.RowKit

/-- What stands in a round over the sites of a plate. -/
def PlH (W0 : World) (bx nb : Nat) (W H M G : Int) (v : Value) (nm : ByteArray) (x y wh st : Int) (ss : List Sit) (w' : World) : Prop :=
  w'.cell? ⟨bx, 0, none⟩ = some (.int .i64 W) ∧ w'.cell? ⟨bx, 1, none⟩ = some (.int .i64 H) ∧ w'.cell? ⟨bx, 2, none⟩ = some (.int .i64 M) ∧ w'.cell? ⟨bx, 3, none⟩ = some (.int .i64 G) ∧ w'.cell? ⟨bx, 4, none⟩ = some v ∧ w'.cell? ⟨nb, 0, none⟩ = some (.string nm) ∧ w'.cell? ⟨nb, 1, none⟩ = some (.int .i64 x) ∧ w'.cell? ⟨nb, 2, none⟩ = some (.int .i64 y) ∧ w'.cell? ⟨nb, 3, none⟩ = some (.int .i64 wh) ∧ w'.cell? ⟨nb, 4, none⟩ = some (.int .i64 st) ∧ bx < w'.heap.size ∧ nb < w'.heap.size ∧ SlSi w' v ss ∧ Below W0.heap.size W0 w'
theorem PlH.keep {W0 : World} {bx nb : Nat} {W H M G : Int} {v : Value} {nm : ByteArray} {x y wh st : Int} {ss : List Sit} {w' w2 : World} (hb : Below w'.heap.size w' w2) (h : PlH W0 bx nb W H M G v nm x y wh st ss w') : PlH W0 bx nb W H M G v nm x y wh st ss w2 := by
  obtain ⟨a0, a1, a2, a3, a4, c0, c1, c2, c3, c4, e1, e2, e3, e4⟩ := h
  exact ⟨(hb.cell (p := ⟨bx, 0, none⟩) e1).trans a0, (hb.cell (p := ⟨bx, 1, none⟩) e1).trans a1, (hb.cell (p := ⟨bx, 2, none⟩) e1).trans a2, (hb.cell (p := ⟨bx, 3, none⟩) e1).trans a3, (hb.cell (p := ⟨bx, 4, none⟩) e1).trans a4,
    (hb.cell (p := ⟨nb, 0, none⟩) e2).trans c0, (hb.cell (p := ⟨nb, 1, none⟩) e2).trans c1, (hb.cell (p := ⟨nb, 2, none⟩) e2).trans c2, (hb.cell (p := ⟨nb, 3, none⟩) e2).trans c3, (hb.cell (p := ⟨nb, 4, none⟩) e2).trans c4, Nat.lt_of_lt_of_le e1 hb.size, Nat.lt_of_lt_of_le e2 hb.size, e3.keep hb, bT e4 hb⟩
theorem PlH.drew {W0 : World} {bx nb : Nat} {W H M G : Int} {v : Value} {nm : ByteArray} {x y wh st : Int} {ss : List Sit} {w' : World} (h : PlH W0 bx nb W H M G v nm x y wh st ss w') : PlH W0 bx nb W H M G v nm x y wh st ss w'.drew := h.keep (bR _).drew
theorem PlH.of {W0 w' : World} {bx nb : Nat} {W H M G : Int} {v : Value} {nm : ByteArray} {x y wh st : Int} {ss : List Sit} (h : BoxL w' bx [.int .i64 W, .int .i64 H, .int .i64 M, .int .i64 G, v]) (h2 : BoxL w' nb [.string nm, .int .i64 x, .int .i64 y, .int .i64 wh, .int .i64 st]) (h3 : SlSi w' v ss) (h4 : Below W0.heap.size W0 w') : PlH W0 bx nb W H M G v nm x y wh st ss w' := by
  obtain ⟨a0, a1, a2, a3, a4, a5⟩ := h.c5
  obtain ⟨c0, c1, c2, c3, c4, c5⟩ := h2.c5
  exact ⟨a0, a1, a2, a3, a4, c0, c1, c2, c3, c4, a5, c5, h3, h4⟩
set_option maxRecDepth 100000 in
set_option maxHeartbeats 8000000 in
theorem ValidPlateI_any (p : Pl4) (ss : List Sit) (v : Value) (w : World) (ha : SlSi w v ss) :
    Calls Try.prog 50 #[plV p v] w (BoolBel (okPl p.W p.H p.M p.G ss) w) := by
  obtain ⟨W, H, M, G⟩ := p
  obtain ⟨h0, ao, cap, rfl, hcp, hc⟩ := ha
  unfold plV
  simp only
  have X := Lib.hid (BoxL.new w [.int .i64 W, .int .i64 H, .int .i64 M, .int .i64 G, .slice ao ss.length cap] 28)
  have L0 := Lib.hid (bA (bR w) (.cells #[.int .i64 W, .int .i64 H, .int .i64 M, .int .i64 G, .slice ao ss.length cap] 28))
  have HA := Lib.hid (SlSi.keep (show SlSi w (.slice ao ss.length cap) ss from ⟨h0, ao, cap, rfl, hcp, hc⟩) L0.out)
  have HCP := Lib.hid hcp
  clear hc hcp
  cases h1 : inB W 1 10000
  · rw [okPl_n1 h1]
    go_enter Try.func50, Try.ntmps50
    go_wp2_with (go_at_call 72; refine (isBetween_any _ _ _ _).mono ?_; rintro e w1 ⟨rfl, rfl⟩)
    go_ret
    exact ⟨rfl, L0.out⟩
  cases h2 : inB H 1 10000
  · rw [okPl_n2 h2]
    go_enter Try.func50, Try.ntmps50
    go_wp2_with (go_at_call 72; refine (isBetween_any _ _ _ _).mono ?_; rintro e w1 ⟨rfl, rfl⟩)
    go_ret
    exact ⟨rfl, L0.out⟩
  cases h3 : inB M 0 1000
  · rw [okPl_n3 h3]
    go_enter Try.func50, Try.ntmps50
    go_wp2_with (go_at_call 72; refine (isBetween_any _ _ _ _).mono ?_; rintro e w1 ⟨rfl, rfl⟩)
    go_ret
    exact ⟨rfl, L0.out⟩
  cases h4 : inB G 0 1000
  · rw [okPl_n4 h4]
    go_enter Try.func50, Try.ntmps50
    go_wp2_with (go_at_call 72; refine (isBetween_any _ _ _ _).mono ?_; rintro e w1 ⟨rfl, rfl⟩)
    go_ret
    exact ⟨rfl, L0.out⟩
  by_cases h20 : ss.length ≤ 20
  · have h20' : ¬ (20 : Int) < (ss.length : Int) := by omega
    go_enter Try.func50, Try.ntmps50
    go_wp2_with (go_at_call 72; refine (isBetween_any _ _ _ _).mono ?_; rintro e w1 ⟨rfl, rfl⟩)
    generalize w.alloc (.cells #[.int .i64 W, .int .i64 H, .int .i64 M, .int .i64 G, .slice ao ss.length cap] 28) = W0 at *
    generalize w.heap.size = bx at X
    have HGO := Lib.hid (okPl_go (ss := ss) h1 h2 h3 h4 h20)
    clear h1 h2 h3 h4 h20 h20'
    go_loopw [34] (fun i wr => ∃ (k : Nat), k ≤ ss.length ∧ i = .int .i64 k ∧ siK W H ss k ∧ Below W0.heap.size W0 wr) (fun i _ => ss.length - (intOf i).toNat)
    case atStart => exact ⟨0, by omega, rfl, siK_zero _ _ _, bR _⟩
    case round =>
      obtain ⟨k, hk, rfl, hok, hbw⟩ := hrel
      have HK := Lib.hid hok
      have HBW := Lib.hid hbw
      clear hok hbw
      by_cases hlt : k < ss.length
      · have HA1 := Lib.hid (HA.out.keep HBW.out)
        obtain ⟨_, ao', cap', e', _, hc⟩ := HA1.out
        injection e' with e1 e2 e3
        subst e1 e3
        obtain ⟨g, rfl, hg, hc⟩ := hc (by omega)
        obtain ⟨c0, c1, c2, c3, c4, c5⟩ := hc k hlt
        have HSZ := Lib.hid c5
        have HP := Lib.hid (show siAt ss k = ⟨(siAt ss k).nm, (siAt ss k).x, (siAt ss k).y, (siAt ss k).wh, (siAt ss k).st⟩ from rfl)
        have HW := Lib.hid (fun h => okPl_s (W := W) (H := H) (M := M) (G := G) (ss := ss) hlt h)
        have HS1 := Lib.hid (siK_succ (W := W) (H := H) (ss := ss) (k := k) HK.out)
        rw [HP.out] at HW HS1
        clear hc c5
        generalize (siAt ss k).nm = nm at *
        generalize (siAt ss k).x = x at *
        generalize (siAt ss k).y = y at *
        generalize (siAt ss k).wh = wh at *
        generalize (siAt ss k).st = st at *
        go_wp2_with fail
        have HS : PlH W0 bx wr.heap.size W H M G (.slice (some ⟨g, 0, none⟩) ss.length cap) nm x y wh st ss (wr.alloc (.cells #[.string nm, .int .i64 x, .int .i64 y, .int .i64 wh, .int .i64 st] 88)) :=
          PlH.of ((X.out.keep HBW.out).alloc _) (BoxL.new wr [.string nm, .int .i64 x, .int .i64 y, .int .i64 wh, .int .i64 st] 88) (HA1.out.keep (bA (bR _) _)) (bA HBW.out _)
        have HI := Lib.hid (fun W' (h : SlSi W' (.slice (some ⟨g, 0, none⟩) ss.length cap) ss) => containsSi_any (ss.take k) ⟨nm, x, y, wh, st⟩ (.slice (some ⟨g, 0, none⟩) k cap) W' (h.take (by omega)))
        unfold siV at HI
        clear c0 c1 c2 c3 c4 HA1 hg
        generalize wr.alloc (.cells #[.string nm, .int .i64 x, .int .i64 y, .int .i64 wh, .int .i64 st] 88) = W1 at *
        generalize wr.heap.size = nb at *
        have hk0 : (0 : Int) ≤ (k : Int) := by omega
        have hkc : (k : Int) ≤ (cap : Int) := by have := HCP.out; omega
        cases hp : siB W H ⟨nm, x, y, wh, st⟩
        · have HB := Lib.hid hp
          have HN := Lib.hid (HW.out (.inl hp))
          clear hp HW HI HS1 HGO
          refine wp_region_held_drew (S := PlH W0 bx nb W H M G (.slice (some ⟨g, 0, none⟩) ss.length cap) nm x y wh st ss) (by kernel_rfl) HS.drew (fun hHeld => ?_)
          refine wpAnyH_take (i := 0) (oi := { dst := some 39, op := Op.load 28 (Operand.tmp 1), type := 28, pos := "l09_plates.go:84", after := #[], guard := none }) (v := ?_) rfl (by kernel_rfl) (by kernel_rfl) (by kernel_rfl) (fun _ _ _ h => h) (Or.inl ⟨by rfl, ?_⟩) (by assumption) ?_
          rotate_left 1
          · ((intro w hSw; obtain ⟨s1, s2, s3, s4, s5, s6, s7, s8, s9, s10, s11, s12, s13, s14⟩ := hSw; go_simp; try with_reducible rfl))
          (try simp only [Act.put, List.setIfInBounds_toArray, List.set_cons_zero, List.set_cons_succ])
          refine wpAnyH_take (i := 1) (oi := { dst := some 40, op := Op.load 88 (Operand.tmp 4), type := 88, pos := "l09_plates.go:84", after := #[], guard := none }) (v := ?_) rfl (by kernel_rfl) (by kernel_rfl) (by kernel_rfl) (fun _ _ _ h => h) (Or.inl ⟨by rfl, ?_⟩) (by assumption) ?_
          rotate_left 1
          · ((intro w hSw; obtain ⟨s1, s2, s3, s4, s5, s6, s7, s8, s9, s10, s11, s12, s13, s14⟩ := hSw; go_simp; try with_reducible rfl))
          (try simp only [Act.put, List.setIfInBounds_toArray, List.set_cons_zero, List.set_cons_succ])
          refine wpAnyH_ready (rs := [2]) (by kernel_rfl) (by simp) ?_
          refine AllReadyH.cons (o := { dst := some 41, op := Op.call { callee := Callee.value (Operand.func 73), args := #[Operand.tmp 39, Operand.tmp 40], argTypes := #[28, 88] }, type := 4, pos := "l09_plates.go:84", after := #[{ on := 0, ground := Ground.data }, { on := 1, ground := Ground.data }], guard := none }) rfl (fun K hK => ?_) AllReadyH.nil
          go_simp
          go_at_call 73
          refine (allows_any W H M G _ nm x y wh st _ HSZ.out).mono ?_
          rw [HB.out]
          rintro e w' ⟨rfl, hb⟩
          refine hK.out _ _ (PlH.keep hb hHeld) (fun hHeld2 => ?_)
          clear hK K hHeld
          (try simp only [Act.put, List.setIfInBounds_toArray, List.set_cons_zero, List.set_cons_succ])
          refine wpAnyH_take (i := 3) (oi := { dst := some 42, op := Op.unOp UnOp.not 4 (Operand.tmp 41), type := 4, pos := "l09_plates.go:84", after := #[{ on := 2, ground := Ground.data }], guard := none }) (v := ?_) rfl (by kernel_rfl) (by kernel_rfl) (by kernel_rfl) (fun _ _ _ h => h) (Or.inl ⟨by rfl, ?_⟩) (by assumption) ?_
          rotate_left 1
          · ((intro w hSw; obtain ⟨s1, s2, s3, s4, s5, s6, s7, s8, s9, s10, s11, s12, s13, s14⟩ := hSw; go_simp; try with_reducible rfl))
          (try simp only [Act.put, List.setIfInBounds_toArray, List.set_cons_zero, List.set_cons_succ])
          refine wpAnyH_take (i := 4) (oi := { dst := some 43, op := Op.move (Operand.tmp 42), type := 4, pos := "l09_plates.go:84", after := #[{ on := 3, ground := Ground.data }, { on := 2, ground := Ground.chain }], guard := none }) (v := ?_) rfl (by kernel_rfl) (by kernel_rfl) (by kernel_rfl) (fun _ _ _ h => h) (Or.inl ⟨by rfl, ?_⟩) (by assumption) ?_
          rotate_left 1
          · ((intro w hSw; obtain ⟨s1, s2, s3, s4, s5, s6, s7, s8, s9, s10, s11, s12, s13, s14⟩ := hSw; go_simp; try with_reducible rfl))
          (try simp only [Act.put, List.setIfInBounds_toArray, List.set_cons_zero, List.set_cons_succ])
          refine wpAnyH_take (i := 5) (oi := { dst := some 44, op := Op.fieldAddr 28 (Operand.tmp 1) 4, type := 0, pos := "l09_plates.go:84", after := #[{ on := 4, ground := Ground.guard }], guard := some (4, false) }) (v := undef) rfl (by kernel_rfl) (by kernel_rfl) (by kernel_rfl) (fun _ _ _ h => h) (Or.inr ⟨by rfl, rfl⟩) (by assumption) ?_
          (try simp only [Act.put, List.setIfInBounds_toArray, List.set_cons_zero, List.set_cons_succ])
          refine wpAnyH_take (i := 6) (oi := { dst := some 45, op := Op.load 26 (Operand.tmp 44), type := 26, pos := "l09_plates.go:84", after := #[{ on := 5, ground := Ground.data }, { on := 4, ground := Ground.guard }], guard := some (4, false) }) (v := undef) rfl (by kernel_rfl) (by kernel_rfl) (by kernel_rfl) (fun _ _ _ h => h) (Or.inr ⟨by rfl, rfl⟩) (by assumption) ?_
          (try simp only [Act.put, List.setIfInBounds_toArray, List.set_cons_zero, List.set_cons_succ])
          refine wpAnyH_take (i := 7) (oi := { dst := some 46, op := Op.move (Operand.tmp 3), type := 3, pos := "l09_plates.go:84", after := #[{ on := 4, ground := Ground.guard }], guard := some (4, false) }) (v := undef) rfl (by kernel_rfl) (by kernel_rfl) (by kernel_rfl) (fun _ _ _ h => h) (Or.inr ⟨by rfl, rfl⟩) (by assumption) ?_
          (try simp only [Act.put, List.setIfInBounds_toArray, List.set_cons_zero, List.set_cons_succ])
          refine wpAnyH_take (i := 8) (oi := { dst := some 47, op := Op.slice 26 (Operand.tmp 45) none (some (Operand.tmp 46)) none, type := 26, pos := "l09_plates.go:84", after := #[{ on := 6, ground := Ground.data }, { on := 7, ground := Ground.data }, { on := 4, ground := Ground.guard }], guard := some (4, false) }) (v := undef) rfl (by kernel_rfl) (by kernel_rfl) (by kernel_rfl) (fun _ _ _ h => h) (Or.inr ⟨by rfl, rfl⟩) (by assumption) ?_
          (try simp only [Act.put, List.setIfInBounds_toArray, List.set_cons_zero, List.set_cons_succ])
          refine wpAnyH_take (i := 9) (oi := { dst := some 48, op := Op.load 88 (Operand.tmp 4), type := 88, pos := "l09_plates.go:84", after := #[{ on := 4, ground := Ground.guard }], guard := some (4, false) }) (v := undef) rfl (by kernel_rfl) (by kernel_rfl) (by kernel_rfl) (fun _ _ _ h => h) (Or.inr ⟨by rfl, rfl⟩) (by assumption) ?_
          (try simp only [Act.put, List.setIfInBounds_toArray, List.set_cons_zero, List.set_cons_succ])
          refine wpAnyH_take (i := 10) (oi := { dst := some 49, op := Op.makeFunc (Fn.func 75) #[Operand.tmp 48] #[], type := 111, pos := "l09_plates.go:84", after := #[{ on := 9, ground := Ground.data }, { on := 4, ground := Ground.guard }], guard := some (4, false) }) (v := undef) rfl (by kernel_rfl) (by kernel_rfl) (by kernel_rfl) (fun _ _ _ h => h) (Or.inr ⟨by rfl, rfl⟩) (by assumption) ?_
          (try simp only [Act.put, List.setIfInBounds_toArray, List.set_cons_zero, List.set_cons_succ])
          refine wpAnyH_take (i := 11) (oi := { dst := some 50, op := Op.call { callee := Callee.value (Operand.func 74), args := #[Operand.tmp 47, Operand.tmp 49], argTypes := #[26, 111] }, type := 4, pos := "l09_plates.go:84", after := #[{ on := 8, ground := Ground.data }, { on := 10, ground := Ground.data }, { on := 4, ground := Ground.chain }, { on := 4, ground := Ground.guard }], guard := some (4, false) }) (v := undef) rfl (by kernel_rfl) (by kernel_rfl) (by kernel_rfl) (fun _ _ _ h => h) (Or.inr ⟨by rfl, rfl⟩) (by assumption) ?_
          (try simp only [Act.put, List.setIfInBounds_toArray, List.set_cons_zero, List.set_cons_succ])
          refine wpAnyH_take (i := 12) (oi := { dst := some 51, op := Op.pick (Operand.tmp 43) (Operand.const (Value.bool true)) (Operand.tmp 50), type := 4, pos := "l09_plates.go:84", after := #[{ on := 4, ground := Ground.data }, { on := 11, ground := Ground.data }], guard := none }) (v := ?_) rfl (by kernel_rfl) (by kernel_rfl) (by kernel_rfl) (fun _ _ _ h => h) (Or.inl ⟨by rfl, ?_⟩) (by assumption) ?_
          rotate_left 1
          · ((intro w hSw; obtain ⟨s1, s2, s3, s4, s5, s6, s7, s8, s9, s10, s11, s12, s13, s14⟩ := hSw; go_simp; try with_reducible rfl))
          (try simp only [Act.put, List.setIfInBounds_toArray, List.set_cons_zero, List.set_cons_succ])
          refine wpAnyH_done (by kernel_rfl) ?_ _
          have HU := Lib.hid hHeld2.2.2.2.2.2.2.2.2.2.2.2.2.2
          clear hHeld2
          go_wp2_with fail
          go_ret
          exact ⟨ret_bool HN.out.symm, bT L0.out HU.out⟩
        · have HB := Lib.hid hp
          cases hown : hasN (ss.take k) nm
          · rw [hown] at HI
            have HSK := Lib.hid (HS1.out hp hown)
            clear hp hown HW
            go_region_held3 (fun w' => w'.cell? ⟨bx, 0, none⟩ = some (.int .i64 W) ∧ w'.cell? ⟨bx, 1, none⟩ = some (.int .i64 H) ∧ w'.cell? ⟨bx, 2, none⟩ = some (.int .i64 M) ∧ w'.cell? ⟨bx, 3, none⟩ = some (.int .i64 G) ∧ w'.cell? ⟨bx, 4, none⟩ = some (.slice (some ⟨g, 0, none⟩) ss.length cap) ∧ w'.cell? ⟨nb, 0, none⟩ = some (.string nm) ∧ w'.cell? ⟨nb, 1, none⟩ = some (.int .i64 x) ∧ w'.cell? ⟨nb, 2, none⟩ = some (.int .i64 y) ∧ w'.cell? ⟨nb, 3, none⟩ = some (.int .i64 wh) ∧ w'.cell? ⟨nb, 4, none⟩ = some (.int .i64 st) ∧ bx < w'.heap.size ∧ nb < w'.heap.size ∧ SlSi w' (.slice (some ⟨g, 0, none⟩) ss.length cap) ss ∧ Below W0.heap.size W0 w') (first | exact HS.drew | exact PlH.keep hb (by first | assumption | exact HS.drew))
                (first
                  | (go_at_call 73; refine (allows_any W H M G _ nm x y wh st _ HSZ.out).mono ?_; rw [HB.out]; rintro e w' ⟨rfl, hb⟩)
                  | (go_at_call 74; have hS : PlH W0 bx nb W H M G (.slice (some ⟨g, 0, none⟩) ss.length cap) nm x y wh st ss _ := (by assumption); refine (HI.out _ hS.2.2.2.2.2.2.2.2.2.2.2.2.1).mono ?_; clear hS; rintro e w' ⟨rfl, hb⟩))
            have HT' : PlH W0 bx nb W H M G (.slice (some ⟨g, 0, none⟩) ss.length cap) nm x y wh st ss w' := by assumption
            have HU := Lib.hid HT'.2.2.2.2.2.2.2.2.2.2.2.2.2
            clear hb HT' HS
            go_wp2_with fail
            go_roundw
            case rel => exact ⟨k + 1, by omega, by go_num, HSK.out, HU.out⟩
            case measure => simp [intOf]; omega
          · rw [hown] at HI
            have HN := Lib.hid (HW.out (.inr hown))
            clear hp hown HW
            go_region_held3 (fun w' => w'.cell? ⟨bx, 0, none⟩ = some (.int .i64 W) ∧ w'.cell? ⟨bx, 1, none⟩ = some (.int .i64 H) ∧ w'.cell? ⟨bx, 2, none⟩ = some (.int .i64 M) ∧ w'.cell? ⟨bx, 3, none⟩ = some (.int .i64 G) ∧ w'.cell? ⟨bx, 4, none⟩ = some (.slice (some ⟨g, 0, none⟩) ss.length cap) ∧ w'.cell? ⟨nb, 0, none⟩ = some (.string nm) ∧ w'.cell? ⟨nb, 1, none⟩ = some (.int .i64 x) ∧ w'.cell? ⟨nb, 2, none⟩ = some (.int .i64 y) ∧ w'.cell? ⟨nb, 3, none⟩ = some (.int .i64 wh) ∧ w'.cell? ⟨nb, 4, none⟩ = some (.int .i64 st) ∧ bx < w'.heap.size ∧ nb < w'.heap.size ∧ SlSi w' (.slice (some ⟨g, 0, none⟩) ss.length cap) ss ∧ Below W0.heap.size W0 w') (first | exact HS.drew | exact PlH.keep hb (by first | assumption | exact HS.drew))
                (first
                  | (go_at_call 73; refine (allows_any W H M G _ nm x y wh st _ HSZ.out).mono ?_; rw [HB.out]; rintro e w' ⟨rfl, hb⟩)
                  | (go_at_call 74; have hS : PlH W0 bx nb W H M G (.slice (some ⟨g, 0, none⟩) ss.length cap) nm x y wh st ss _ := (by assumption); refine (HI.out _ hS.2.2.2.2.2.2.2.2.2.2.2.2.1).mono ?_; clear hS; rintro e w' ⟨rfl, hb⟩))
            have HT' : PlH W0 bx nb W H M G (.slice (some ⟨g, 0, none⟩) ss.length cap) nm x y wh st ss w' := by assumption
            have HU := Lib.hid HT'.2.2.2.2.2.2.2.2.2.2.2.2.2
            clear hb HT' HS
            go_wp2_with fail
            go_ret
            exact ⟨ret_bool HN.out.symm, bT L0.out HU.out⟩
      · obtain rfl : k = ss.length := by omega
        have HR := Lib.hid (HGO.out HK.out)
        go_wp2_with fail
        go_ret
        exact ⟨ret_bool HR.out.symm, bT L0.out HBW.out⟩
  · have h20' : (20 : Int) < (ss.length : Int) := by omega
    rw [okPl_n5 h20]
    go_enter Try.func50, Try.ntmps50
    go_wp2_with (go_at_call 72; refine (isBetween_any _ _ _ _).mono ?_; rintro e w1 ⟨rfl, rfl⟩)
    go_ret
    exact ⟨rfl, L0.out⟩
end Go.Proofs.Ytmhheecjpalajaa

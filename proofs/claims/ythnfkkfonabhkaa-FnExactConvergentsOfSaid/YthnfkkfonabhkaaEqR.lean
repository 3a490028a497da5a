/-
  The contracts of laws.eqRatioS, laws.markRatioS, laws.heldRatioS.
-/
import Derived.Test.YthnfkkfonabhkaaPr
import Derived.Test.YthnfkkfonabhkaaCarry
import Derived.Deep.QuietTactic
import Derived.Deep.RegionHeld3
import Derived.BigQuiet
namespace Go.Proofs.Ythnfkkfonabhkaa
open Go.RowKit

/-- What stands in the round of a comparison. -/
def EqH (w : World) (g g2 o : Nat) (x y : Int) (w' : World) : Prop :=
  w'.cell? ⟨g, o, none⟩ = some (.int .i64 x) ∧ w'.cell? ⟨g, o + 1, none⟩ = some (.int .i64 y) ∧ w'.cell? ⟨g2, o, none⟩ = some (.int .i64 x) ∧ w'.cell? ⟨g2, o + 1, none⟩ = some (.int .i64 y) ∧ g < w'.heap.size ∧ g2 < w'.heap.size ∧ Below w.heap.size w w'
theorem EqH.drew {w : World} {g g2 o : Nat} {x y : Int} {w' : World} (h : EqH w g g2 o x y w') : EqH w g g2 o x y w'.drew := ⟨h.1, h.2.1, h.2.2.1, h.2.2.2.1, h.2.2.2.2.1, h.2.2.2.2.2.1, h.2.2.2.2.2.2.drew⟩
theorem EqH.keep {w : World} {g g2 o : Nat} {x y : Int} {w' w2 : World} (hb : Below w'.heap.size w' w2) (h : EqH w g g2 o x y w') : EqH w g g2 o x y w2 := by
  obtain ⟨h1, h2, h3, h4, h5, h6, h7⟩ := h
  exact ⟨(hb.cell (p := ⟨g, o, none⟩) h5).trans h1, (hb.cell (p := ⟨g, o + 1, none⟩) h5).trans h2, (hb.cell (p := ⟨g2, o, none⟩) h6).trans h3, (hb.cell (p := ⟨g2, o + 1, none⟩) h6).trans h4, Nat.lt_of_lt_of_le h5 hb.size, Nat.lt_of_lt_of_le h6 hb.size, bT h7 hb⟩
def BoolBel (b : Bool) (w : World) (e : Ending) (w' : World) : Prop := e = .returned (.bool b) ∧ Below w.heap.size w w'
set_option maxHeartbeats 1000000 in
theorem eqRatioS_same (ps : List (Int × Int)) (va vb : Value) (w : World) (ha : SlP w va ps) (hb : SlP w vb ps) (hmax : ps.length ≤ 1000000000000) :
    Calls Try.prog 26 #[va, vb] w (BoolBel true w) := by
  obtain ⟨ao, cap, rfl, ha⟩ := ha
  obtain ⟨bo, bcap, rfl, hb⟩ := hb
  have HA := Lib.hid ha
  have HB := Lib.hid hb
  clear ha hb
  have hne : ((ps.length : Int) != (ps.length : Int)) = false := by simp
  go_enter Try.func26, Try.ntmps26
  go_wp2_with fail
  go_loopw [5] (fun i wr => ∃ (k : Nat), k ≤ ps.length ∧ i = .int .i64 k ∧ Below w.heap.size w wr) (fun i _ => ps.length - (intOf i).toNat)
  case atStart => exact ⟨0, by omega, rfl, bR _⟩
  case round =>
    obtain ⟨k, hk, rfl, hbw⟩ := hrel
    by_cases hlt : k < ps.length
    · obtain ⟨g, rfl, hg, hc⟩ := HA.out (by omega)
      obtain ⟨g2, rfl, hg2, hc2⟩ := HB.out (by omega)
      obtain ⟨c1, c2⟩ := (hc.keep hg hbw) k hlt
      obtain ⟨d1, d2⟩ := (hc2.keep hg2 hbw) k hlt
      have hs := hbw.size
      have hg' : g < wr.heap.size := by omega
      have hg2' : g2 < wr.heap.size := by omega
      have HBW := Lib.hid hbw
      clear hc hc2 HA HB hbw
      generalize (pat ps k).1 = x at *
      generalize (pat ps k).2 = y at *
      have HS : EqH w g g2 (k * 2) x y wr := ⟨c1, c2, d1, d2, hg', hg2', HBW.out⟩
      go_wp2_with fail
      go_region_held3 (fun w' => w'.cell? ⟨g, k * 2, none⟩ = some (.int .i64 x) ∧ w'.cell? ⟨g, k * 2 + 1, none⟩ = some (.int .i64 y) ∧ w'.cell? ⟨g2, k * 2, none⟩ = some (.int .i64 x) ∧ w'.cell? ⟨g2, k * 2 + 1, none⟩ = some (.int .i64 y) ∧ g < w'.heap.size ∧ g2 < w'.heap.size ∧ Below w.heap.size w w') (first | exact HS.drew | exact EqH.keep hb (by assumption))
        ((go_at_call 31; refine (eqRatio_same _ _ _).mono ?_; rintro e w' ⟨rfl, hb⟩))
      have HT : EqH w g g2 (k * 2) x y w' := by assumption
      have HU := Lib.hid HT.2.2.2.2.2.2
      clear hb HT HS
      go_wp2_with fail
      go_roundw
      case rel => exact ⟨k + 1, by omega, by go_num, HU.out⟩
      case measure => simp [intOf]; omega
    · go_wp2_with fail
      go_ret
      exact ⟨rfl, hbw⟩
def HeldRet (k : Int) (len : Nat) (w : World) (e : Ending) (w' : World) : Prop := e = .returned (.int .i64 (k + 2 * (len : Int))) ∧ w = w'
set_option maxHeartbeats 1000000 in
theorem heldRatioS_same (k : Int) (len : Nat) (v : Value) (w : World) (ha : SlP w v (mkP k len)) (hmax : len ≤ 1000000000000) (h1 : 0 ≤ k) (h2 : k ≤ 1000000000000) :
    Calls Try.prog 28 #[v, .int .i64 k] w (HeldRet k len w) := by
  obtain ⟨ao, cap, rfl, ha⟩ := ha
  rw [mkP_len] at ha ⊢
  have HA := Lib.hid ha
  clear ha
  go_enter Try.func28, Try.ntmps28
  go_wp2_with fail
  go_loop [1, 5] (fun q i => ∃ (j : Nat), j ≤ len ∧ i = .int .i64 j ∧ q = .int .i64 (k + 2 * (j : Int))) (fun _ i => len - (intOf i).toNat)
  case atStart => exact ⟨0, by omega, rfl, by simp⟩
  case round =>
    obtain ⟨j, hj, rfl, rfl⟩ := hrel
    by_cases hlt : j < len
    · obtain ⟨g, rfl, hg, hc⟩ := HA.out (by omega)
      have hcj := hc j (by rw [mkP_len]; exact hlt)
      rw [mkP_at hlt] at hcj
      obtain ⟨c1, c2⟩ := hcj
      have hne2 : (k + 2 * (j : Int) != k + 2 * (j : Int)) = false := by simp
      have hne3 : (k + 2 * (j : Int) + 1 != k + 2 * (j : Int) + 1) = false := by simp
      clear hc HA
      go_wp2_with fail
      go_round
      case rel => exact ⟨j + 1, by omega, by go_num, by go_num⟩
      case measure => simp [intOf]; omega
    · obtain rfl : j = len := by omega
      go_wp2_with fail
      go_ret
      exact ⟨rfl, rfl⟩
def MarkPRet (w : World) (B : Nat) (t : TypeId) (v : Value) (k : Int) (len : Nat) (e : Ending) (w' : World) : Prop :=
  e = .returned (.int .i64 (k + 2 * (len : Int))) ∧ w'.ownsRow B t 2 v (mkP k len).length (pairC (mkP k len)) ∧ w.grownBy w' v.ownBlock
def MarkPRel (w : World) (B : Nat) (t : TypeId) (g cap : Nat) (k : Int) (ps : List (Int × Int)) (q i : Value) (wr : World) : Prop :=
  ∃ (j : Nat), j ≤ ps.length ∧ i = .int .i64 j ∧ q = .int .i64 (k + 2 * (j : Int)) ∧ wr.ownsRow B t 2 (.slice (some ⟨g, 0, none⟩) ps.length cap) ps.length (pairC (mkW k j ps)) ∧ w.grownBy wr (some g)
set_option maxHeartbeats 1000000 in
theorem markRatioS_any (k : Int) (ps : List (Int × Int)) (B : Nat) (v : Value) (w : World) (hv : w.ownsRow B 25 2 v ps.length (pairC ps)) (hmax : ps.length ≤ 1000000000000) (h1 : 0 ≤ k) (h2 : k ≤ 1000000000000) :
    Calls Try.prog 27 #[v, .int .i64 k] w (MarkPRet w B 25 v k ps.length) := by
  rcases hv.2 with ⟨rfl, h0⟩ | ⟨g, cap, cur, rfl, hB, hh, r⟩
  · have e : ps.length = 0 := h0
    rw [e]
    clear hv h0 e hmax
    go_enter Try.func27, Try.ntmps27
    go_wp2_with fail
    go_loop [1, 5] (fun q i => i = .int .i64 0 ∧ q = .int .i64 k) (fun _ _ => 0)
    case atStart => exact ⟨rfl, rfl⟩
    case round =>
      obtain ⟨rfl, rfl⟩ := hrel
      go_wp2_with fail
      go_ret
      exact ⟨ret_int (by simp), World.ownsRow_nil _ _ _ _, ⟨rfl, rfl, rfl, Nat.le_refl _, fun _ _ _ => rfl⟩⟩
  · have RS := Lib.hid (show MarkPRel w B 25 g cap k ps (.int .i64 k) (.int .i64 0) w from ⟨0, by omega, rfl, by simp, by simpa [mkW, mkP] using hv, ⟨rfl, rfl, rfl, Nat.le_refl _, fun _ _ _ => rfl⟩⟩)
    clear hv r hh
    go_enter Try.func27, Try.ntmps27
    go_wp2_with fail
    go_loopw [1, 5] (fun q i wr => MarkPRel w B 25 g cap k ps q i wr) (fun _ i _ => ps.length - (intOf i).toNat)
    case atStart => exact RS.out
    case round =>
      obtain ⟨j, hj, rfl, rfl, hrow, hgr⟩ := hrel
      have HW := Lib.hid hrow
      have HG := Lib.hid hgr
      by_cases hlt : j < ps.length
      · have hl := mkW_len (k := k) hj
        have hrow' : wr.ownsRow B 25 2 (.slice (some ⟨g, 0, none⟩) (mkW k j ps).length cap) (mkW k j ps).length (pairC (mkW k j ps)) := by rw [hl]; exact hrow
        obtain ⟨c1, c2⟩ := own_pairs hrow' j (by omega)
        have f1 : wr.frozen? ⟨g, j * 2, none⟩ = false := hrow.frozenAt (j * 2)
        have f2 : wr.frozen? ⟨g, j * 2 + 1, none⟩ = false := hrow.frozenAt (j * 2 + 1)
        have NR := Lib.hid ((((HW.out.stored (j * 2) (.int .i64 (k + 2 * (j : Int)))).1).stored (j * 2 + 1) (.int .i64 (k + 2 * (j : Int) + 1))).1)
        have NG := Lib.hid ((HW.out.stored (j * 2) (.int .i64 (k + 2 * (j : Int)))).2)
        have NG2 := Lib.hid ((((HW.out.stored (j * 2) (.int .i64 (k + 2 * (j : Int)))).1).stored (j * 2 + 1) (.int .i64 (k + 2 * (j : Int) + 1))).2)
        clear hrow hgr hrow' hl
        have HN := Lib.hid (show MarkPRel w B 25 g cap k ps (.int .i64 (k + 2 * (j : Int) + 1 + 1)) (.int .i64 ((j : Int) + 1)) ((wr.setCell ⟨g, j * 2, none⟩ (.int .i64 (k + 2 * (j : Int)))).setCell ⟨g, j * 2 + 1, none⟩ (.int .i64 (k + 2 * (j : Int) + 1))) from by
          refine ⟨j + 1, hlt, by go_num, by go_num, ?_, ?_⟩
          · rw [← mkW_cells hlt]; exact NR.out
          · have h1 := NG.out
            have h2 := NG2.out
            exact ⟨h2.os.trans (h1.os.trans HG.out.os), h2.tape.trans (h1.tape.trans HG.out.tape), h2.output.trans (h1.output.trans HG.out.output), Nat.le_trans HG.out.size (Nat.le_trans h1.size h2.size), fun a ha hn => (h2.block a (Nat.lt_of_lt_of_le ha (Nat.le_trans HG.out.size h1.size)) hn).trans ((h1.block a (Nat.lt_of_lt_of_le ha HG.out.size) hn).trans (HG.out.block a ha hn))⟩)
        go_wp2_with fail
        exact ⟨HN.out, by simp [intOf]; omega⟩
      · obtain rfl : j = ps.length := by omega
        clear hrow hgr
        go_wp2_with fail
        go_ret
        refine ⟨rfl, ?_, HG.out⟩
        have := HW.out
        unfold mkW at this
        rw [List.drop_of_length_le (Nat.le_refl _), List.append_nil] at this
        rw [mkP_len]; exact this
end Go.Proofs.Ythnfkkfonabhkaa

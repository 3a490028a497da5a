/-
  The contracts of laws.eqStringS, laws.markStringS, laws.heldStringS.
-/
import Derived.Test.YtcklcledchboiaaDoorMkT
import Derived.Test.YtcklcledchboiaaDoorPr
import Derived.Deep.RegionHeld3
namespace Go.Proofs.YtcklcledchboiaaDoor
open Go.RowKit

def sat (ps : List ByteArray) (i : Nat) : ByteArray := ps[i]?.getD ⟨#[]⟩
theorem strC_len (ps : List ByteArray) : (strC ps).length = ps.length := by simp [strC]
theorem strC_at {ps : List ByteArray} {i : Nat} (h : i < ps.length) : (strC ps)[i]? = some (.string (sat ps i)) := by
  unfold strC sat; rw [List.getElem?_map, List.getElem?_eq_getElem h]; rfl
/-- A slice reads as a list of texts. -/
def TextsAt (W : World) (g : Nat) (ps : List ByteArray) : Prop := ∀ i, i < ps.length → W.cell? ⟨g, i, none⟩ = some (.string (sat ps i))
theorem TextsAt.keep {W W' : World} {g : Nat} {ps : List ByteArray} (h : TextsAt W g ps) (hg : g < W.heap.size) (hb : Below W.heap.size W W') : TextsAt W' g ps := fun i hi => (hb.cell (p := ⟨g, i, none⟩) hg).trans (h i hi)
def SlS (W : World) (v : Value) (ps : List ByteArray) : Prop := ∃ ao cap, v = .slice ao ps.length cap ∧ (1 ≤ ps.length → ∃ g, ao = some ⟨g, 0, none⟩ ∧ g < W.heap.size ∧ TextsAt W g ps)
theorem own_texts {W : World} {B : Nat} {t : TypeId} {g cap : Nat} {ps : List ByteArray} (h : W.ownsRow B t 1 (.slice (some ⟨g, 0, none⟩) ps.length cap) ps.length (strC ps)) : TextsAt W g ps := fun i hi => (h.cellAt i (by omega)).trans (strC_at hi)
theorem slS_of {W : World} {B : Nat} {t : TypeId} {v : Value} {ps : List ByteArray} (h : W.ownsRow B t 1 v ps.length (strC ps)) : SlS W v ps := by
  rcases h.2 with ⟨rfl, h0⟩ | ⟨g, cap, cur, rfl, hB, hh, _⟩
  · exact ⟨none, 0, by rw [h0], fun h1 => by omega⟩
  · exact ⟨_, cap, rfl, fun _ => ⟨g, rfl, (Array.getElem?_eq_some_iff.1 hh).1, own_texts h⟩⟩
theorem SlS.keep {W W' : World} {v : Value} {ps : List ByteArray} (h : SlS W v ps) (hb : Below W.heap.size W W') : SlS W' v ps := by
  obtain ⟨ao, cap, e, h1⟩ := h
  refine ⟨ao, cap, e, fun hl => ?_⟩
  obtain ⟨g, eg, hg, hc⟩ := h1 hl
  exact ⟨g, eg, Nat.lt_of_lt_of_le hg hb.size, hc.keep hg hb⟩
def DrewR (v : Value) (w : World) (e : Ending) (w' : World) : Prop := e = .returned v ∧ ∃ n, w' = w.drewN n
set_option maxHeartbeats 1000000 in
theorem eqStringS_same (ps : List ByteArray) (va vb : Value) (w : World) (ha : SlS w va ps) (hb : SlS w vb ps) (hmax : ps.length ≤ 1000000000000) :
    Calls Tryd.prog 25 #[va, vb] w (DrewR (.bool true) w) := by
  obtain ⟨ao, cap, rfl, ha⟩ := ha
  obtain ⟨bo, bcap, rfl, hb⟩ := hb
  have HA := Lib.hid ha
  have HB := Lib.hid hb
  clear ha hb
  have hne : ((ps.length : Int) != (ps.length : Int)) = false := by simp
  go_enter Tryd.func25, Tryd.ntmps25
  go_wp2_with fail
  go_loopw [5] (fun i wr => ∃ (k : Nat) (n : Nat), k ≤ ps.length ∧ i = .int .i64 k ∧ wr = w.drewN n) (fun i _ => ps.length - (intOf i).toNat)
  case atStart => exact ⟨0, 0, by omega, rfl, rfl⟩
  case round =>
    obtain ⟨k, n, hk, rfl, rfl⟩ := hrel
    by_cases hlt : k < ps.length
    · obtain ⟨g, rfl, hg, hc⟩ := HA.out (by omega)
      obtain ⟨g2, rfl, hg2, hc2⟩ := HB.out (by omega)
      have c1 : w.cell? ⟨g, k, none⟩ = some (.string (sat ps k)) := hc k hlt
      have c2 : w.cell? ⟨g2, k, none⟩ = some (.string (sat ps k)) := hc2 k hlt
      generalize sat ps k = x at *
      clear hc hc2 HA HB
      go_wp2_with fail
      go_quiet (fail)
      go_wp2_with fail
      go_roundw
      case rel => exact ⟨k + 1, _, by omega, by go_num, rfl⟩
      case measure => simp [intOf]; omega
    · go_wp2_with fail
      go_ret
      exact ⟨rfl, n, rfl⟩
/-- The marks from k on. -/
def mkS (k i : Nat) : List ByteArray := (List.range i).map fun j => mkT (k + j)
theorem mkS_len (k i : Nat) : (mkS k i).length = i := by simp [mkS]
theorem mkS_at {k i j : Nat} (h : j < i) : sat (mkS k i) j = mkT (k + j) := by
  unfold sat mkS; rw [List.getElem?_map, List.getElem?_range h]; rfl
theorem mkS_set (k i : Nat) (ps : List ByteArray) (h : i < ps.length) : (mkS k i ++ ps.drop i).set i (mkT (k + i)) = mkS k (i + 1) ++ ps.drop (i + 1) := by
  rw [List.set_append_right _ _ (by rw [mkS_len]; exact Nat.le_refl _), mkS_len, Nat.sub_self, List.drop_eq_getElem_cons h, List.set_cons_zero]
  simp [mkS, List.range_succ]
theorem strC_set (ps : List ByteArray) (i : Nat) (x : ByteArray) : strC (ps.set i x) = (strC ps).set i (.string x) := by simp [strC, List.map_set]
/-- What stands in a round of the look for marks. -/
def HsH (w : World) (g j : Nat) (x : ByteArray) (w' : World) : Prop := w'.cell? ⟨g, j, none⟩ = some (.string x) ∧ g < w'.heap.size ∧ Below w.heap.size w w'
theorem HsH.drew {w : World} {g j : Nat} {x : ByteArray} {w' : World} (h : HsH w g j x w') : HsH w g j x w'.drew := ⟨h.1, h.2.1, h.2.2.drew⟩
theorem HsH.keep {w : World} {g j : Nat} {x : ByteArray} {w' w2 : World} (hb : Below w'.heap.size w' w2) (h : HsH w g j x w') : HsH w g j x w2 :=
  ⟨(hb.cell (p := ⟨g, j, none⟩) h.2.1).trans h.1, Nat.lt_of_lt_of_le h.2.1 hb.size, bT h.2.2 hb⟩
def BelR (v : Value) (w : World) (e : Ending) (w' : World) : Prop := e = .returned v ∧ Below w.heap.size w w'
set_option maxHeartbeats 1000000 in
theorem heldStringS_same (k len : Nat) (v : Value) (w : World) (ha : SlS w v (mkS k len)) (hmax : len ≤ 100000000) (h1 : 1 ≤ k) (h2 : k ≤ 100000000) :
    Calls Tryd.prog 27 #[v, .int .i64 (k : Int)] w (BelR (.int .i64 ((k + len : Nat) : Int)) w) := by
  obtain ⟨ao, cap, rfl, ha⟩ := ha
  rw [mkS_len] at ha ⊢
  have HA := Lib.hid ha
  clear ha
  go_enter Tryd.func27, Tryd.ntmps27
  go_wp2_with fail
  go_loopw [1, 5] (fun q i wr => ∃ (j : Nat), j ≤ len ∧ i = .int .i64 j ∧ q = .int .i64 ((k + j : Nat) : Int) ∧ Below w.heap.size w wr) (fun _ i _ => len - (intOf i).toNat)
  case atStart => exact ⟨0, by omega, rfl, by simp, bR _⟩
  case round =>
    obtain ⟨j, hj, rfl, rfl, hb⟩ := hrel
    have HB := Lib.hid hb
    have hsz := hb.size
    clear hb
    by_cases hlt : j < len
    · obtain ⟨g, rfl, hg, hc⟩ := HA.out (by omega)
      have hcj := (hc.keep hg HB.out) j (by rw [mkS_len]; exact hlt)
      rw [mkS_at hlt] at hcj
      have hg' : g < wr.heap.size := by omega
      have HM := Lib.hid (fun (W : World) => markText_any (k + j) W (by omega) (by omega))
      generalize mkT (k + j) = x at *
      clear hc HA
      have HS : HsH w g j x wr := ⟨hcj, hg', HB.out⟩
      go_wp2_with fail
      go_region_held3 (fun w' => w'.cell? ⟨g, j, none⟩ = some (.string x) ∧ g < w'.heap.size ∧ Below w.heap.size w w') (first | exact HS.drew | exact HsH.keep hb (by assumption))
        ((go_at_call 71; refine (HM.out _).mono ?_; rintro e w' ⟨rfl, hb⟩))
      have HT : HsH w g j x w' := by assumption
      have HU := Lib.hid HT.2.2
      clear hb HT HS
      go_wp2_with fail
      go_roundw
      case rel => exact ⟨j + 1, by omega, by go_num, by go_num, HU.out⟩
      case measure => simp [intOf]; omega
    · obtain rfl : j = len := by omega
      go_wp2_with fail
      go_ret
      exact ⟨rfl, HB.out⟩
def MarkSRet (w : World) (B : Nat) (v : Value) (k len : Nat) (e : Ending) (w' : World) : Prop :=
  e = .returned (.int .i64 ((k + len : Nat) : Int)) ∧ w'.ownsRow B 9 1 v (mkS k len).length (strC (mkS k len)) ∧ w.grownBy w' v.ownBlock
def MarkSRel (w : World) (B g cap : Nat) (k : Nat) (ps : List ByteArray) (q i : Value) (wr : World) : Prop :=
  ∃ (j : Nat), j ≤ ps.length ∧ i = .int .i64 j ∧ q = .int .i64 ((k + j : Nat) : Int) ∧ wr.ownsRow B 9 1 (.slice (some ⟨g, 0, none⟩) ps.length cap) ps.length (strC (mkS k j ++ ps.drop j)) ∧ w.grownBy wr (some g)
set_option maxHeartbeats 1000000 in
theorem markStringS_any (k : Nat) (ps : List ByteArray) (B : Nat) (v : Value) (w : World) (hv : w.ownsRow B 9 1 v ps.length (strC ps)) (hmax : ps.length ≤ 100000000) (h1 : 1 ≤ k) (h2 : k ≤ 100000000) :
    Calls Tryd.prog 26 #[v, .int .i64 (k : Int)] w (MarkSRet w B v k ps.length) := by
  rcases hv.2 with ⟨rfl, h0⟩ | ⟨g, cap, cur, rfl, hB, hh, r⟩
  · have e : ps.length = 0 := h0
    rw [e]
    clear hv h0 e hmax
    go_enter Tryd.func26, Tryd.ntmps26
    go_wp2_with fail
    go_loop [1, 5] (fun q i => i = .int .i64 0 ∧ q = .int .i64 (k : Int)) (fun _ _ => 0)
    case atStart => exact ⟨rfl, rfl⟩
    case round =>
      obtain ⟨rfl, rfl⟩ := hrel
      go_wp2_with fail
      go_ret
      exact ⟨ret_int (by simp), World.ownsRow_nil _ _ _ _, ⟨rfl, rfl, rfl, Nat.le_refl _, fun _ _ _ => rfl⟩⟩
  · have RS := Lib.hid (show MarkSRel w B g cap k ps (.int .i64 (k : Int)) (.int .i64 0) w from ⟨0, by omega, rfl, by simp, by simpa [mkS] using hv, ⟨rfl, rfl, rfl, Nat.le_refl _, fun _ _ _ => rfl⟩⟩)
    clear hv r hh
    go_enter Tryd.func26, Tryd.ntmps26
    go_wp2_with fail
    go_loopw [1, 5] (fun q i wr => MarkSRel w B g cap k ps q i wr) (fun _ i _ => ps.length - (intOf i).toNat)
    case atStart => exact RS.out
    case round =>
      obtain ⟨j, hj, rfl, rfl, hrow, hgr⟩ := hrel
      have HW := Lib.hid hrow
      have HG := Lib.hid hgr
      clear hrow hgr
      by_cases hlt : j < ps.length
      · go_wp2_with fail
        refine (markText_any (k + j) _ (by omega) (by omega)).mono ?_
        rintro e w2 ⟨rfl, hb2⟩
        have hrow2 := own_keep HW.out hb2
        have c1 : ∃ u, w2.cell? ⟨g, j, none⟩ = some (.string u) := by
          have := hrow2.cellAt j (by omega)
          have hl : (mkS k j ++ ps.drop j).length = ps.length := by rw [List.length_append, mkS_len, List.length_drop]; omega
          exact ⟨_, this.trans (strC_at (by omega))⟩
        obtain ⟨u, c1⟩ := c1
        have f1 : w2.frozen? ⟨g, j, none⟩ = false := hrow2.frozenAt j
        have NR := Lib.hid ((hrow2.stored j (.string (mkT (k + j)))).1)
        have NG := Lib.hid ((hrow2.stored j (.string (mkT (k + j)))).2)
        have HB2 := Lib.hid hb2
        clear hrow2 hb2
        have HN := Lib.hid (show MarkSRel w B g cap k ps (.int .i64 (((k + j : Nat) : Int) + 1)) (.int .i64 ((j : Int) + 1)) (w2.setCell ⟨g, j, none⟩ (.string (mkT (k + j)))) from by
          refine ⟨j + 1, hlt, by go_num, by go_num, ?_, ?_⟩
          · rw [← mkS_set k j ps hlt, strC_set]; exact NR.out
          · have h1 := HB2.out
            have h2 := NG.out
            have h3 := HG.out
            exact ⟨h2.os.trans (h1.os.trans h3.os), h2.tape.trans (h1.tape.trans h3.tape), h2.output.trans (h1.output.trans h3.output), Nat.le_trans h3.size (Nat.le_trans h1.size h2.size), fun a ha hn => (h2.block a (Nat.lt_of_lt_of_le ha (Nat.le_trans h3.size h1.size)) hn).trans ((h1.block a (Nat.lt_of_lt_of_le ha h3.size)).trans (h3.block a ha hn))⟩)
        go_wp2_with fail
        exact ⟨by simpa using HN.out, by simp [intOf]; omega⟩
      · obtain rfl : j = ps.length := by omega
        go_wp2_with fail
        go_ret
        refine ⟨rfl, ?_, HG.out⟩
        have := HW.out
        rw [List.drop_of_length_le (Nat.le_refl _), List.append_nil] at this
        rw [mkS_len]; exact this
end Go.Proofs.YtcklcledchboiaaDoor

/-
  The contracts of laws.eqInt64S, laws.markInt64S, laws.heldInt64S.
-/
import Derived.Test.YtmmmbchlkjljaaaOwn
import Derived.Laws.OwnMore
import Derived.Deep.QuietTactic
import Derived.BigQuiet
namespace Go.Proofs.Ytmmmbchlkjljaaa
open Go.RowKit

/-- A slice reads as a list of numbers. -/
def Sl64 (W : World) (v : Value) (ts : List Int) : Prop := ∃ ao cap, v = .slice ao ts.length cap ∧ (1 ≤ ts.length → ∃ g, ao = some ⟨g, 0, none⟩ ∧ g < W.heap.size ∧ IntsAt W g ts)
theorem sl64_of {W : World} {B : Nat} {v : Value} {ts : List Int} (h : W.ownsRow B 2 1 v ts.length (intC ts)) : Sl64 W v ts := by
  rcases h.2 with ⟨rfl, h0⟩ | ⟨g, cap, cur, rfl, hB, hh, _⟩
  · exact ⟨none, 0, by rw [h0], fun h1 => by omega⟩
  · refine ⟨_, cap, rfl, fun _ => ⟨g, rfl, (Array.getElem?_eq_some_iff.1 hh).1, fun i hi => ?_⟩⟩
    rw [h.cellAt i (by omega)]
    unfold intC at0
    rw [List.getElem?_map, List.getElem?_eq_getElem hi]; rfl
theorem Sl64.keep {W W' : World} {v : Value} {ts : List Int} (h : Sl64 W v ts) (hb : Below W.heap.size W W') : Sl64 W' v ts := by
  obtain ⟨ao, cap, e, h1⟩ := h
  refine ⟨ao, cap, e, fun hl => ?_⟩
  obtain ⟨g, eg, hg, hc⟩ := h1 hl
  exact ⟨g, eg, Nat.lt_of_lt_of_le hg hb.size, hc.keep hg hb⟩
def DrewRet (v : Value) (w : World) (e : Ending) (w' : World) : Prop := e = .returned v ∧ ∃ n, w' = w.drewN n
set_option maxHeartbeats 1000000 in
theorem eq64_same (ts : List Int) (va vb : Value) (w : World) (ha : Sl64 w va ts) (hb : Sl64 w vb ts) (hmax : ts.length ≤ 1000000000000) :
    Calls Try.prog 15 #[va, vb] w (DrewRet (.bool true) w) := by
  obtain ⟨ao, cap, rfl, ha⟩ := ha
  obtain ⟨bo, bcap, rfl, hb⟩ := hb
  have HA := Lib.hid ha
  have HB := Lib.hid hb
  clear ha hb
  have hne : ((ts.length : Int) != (ts.length : Int)) = false := by simp
  go_enter Try.func15, Try.ntmps15
  go_wp2_with fail
  go_loopw [5] (fun i wr => ∃ (k : Nat) (n : Nat), k ≤ ts.length ∧ i = .int .i64 k ∧ wr = w.drewN n) (fun i _ => ts.length - (intOf i).toNat)
  case atStart => exact ⟨0, 0, by omega, rfl, rfl⟩
  case round =>
    obtain ⟨k, n, hk, rfl, rfl⟩ := hrel
    by_cases hlt : k < ts.length
    · obtain ⟨g, rfl, hg, hc⟩ := HA.out (by omega)
      obtain ⟨g2, rfl, hg2, hc2⟩ := HB.out (by omega)
      have c1 : w.cell? ⟨g, k, none⟩ = some (.int .i64 (at0 ts k)) := hc k hlt
      have c2 : w.cell? ⟨g2, k, none⟩ = some (.int .i64 (at0 ts k)) := hc2 k hlt
      have hne2 : (at0 ts k != at0 ts k) = false := by simp
      clear hc hc2 HA HB
      go_wp2_with fail
      go_quiet (fail)
      go_wp2_with fail
      go_roundw
      case rel => exact ⟨k + 1, _, by omega, by go_num, rfl⟩
      case measure => simp [intOf]; omega
    · go_wp2_with fail
      go_ret
      exact ⟨rfl, n, rfl⟩
/-- The numbers from k on. -/
def mk64 (k : Int) (i : Nat) : List Int := (List.range i).map (fun j : Nat => k + (j : Int))
theorem mk64_len (k : Int) (i : Nat) : (mk64 k i).length = i := by simp [mk64]
theorem mk64_at {k : Int} {i j : Nat} (h : j < i) : at0 (mk64 k i) j = k + (j : Int) := by
  unfold at0 mk64; rw [List.getElem?_map, List.getElem?_range h]; rfl
theorem mk64_set (k : Int) (i : Nat) (ts : List Int) (h : i < ts.length) : (mk64 k i ++ ts.drop i).set i (k + (i : Int)) = mk64 k (i + 1) ++ ts.drop (i + 1) := by
  rw [List.set_append_right _ _ (by rw [mk64_len]; exact Nat.le_refl _), mk64_len, Nat.sub_self, List.drop_eq_getElem_cons h, List.set_cons_zero]
  simp [mk64, List.range_succ]
theorem intC_set (ts : List Int) (i : Nat) (x : Int) : intC (ts.set i x) = (intC ts).set i (.int .i64 x) := by simp [intC, List.map_set]
set_option maxHeartbeats 1000000 in
theorem held64_same (k : Int) (len : Nat) (v : Value) (w : World) (ha : Sl64 w v (mk64 k len)) (hmax : len ≤ 1000000000000) (h1 : 0 ≤ k) (h2 : k ≤ 1000000000000) :
    Calls Try.prog 19 #[v, .int .i64 k] w fun e w' => e = .returned (.int .i64 (k + (len : Int))) ∧ w = w' := by
  obtain ⟨ao, cap, rfl, ha⟩ := ha
  rw [mk64_len] at ha ⊢
  have HA := Lib.hid ha
  clear ha
  go_enter Try.func19, Try.ntmps19
  go_wp2_with fail
  go_loop [1, 5] (fun q i => ∃ (j : Nat), j ≤ len ∧ i = .int .i64 j ∧ q = .int .i64 (k + (j : Int))) (fun _ i => len - (intOf i).toNat)
  case atStart => exact ⟨0, by omega, rfl, by simp⟩
  case round =>
    obtain ⟨j, hj, rfl, rfl⟩ := hrel
    by_cases hlt : j < len
    · obtain ⟨g, rfl, hg, hc⟩ := HA.out (by omega)
      have c1 : w.cell? ⟨g, j, none⟩ = some (.int .i64 (k + (j : Int))) := by rw [hc j (by rw [mk64_len]; exact hlt), mk64_at hlt]
      have hne2 : (k + (j : Int) != k + (j : Int)) = false := by simp
      clear hc HA
      go_wp2_with fail
      go_round
      case rel => exact ⟨j + 1, by omega, by go_num, by go_num⟩
      case measure => simp [intOf]; omega
    · obtain rfl : j = len := by omega
      go_wp2_with fail
      go_ret
      exact ⟨rfl, rfl⟩
def MarkRet (w : World) (B : Nat) (v : Value) (k : Int) (len : Nat) (e : Ending) (w' : World) : Prop :=
  e = .returned (.int .i64 (k + (len : Int))) ∧ w'.ownsRow B 2 1 v (mk64 k len).length (intC (mk64 k len)) ∧ w.grownBy w' v.ownBlock
def MarkRel (w : World) (B g cap : Nat) (k : Int) (ts : List Int) (q i : Value) (wr : World) : Prop :=
  ∃ (j : Nat), j ≤ ts.length ∧ i = .int .i64 j ∧ q = .int .i64 (k + (j : Int)) ∧ wr.ownsRow B 2 1 (.slice (some ⟨g, 0, none⟩) ts.length cap) ts.length (intC (mk64 k j ++ ts.drop j)) ∧ w.grownBy wr (some g)
set_option maxHeartbeats 1000000 in
theorem mark64_any (k : Int) (ts : List Int) (B : Nat) (v : Value) (w : World) (hv : w.ownsRow B 2 1 v ts.length (intC ts)) (hmax : ts.length ≤ 1000000000000) (h1 : 0 ≤ k) (h2 : k ≤ 1000000000000) :
    Calls Try.prog 18 #[v, .int .i64 k] w (MarkRet w B v k ts.length) := by
  rcases hv.2 with ⟨rfl, h0⟩ | ⟨g, cap, cur, rfl, hB, hh, r⟩
  · have e : ts.length = 0 := h0
    rw [e]
    clear hv h0 e hmax
    go_enter Try.func18, Try.ntmps18
    go_wp2_with fail
    go_loop [1, 5] (fun q i => i = .int .i64 0 ∧ q = .int .i64 k) (fun _ _ => 0)
    case atStart => exact ⟨rfl, rfl⟩
    case round =>
      obtain ⟨rfl, rfl⟩ := hrel
      go_wp2_with fail
      go_ret
      exact ⟨ret_int (by simp), World.ownsRow_nil _ _ _ _, ⟨rfl, rfl, rfl, Nat.le_refl _, fun _ _ _ => rfl⟩⟩
  · have RS := Lib.hid (show MarkRel w B g cap k ts (.int .i64 k) (.int .i64 0) w from ⟨0, by omega, rfl, by simp, by simpa [mk64] using hv, ⟨rfl, rfl, rfl, Nat.le_refl _, fun _ _ _ => rfl⟩⟩)
    clear hv r hh
    go_enter Try.func18, Try.ntmps18
    go_wp2_with fail
    go_loopw [1, 5] (fun q i wr => MarkRel w B g cap k ts q i wr) (fun _ i _ => ts.length - (intOf i).toNat)
    case atStart => exact RS.out
    case round =>
      obtain ⟨j, hj, rfl, rfl, hrow, hgr⟩ := hrel
      have HW := Lib.hid hrow
      have HG := Lib.hid hgr
      by_cases hlt : j < ts.length
      · have c1 : ∃ u, wr.cell? ⟨g, j, none⟩ = some (.int .i64 u) := by
          have := hrow.cellAt j (by omega)
          have hl : (mk64 k j ++ ts.drop j).length = ts.length := by rw [List.length_append, mk64_len, List.length_drop]; omega
          refine ⟨(mk64 k j ++ ts.drop j)[j]'(by omega), ?_⟩
          rw [this]; unfold intC; rw [List.getElem?_map, List.getElem?_eq_getElem (by omega)]; rfl
        obtain ⟨u, c1⟩ := c1
        have f1 : wr.frozen? ⟨g, j, none⟩ = false := hrow.frozenAt j
        have NR := Lib.hid ((HW.out.stored j (.int .i64 (k + (j : Int)))).1)
        have NG := Lib.hid ((HW.out.stored j (.int .i64 (k + (j : Int)))).2)
        clear hrow hgr
        go_wp2_with fail
        go_roundw
        case rel =>
          refine ⟨j + 1, by omega, by go_num, by go_num, ?_, ?_⟩
          · rw [← mk64_set k j ts hlt, intC_set]; exact NR.out
          · exact ⟨NG.out.os.trans HG.out.os, NG.out.tape.trans HG.out.tape, NG.out.output.trans HG.out.output, Nat.le_trans HG.out.size NG.out.size, fun a ha hn => (NG.out.block a (Nat.lt_of_lt_of_le ha HG.out.size) hn).trans (HG.out.block a ha hn)⟩
        case measure => simp [intOf]; omega
      · obtain rfl : j = ts.length := by omega
        clear hrow hgr
        go_wp2_with fail
        go_ret
        refine ⟨rfl, ?_, HG.out⟩
        have := HW.out
        rw [List.drop_of_length_le (Nat.le_refl _), List.append_nil] at this
        rw [mk64_len]; exact this
end Go.Proofs.Ytmmmbchlkjljaaa

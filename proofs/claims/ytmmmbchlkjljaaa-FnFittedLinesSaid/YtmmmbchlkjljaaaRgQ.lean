/-
  Readings: the contracts of laws.toReading, szReadingS, eqReading, eqReadingS, heldReadingS, markReadingS, toReadingS.
-/
import Derived.Test.YtmmmbchlkjljaaaEqP
namespace Go.Proofs.Ytmmmbchlkjljaaa
open Go.RowKit

theorem toReading_any (n d : Int) (w : World) :
    Calls Try.prog 54 #[.agg #[.int .i64 n, .int .i64 d]] w fun e w' => e = .returned (.agg #[.int .i64 n, .int .i64 d]) ∧ Below w.heap.size w w' := by
  go_enter Try.func54, Try.ntmps54
  go_wp2
  exact bodyPost_ret (v := .agg #[.int .i64 n, .int .i64 d]) (by simp [results, Try.results54, go_sem]) rfl ⟨rfl, bA (bA (bA (bR _) _) _) _⟩
theorem eqReading_same (n d : Int) (w : World) :
    Calls Try.prog 58 #[.agg #[.int .i64 n, .int .i64 d], .agg #[.int .i64 n, .int .i64 d]] w fun e w' => e = .returned (.bool true) ∧ Below w.heap.size w w' := by
  have h1 : (n != n) = false := by simp
  have h2 : (d != d) = false := by simp
  go_enter Try.func58, Try.ntmps58
  go_wp2_with fail
  go_ret
  exact ⟨rfl, bA (bA (bR _) _) _⟩
set_option maxHeartbeats 1000000 in
theorem eqReadingS_same (ps : List (Int × Int)) (va vb : Value) (w : World) (ha : SlP w va ps) (hb : SlP w vb ps) (hmax : ps.length ≤ 1000000000000) :
    Calls Try.prog 16 #[va, vb] w (BoolBel true w) := by
  obtain ⟨ao, cap, rfl, ha⟩ := ha
  obtain ⟨bo, bcap, rfl, hb⟩ := hb
  have HA := Lib.hid ha
  have HB := Lib.hid hb
  clear ha hb
  have hne : ((ps.length : Int) != (ps.length : Int)) = false := by simp
  go_enter Try.func16, Try.ntmps16
  go_wp2_with fail
  go_loopw [5] (fun i wr => ∃ (k : Nat), k ≤ ps.length ∧ i = .int .i64 k ∧ Below w.heap.size w wr) (fun i _ => ps.length - (intOf i).toNat)
  case atStart => exact ⟨0, by omega, rfl, bR _⟩
  case round =>
    obtain ⟨k, hk, rfl, hbw⟩ := hrel
    by_cases hlt : k < ps.length
    · obtain ⟨g, rfl, hg, hc⟩ := HA.out (by omega)
      obtain ⟨g2, rfl, hg2, hc2⟩ := HB.out (by omega)
      obtain ⟨c1, c2⟩ := (hc.keep hg hbw) k hlt
      obtain ⟨d1, d2⟩ := (hc2.keep hg2 hbw) k hlt
      have hs := hbw.size
      have hg' : g < wr.heap.size := by omega
      have hg2' : g2 < wr.heap.size := by omega
      have HBW := Lib.hid hbw
      clear hc hc2 HA HB hbw
      generalize (pat ps k).1 = x at *
      generalize (pat ps k).2 = y at *
      have HS : EqH w g g2 (k * 2) x y wr := ⟨c1, c2, d1, d2, hg', hg2', HBW.out⟩
      go_wp2_with fail
      go_region_held3 (fun w' => w'.cell? ⟨g, k * 2, none⟩ = some (.int .i64 x) ∧ w'.cell? ⟨g, k * 2 + 1, none⟩ = some (.int .i64 y) ∧ w'.cell? ⟨g2, k * 2, none⟩ = some (.int .i64 x) ∧ w'.cell? ⟨g2, k * 2 + 1, none⟩ = some (.int .i64 y) ∧ g < w'.heap.size ∧ g2 < w'.heap.size ∧ Below w.heap.size w w') (first | exact HS.drew | exact EqH.keep hb (by assumption))
        ((go_at_call 58; refine (eqReading_same _ _ _).mono ?_; rintro e w' ⟨rfl, hb⟩))
      have HT : EqH w g g2 (k * 2) x y w' := by assumption
      have HU := Lib.hid HT.2.2.2.2.2.2
      clear hb HT HS
      go_wp2_with fail
      go_roundw
      case rel => exact ⟨k + 1, by omega, by go_num, HU.out⟩
      case measure => simp [intOf]; omega
    · go_wp2_with fail
      go_ret
      exact ⟨rfl, hbw⟩
set_option maxHeartbeats 1000000 in
theorem markReadingS_any (k : Int) (ps : List (Int × Int)) (B : Nat) (v : Value) (w : World) (hv : w.ownsRow B 53 2 v ps.length (pairC ps)) (hmax : ps.length ≤ 1000000000000) (h1 : 0 ≤ k) (h2 : k ≤ 1000000000000) :
    Calls Try.prog 17 #[v, .int .i64 k] w (MarkPRet w B 53 v k ps.length) := by
  rcases hv.2 with ⟨rfl, h0⟩ | ⟨g, cap, cur, rfl, hB, hh, r⟩
  · have e : ps.length = 0 := h0
    rw [e]
    clear hv h0 e hmax
    go_enter Try.func17, Try.ntmps17
    go_wp2_with fail
    go_loop [1, 5] (fun q i => i = .int .i64 0 ∧ q = .int .i64 k) (fun _ _ => 0)
    case atStart => exact ⟨rfl, rfl⟩
    case round =>
      obtain ⟨rfl, rfl⟩ := hrel
      go_wp2_with fail
      go_ret
      exact ⟨ret_int (by simp), World.ownsRow_nil _ _ _ _, ⟨rfl, rfl, rfl, Nat.le_refl _, fun _ _ _ => rfl⟩⟩
  · have RS := Lib.hid (show MarkPRel w B 53 g cap k ps (.int .i64 k) (.int .i64 0) w from ⟨0, by omega, rfl, by simp, by simpa [mkW, mkP] using hv, ⟨rfl, rfl, rfl, Nat.le_refl _, fun _ _ _ => rfl⟩⟩)
    clear hv r hh
    go_enter Try.func17, Try.ntmps17
    go_wp2_with fail
    go_loopw [1, 5] (fun q i wr => MarkPRel w B 53 g cap k ps q i wr) (fun _ i _ => ps.length - (intOf i).toNat)
    case atStart => exact RS.out
    case round =>
      obtain ⟨j, hj, rfl, rfl, hrow, hgr⟩ := hrel
      have HW := Lib.hid hrow
      have HG := Lib.hid hgr
      by_cases hlt : j < ps.length
      · have hl := mkW_len (k := k) hj
        have hrow' : wr.ownsRow B 53 2 (.slice (some ⟨g, 0, none⟩) (mkW k j ps).length cap) (mkW k j ps).length (pairC (mkW k j ps)) := by rw [hl]; exact hrow
        obtain ⟨c1, c2⟩ := own_pairs hrow' j (by omega)
        have f1 : wr.frozen? ⟨g, j * 2, none⟩ = false := hrow.frozenAt (j * 2)
        have f2 : wr.frozen? ⟨g, j * 2 + 1, none⟩ = false := hrow.frozenAt (j * 2 + 1)
        have NR := Lib.hid ((((HW.out.stored (j * 2) (.int .i64 (k + 2 * (j : Int)))).1).stored (j * 2 + 1) (.int .i64 (k + 2 * (j : Int) + 1))).1)
        have NG := Lib.hid ((HW.out.stored (j * 2) (.int .i64 (k + 2 * (j : Int)))).2)
        have NG2 := Lib.hid ((((HW.out.stored (j * 2) (.int .i64 (k + 2 * (j : Int)))).1).stored (j * 2 + 1) (.int .i64 (k + 2 * (j : Int) + 1))).2)
        clear hrow hgr hrow' hl
        have HN := Lib.hid (show MarkPRel w B 53 g cap k ps (.int .i64 (k + 2 * (j : Int) + 1 + 1)) (.int .i64 ((j : Int) + 1)) ((wr.setCell ⟨g, j * 2, none⟩ (.int .i64 (k + 2 * (j : Int)))).setCell ⟨g, j * 2 + 1, none⟩ (.int .i64 (k + 2 * (j : Int) + 1))) from by
          refine ⟨j + 1, hlt, by go_num, by go_num, ?_, ?_⟩
          · rw [← mkW_cells hlt]; exact NR.out
          · have h1 := NG.out
            have h2 := NG2.out
            exact ⟨h2.os.trans (h1.os.trans HG.out.os), h2.tape.trans (h1.tape.trans HG.out.tape), h2.output.trans (h1.output.trans HG.out.output), Nat.le_trans HG.out.size (Nat.le_trans h1.size h2.size), fun a ha hn => (h2.block a (Nat.lt_of_lt_of_le ha (Nat.le_trans HG.out.size h1.size)) hn).trans ((h1.block a (Nat.lt_of_lt_of_le ha HG.out.size) hn).trans (HG.out.block a ha hn))⟩)
        go_wp2_with fail
        exact ⟨HN.out, by simp [intOf]; omega⟩
      · obtain rfl : j = ps.length := by omega
        clear hrow hgr
        go_wp2_with fail
        go_ret
        refine ⟨rfl, ?_, HG.out⟩
        have := HW.out
        unfold mkW at this
        rw [List.drop_of_length_le (Nat.le_refl _), List.append_nil] at this
        rw [mkP_len]; exact this

theorem szReadingS_no (a : Option Addr) (len cap : Nat) (n : Int) (w : World) (h : n < (len : Int)) (h0 : 0 ≤ n) (h1 : n ≤ 1048576) (h2 : len ≤ 9223372036854775807) :
    Calls Try.prog 11 #[.slice a len cap, .int .i64 n] w fun e w' => e = .returned (.int .i64 (-1)) ∧ w = w' := by
  have h' : n - (len : Int) < 0 := by omega
  go_enter Try.func11, Try.ntmps11
  go_wp2_with fail
  go_ret
  exact ⟨rfl, rfl⟩
theorem szReadingS_yes (a : Option Addr) (len cap : Nat) (n : Int) (w : World) (h : (len : Int) ≤ n) (h0 : 0 ≤ n) (h1 : n ≤ 1048576) :
    Calls Try.prog 11 #[.slice a len cap, .int .i64 n] w fun e w' => e = .returned (.int .i64 (n - (len : Int))) ∧ w = w' := by
  have h' : ¬ n - (len : Int) < 0 := by omega
  go_enter Try.func11, Try.ntmps11
  go_wp2_with fail
  go_ret
  exact ⟨rfl, rfl⟩

theorem infoReading : (Try.prog.info? 53).map (fun i => (i.zero, i.size, i.bytes)) = some (some (.agg #[.int .i64 0, .int .i64 0]), 2, 16) := by kernel_rfl
def ToSgRel (w : World) (ps : List (Int × Int)) (i : Value) (wr : World) : Prop :=
  ∃ j : Nat, j ≤ ps.length ∧ i = .int .i64 j ∧ wr.ownsRow w.heap.size 53 2 (.slice (some ⟨w.heap.size, 0, none⟩) ps.length ps.length) ps.length (pairC (ps.take j ++ List.replicate (ps.length - j) (0, 0))) ∧ Below w.heap.size w wr
def ToSgRet (w : World) (ps : List (Int × Int)) (e : Ending) (w' : World) : Prop := e = .returned (.slice (some ⟨w.heap.size, 0, none⟩) ps.length ps.length) ∧ w'.ownsRow w.heap.size 53 2 (.slice (some ⟨w.heap.size, 0, none⟩) ps.length ps.length) ps.length (pairC ps) ∧ Below w.heap.size w w'
set_option maxHeartbeats 2000000 in
theorem toReadingS_any (a : Option Addr) (len cap : Nat) (ps : List (Int × Int)) (w : World) (h : IsPR w a len cap ps) (hlen : len ≤ 1048576) :
    Calls Try.prog 13 #[.slice a len cap] w (ToSgRet w ps) := by
  obtain ⟨i0, hi, hz0, hz1, hz2⟩ := info_parts infoReading
  obtain ⟨⟨l1, l2⟩, l3, _, hc⟩ := h
  subst l3
  have HC := Lib.hid hc
  clear hc l1 l2
  go_enter Try.func13, Try.ntmps13
  go_wp2_with (at_make; refine wpList_make_full _ rfl _ _ 27 rfl w.heap.size 53 i0 (.agg #[.int .i64 0, .int .i64 0]) 2 Try.underlying27 hi hz0 hz1 .i64 .i64 _ _ ps.length rfl rfl rfl rfl ?m1 ?m2 (Nat.le_refl _) ?_)
  case m1 => rw [hz2]; omega
  case m2 => unfold maxLen; omega
  intro w1 hown hg
  rw [made_pairs] at hown
  have RS := Lib.hid (show ToSgRel w ps (.int .i64 0) w1 from ⟨0, by omega, rfl, by simpa using hown, grownP_low hg⟩)
  clear hown hg
  go_wp2_with fail
  go_loopw [4] (fun i wr => ToSgRel w ps i wr) (fun i _ => ps.length - (intOf i).toNat)
  case atStart => exact RS.out
  case round =>
    obtain ⟨j, hj, rfl, hrow, hb⟩ := hrel
    have HW := Lib.hid hrow
    have HB := Lib.hid hb
    by_cases hlt : j < ps.length
    · obtain ⟨xb, xo, rfl, hx, hc1, hc2⟩ := HC.out j hlt
      have c0 : wr.cell? ⟨xb, xo + j * 2, none⟩ = some (.int .i64 (pat ps j).1) := (hb.cell (p := ⟨xb, xo + j * 2, none⟩) hx).trans hc1
      have c1 : wr.cell? ⟨xb, xo + j * 2 + 1, none⟩ = some (.int .i64 (pat ps j).2) := (hb.cell (p := ⟨xb, xo + j * 2 + 1, none⟩) hx).trans hc2
      have f1 : wr.frozen? ⟨w.heap.size, j * 2, none⟩ = false := hrow.frozenAt (j * 2)
      have f2 : wr.frozen? ⟨w.heap.size, j * 2 + 1, none⟩ = false := hrow.frozenAt (j * 2 + 1)
      have hsz : w.heap.size < wr.heap.size := by
        rcases hrow.2 with ⟨h0, _⟩ | ⟨g', cap', cur, h0, hg, hh, _⟩
        · cases h0
        · cases h0; exact (Array.getElem?_eq_some_iff.1 hh).1
      clear hrow hb hc1 hc2 HC
      go_wp2_with fail
      refine (toReading_any _ _ _).mono ?_
      rintro e w2 ⟨rfl, hb2⟩
      have f1' : w2.frozen? ⟨w.heap.size, j * 2, none⟩ = false := (hb2.frozen (p := ⟨w.heap.size, j * 2, none⟩) hsz).trans f1
      have f2' : w2.frozen? ⟨w.heap.size, j * 2 + 1, none⟩ = false := (hb2.frozen (p := ⟨w.heap.size, j * 2 + 1, none⟩) hsz).trans f2
      have W2 := Lib.hid (own_keep HW.out hb2)
      have NR := Lib.hid ((((W2.out.stored (j * 2) (.int .i64 (pat ps j).1)).1).stored (j * 2 + 1) (.int .i64 (pat ps j).2)).1)
      have B2 := Lib.hid (bT HB.out hb2)
      obtain ⟨x1, e1⟩ : ∃ u, w2.cell? ⟨w.heap.size, j * 2, none⟩ = some (.int .i64 u) := ⟨_, (own_pairs (ps := ps.take j ++ List.replicate (ps.length - j) (0, 0)) (by rw [toP_len (by omega)]; exact W2.out) j (by rw [toP_len (by omega)]; exact hlt)).1⟩
      obtain ⟨x2, e2⟩ : ∃ u, w2.cell? ⟨w.heap.size, j * 2 + 1, none⟩ = some (.int .i64 u) := ⟨_, (own_pairs (ps := ps.take j ++ List.replicate (ps.length - j) (0, 0)) (by rw [toP_len (by omega)]; exact W2.out) j (by rw [toP_len (by omega)]; exact hlt)).2⟩
      clear hb2 c0 c1 f1 f2 hsz HW HB
      go_wp2_with fail
      go_roundw
      case rel => exact ⟨j + 1, by omega, by go_num, by rw [← toP_cells hlt]; exact NR.out, (B2.out.setCell (by simp) _).setCell (by simp) _⟩
      case measure => simp [intOf]; omega
    · obtain rfl : j = ps.length := by omega
      clear hrow hb
      go_wp2_with fail
      go_ret
      refine ⟨rfl, ?_, HB.out⟩
      have := HW.out
      rw [List.take_of_length_le (Nat.le_refl _), Nat.sub_self, List.replicate_zero, List.append_nil] at this
      exact this
end Go.Proofs.Ytmmmbchlkjljaaa

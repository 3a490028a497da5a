/-
  The model's conversions of works: laws.toArborS, toMesh, toMeshS, toWorks.
-/
import Derived.Test.YtnijbbligkmefaaWkC
namespace Go.Proofs.Ytnijbbligkmefaa
open Go.RowKit

def ToARel (w : World) (rs : List Arb) (i : Value) (wr : World) : Prop :=
  ∃ (j : Nat) (xs : List Value), j ≤ rs.length ∧ i = .int .i64 j ∧ xs.length = rs.length * 2 ∧ wr.ownsRow w.heap.size 42 2 (.slice (some ⟨w.heap.size, 0, none⟩) rs.length rs.length) rs.length xs ∧
    (∀ i, i < j → xs[i * 2]? = some (.string (arAt rs i).1) ∧ ∃ u, xs[i * 2 + 1]? = some u ∧ SlF (w.heap.size + 1) wr u (arAt rs i).2) ∧ Below w.heap.size w wr
def ToARet (w : World) (rs : List Arb) (e : Ending) (w' : World) : Prop := ∃ u, e = .returned u ∧ SlAB w.heap.size w' u rs ∧ Below w.heap.size w w'
set_option maxHeartbeats 4000000 in
theorem toArborS_any (a : Option Addr) (len cap : Nat) (rs : List Arb) (w : World) (h : IsAr w a len cap rs) (hlen : rs.length ≤ 1048576) (hwh : ∀ i, i < rs.length → (arAt rs i).2.length ≤ 1048576) :
    Calls Try.prog 47 #[.slice a len cap] w (ToARet w rs) := by
  obtain ⟨i0, hi, hz0, hz1, hz2⟩ := info_parts infoArb
  obtain ⟨⟨l1, l2⟩, l3, hc⟩ := h
  subst l3
  have HC := Lib.hid hc
  have HWH := Lib.hid hwh
  clear hc l1 l2 hwh
  go_enter Try.func47, Try.ntmps47
  go_wp2_with (at_make; refine wpList_make_full _ rfl _ _ 28 rfl w.heap.size 42 i0 (.agg #[.string ByteArray.empty, .slice none 0 0]) 2 Try.underlying28 hi hz0 hz1 .i64 .i64 _ _ rs.length rfl rfl rfl rfl ?m1 ?m2 (Nat.le_refl _) ?_)
  case m1 => rw [hz2]; omega
  case m2 => unfold maxLen; omega
  intro w1 hown hg
  have RS := Lib.hid (show ToARel w rs (.int .i64 0) w1 from ⟨0, _, by omega, rfl, made_len _ _, by simpa using hown, fun i hi => absurd hi (Nat.not_lt_zero _), grown_low hg⟩)
  clear hown hg
  go_wp2_with fail
  go_loopw [4] (fun i wr => ToARel w rs i wr) (fun i _ => rs.length - (intOf i).toNat)
  case atStart => exact RS.out
  case round =>
    obtain ⟨j, xs, hj, rfl, hxl, hrow, hall, hb⟩ := hrel
    have HW := Lib.hid hrow
    have HB := Lib.hid hb
    have HX := Lib.hid hall
    by_cases hlt : j < rs.length
    · obtain ⟨xb, xo, u, rfl, hx, hc0, hc1, hs, hu⟩ := HC.out j hlt
      have c0 : wr.cell? ⟨xb, xo + j * 2, none⟩ = some (.string (arAt rs j).1) := (hb.cell (p := ⟨xb, xo + j * 2, none⟩) hx).trans hc0
      have c1 : wr.cell? ⟨xb, xo + j * 2 + 1, none⟩ = some u := (hb.cell (p := ⟨xb, xo + j * 2 + 1, none⟩) hx).trans hc1
      have HU := Lib.hid (hu.keep hb)
      have HL := Lib.hid (HWH.out j hlt)
      have HP := Lib.hid (show arAt rs j = ((arAt rs j).1, (arAt rs j).2) from rfl)
      have hsz : w.heap.size < wr.heap.size := (own_blk hrow _ rfl).2
      have f1 : wr.frozen? ⟨w.heap.size, j * 2, none⟩ = false := hrow.frozenAt (j * 2)
      have f2 : wr.frozen? ⟨w.heap.size, j * 2 + 1, none⟩ = false := hrow.frozenAt (j * 2 + 1)
      clear hrow hb hall hc0 hc1 hu HC HWH hs
      generalize (arAt rs j).1 = s at *
      generalize (arAt rs j).2 = ts at *
      go_wp2_with fail
      refine (toArbor_any s u ts _ HU.out HL.out).mono ?_
      rintro e w2 ⟨v, rfl, hv, hb2⟩
      obtain ⟨ao, vc, rfl, _⟩ := id (hv.low hsz)
      have f1' : w2.frozen? ⟨w.heap.size, j * 2, none⟩ = false := (hb2.frozen (p := ⟨w.heap.size, j * 2, none⟩) hsz).trans f1
      have f2' : w2.frozen? ⟨w.heap.size, j * 2 + 1, none⟩ = false := (hb2.frozen (p := ⟨w.heap.size, j * 2 + 1, none⟩) hsz).trans f2
      have W2 := Lib.hid (own_keep HW.out hb2)
      have NR := Lib.hid ((((W2.out.stored (j * 2) (.string s)).1).stored (j * 2 + 1) (.slice ao ts.length vc)).1)
      have B2 := Lib.hid (bT HB.out hb2)
      have HV := Lib.hid (hv.low hsz)
      have HX2 := Lib.hid (show ∀ i, i < j → xs[i * 2]? = some (.string (arAt rs i).1) ∧ ∃ u, xs[i * 2 + 1]? = some u ∧ SlF (w.heap.size + 1) w2 u (arAt rs i).2 from fun i hi => by
        obtain ⟨a1, u, a2, a3⟩ := HX.out i hi
        exact ⟨a1, u, a2, a3.keep hb2⟩)
      obtain ⟨x1, e1⟩ : ∃ u, w2.cell? ⟨w.heap.size, j * 2, none⟩ = some u := ⟨xs[j * 2]'(by omega), (W2.out.cellAt (j * 2) (by omega)).trans (List.getElem?_eq_getElem (by omega))⟩
      obtain ⟨x2, e2⟩ : ∃ u, w2.cell? ⟨w.heap.size, j * 2 + 1, none⟩ = some u := ⟨xs[j * 2 + 1]'(by omega), (W2.out.cellAt (j * 2 + 1) (by omega)).trans (List.getElem?_eq_getElem (by omega))⟩
      clear hb2 c0 c1 f1 f2 hsz HW HB HX HU HL hv
      go_wp2_with fail
      go_roundw
      case rel =>
        obtain ⟨s1, s2, s3⟩ := set2_at (xs := xs) (j := j) (u := .string s) (v := .slice ao ts.length vc) (by omega)
        refine ⟨j + 1, _, by omega, by go_num, by simp [hxl], NR.out, fun i hi => ?_, (B2.out.setCell (by simp) _).setCell (by simp) _⟩
        by_cases e : i = j
        · rw [e, HP.out]; exact ⟨s1, _, s2, (HV.out.other (by omega)).other (by omega)⟩
        · obtain ⟨a1, u, a2, a3⟩ := HX2.out i (by omega)
          rw [(s3 i (by omega)).1, (s3 i (by omega)).2]
          exact ⟨a1, u, a2, (a3.other (by omega)).other (by omega)⟩
      case measure => simp [intOf]; omega
    · obtain rfl : j = rs.length := by omega
      have HE := Lib.hid (show SlAB w.heap.size wr (.slice (some ⟨w.heap.size, 0, none⟩) rs.length rs.length) rs from by
        refine ⟨hlen, _, _, rfl, ⟨Nat.le_refl _, by unfold maxLen; omega⟩, fun _ => ⟨_, rfl, Nat.le_refl _, (own_blk hrow _ rfl).2, fun i hi => ?_⟩⟩
        obtain ⟨a1, u, a2, a3⟩ := hall i hi
        obtain ⟨_, _, _, _, _, _, _, hs, _⟩ := HC.out i hi
        exact ⟨(hrow.cellAt (i * 2) (by omega)).trans a1, hs, HWH.out i hi, u, (hrow.cellAt (i * 2 + 1) (by omega)).trans a2, a3.low (by omega)⟩)
      clear hrow hb hall
      go_wp2_with fail
      go_ret
      exact ⟨_, rfl, HE.out, HB.out⟩
theorem toMesh_any (x0 x1 x2 x3 : Int) (w : World) :
    Calls Try.prog 27 #[.agg #[.int .i64 x0, .int .i64 x1, .int .i64 x2, .int .i64 x3]] w fun e w' => e = .returned (.agg #[.int .i64 x0, .int .i64 x1, .int .i64 x2, .int .i64 x3]) ∧ Below w.heap.size w w' := by
  go_enter Try.func27, Try.ntmps27
  go_wp2
  exact bodyPost_ret (v := .agg #[.int .i64 x0, .int .i64 x1, .int .i64 x2, .int .i64 x3]) (by simp [results, Try.results27, go_sem]) rfl ⟨rfl, bA (bA (bA (bR _) _) _) _⟩
theorem set4_at {xs : List Value} {j : Nat} {u v x y : Value} (h : j * 4 + 3 < xs.length) : ((((xs.set (j * 4) u).set (j * 4 + 1) v).set (j * 4 + 2) x).set (j * 4 + 3) y)[j * 4]? = some u ∧ ((((xs.set (j * 4) u).set (j * 4 + 1) v).set (j * 4 + 2) x).set (j * 4 + 3) y)[j * 4 + 1]? = some v ∧
    ((((xs.set (j * 4) u).set (j * 4 + 1) v).set (j * 4 + 2) x).set (j * 4 + 3) y)[j * 4 + 2]? = some x ∧ ((((xs.set (j * 4) u).set (j * 4 + 1) v).set (j * 4 + 2) x).set (j * 4 + 3) y)[j * 4 + 3]? = some y ∧
    ∀ i, i < j * 4 → ((((xs.set (j * 4) u).set (j * 4 + 1) v).set (j * 4 + 2) x).set (j * 4 + 3) y)[i]? = xs[i]? := by
  refine ⟨?_, ?_, ?_, ?_, fun i hi => ?_⟩
  · rw [List.getElem?_set_ne (by omega), List.getElem?_set_ne (by omega), List.getElem?_set_ne (by omega), List.getElem?_set_self (by omega)]
  · rw [List.getElem?_set_ne (by omega), List.getElem?_set_ne (by omega), List.getElem?_set_self (by simp; omega)]
  · rw [List.getElem?_set_ne (by omega), List.getElem?_set_self (by simp; omega)]
  · rw [List.getElem?_set_self (by simp; omega)]
  · rw [List.getElem?_set_ne (by omega), List.getElem?_set_ne (by omega), List.getElem?_set_ne (by omega), List.getElem?_set_ne (by omega)]
def mshI (xs : List Value) (i : Nat) (m : Msh) : Prop := xs[i * 4]? = some (.int .i64 m.1) ∧ xs[i * 4 + 1]? = some (.int .i64 m.2.1) ∧ xs[i * 4 + 2]? = some (.int .i64 m.2.2.1) ∧ xs[i * 4 + 3]? = some (.int .i64 m.2.2.2)
def ToMRel (w : World) (ms : List Msh) (i : Value) (wr : World) : Prop :=
  ∃ (j : Nat) (xs : List Value), j ≤ ms.length ∧ i = .int .i64 j ∧ xs.length = ms.length * 4 ∧ wr.ownsRow w.heap.size 52 4 (.slice (some ⟨w.heap.size, 0, none⟩) ms.length ms.length) ms.length xs ∧
    (∀ i, i < j → mshI xs i (msAt ms i)) ∧ Below w.heap.size w wr
def ToMRet (w : World) (ms : List Msh) (e : Ending) (w' : World) : Prop := ∃ u, e = .returned u ∧ SlMB w.heap.size w' u ms ∧ Below w.heap.size w w'
set_option maxHeartbeats 4000000 in
theorem toMeshS_any (a : Option Addr) (len cap : Nat) (ms : List Msh) (w : World) (h : IsMr w a len cap ms) (hlen : ms.length ≤ 1048576) :
    Calls Try.prog 48 #[.slice a len cap] w (ToMRet w ms) := by
  obtain ⟨i0, hi, hz0, hz1, hz2⟩ := info_parts infoMsh
  obtain ⟨⟨l1, l2⟩, l3, hc⟩ := h
  subst l3
  have HC := Lib.hid hc
  clear hc l1 l2
  go_enter Try.func48, Try.ntmps48
  go_wp2_with (at_make; refine wpList_make_full _ rfl _ _ 29 rfl w.heap.size 52 i0 (.agg #[.int .i64 0, .int .i64 0, .int .i64 0, .int .i64 0]) 4 Try.underlying29 hi hz0 hz1 .i64 .i64 _ _ ms.length rfl rfl rfl rfl ?m1 ?m2 (Nat.le_refl _) ?_)
  case m1 => rw [hz2]; omega
  case m2 => unfold maxLen; omega
  intro w1 hown hg
  have RS := Lib.hid (show ToMRel w ms (.int .i64 0) w1 from ⟨0, _, by omega, rfl, made_len _ _, by simpa using hown, fun i hi => absurd hi (Nat.not_lt_zero _), grown_low hg⟩)
  clear hown hg
  go_wp2_with fail
  go_loopw [4] (fun i wr => ToMRel w ms i wr) (fun i _ => ms.length - (intOf i).toNat)
  case atStart => exact RS.out
  case round =>
    obtain ⟨j, xs, hj, rfl, hxl, hrow, hall, hb⟩ := hrel
    have HW := Lib.hid hrow
    have HB := Lib.hid hb
    have HX := Lib.hid hall
    by_cases hlt : j < ms.length
    · obtain ⟨xb, xo, rfl, hx, hc0, hc1, hc2, hc3⟩ := HC.out j hlt
      have c0 := (hb.cell (p := ⟨xb, xo + j * 4, none⟩) hx).trans hc0
      have c1 := (hb.cell (p := ⟨xb, xo + j * 4 + 1, none⟩) hx).trans hc1
      have c2 := (hb.cell (p := ⟨xb, xo + j * 4 + 2, none⟩) hx).trans hc2
      have c3 := (hb.cell (p := ⟨xb, xo + j * 4 + 3, none⟩) hx).trans hc3
      have HP := Lib.hid (show msAt ms j = ((msAt ms j).1, (msAt ms j).2.1, (msAt ms j).2.2.1, (msAt ms j).2.2.2) from rfl)
      have hsz : w.heap.size < wr.heap.size := (own_blk hrow _ rfl).2
      have f0 : wr.frozen? ⟨w.heap.size, j * 4, none⟩ = false := hrow.frozenAt (j * 4)
      have f1 : wr.frozen? ⟨w.heap.size, j * 4 + 1, none⟩ = false := hrow.frozenAt (j * 4 + 1)
      have f2 : wr.frozen? ⟨w.heap.size, j * 4 + 2, none⟩ = false := hrow.frozenAt (j * 4 + 2)
      have f3 : wr.frozen? ⟨w.heap.size, j * 4 + 3, none⟩ = false := hrow.frozenAt (j * 4 + 3)
      clear hrow hb hall hc0 hc1 hc2 hc3 HC
      generalize (msAt ms j).1 = m0 at *
      generalize (msAt ms j).2.1 = m1 at *
      generalize (msAt ms j).2.2.1 = m2 at *
      generalize (msAt ms j).2.2.2 = m3 at *
      go_wp2_with fail
      refine (toMesh_any m0 m1 m2 m3 _).mono ?_
      rintro e w2 ⟨rfl, hb2⟩
      have g0 : w2.frozen? ⟨w.heap.size, j * 4, none⟩ = false := (hb2.frozen (p := ⟨w.heap.size, j * 4, none⟩) hsz).trans f0
      have g1 : w2.frozen? ⟨w.heap.size, j * 4 + 1, none⟩ = false := (hb2.frozen (p := ⟨w.heap.size, j * 4 + 1, none⟩) hsz).trans f1
      have g2 : w2.frozen? ⟨w.heap.size, j * 4 + 2, none⟩ = false := (hb2.frozen (p := ⟨w.heap.size, j * 4 + 2, none⟩) hsz).trans f2
      have g3 : w2.frozen? ⟨w.heap.size, j * 4 + 3, none⟩ = false := (hb2.frozen (p := ⟨w.heap.size, j * 4 + 3, none⟩) hsz).trans f3
      have W2 := Lib.hid (own_keep HW.out hb2)
      have NR := Lib.hid ((((((W2.out.stored (j * 4) (.int .i64 m0)).1).stored (j * 4 + 1) (.int .i64 m1)).1.stored (j * 4 + 2) (.int .i64 m2)).1.stored (j * 4 + 3) (.int .i64 m3)).1)
      have B2 := Lib.hid (bT HB.out hb2)
      obtain ⟨x0, e0⟩ : ∃ u, w2.cell? ⟨w.heap.size, j * 4, none⟩ = some u := ⟨xs[j * 4]'(by omega), (W2.out.cellAt (j * 4) (by omega)).trans (List.getElem?_eq_getElem (by omega))⟩
      obtain ⟨x1, e1⟩ : ∃ u, w2.cell? ⟨w.heap.size, j * 4 + 1, none⟩ = some u := ⟨xs[j * 4 + 1]'(by omega), (W2.out.cellAt (j * 4 + 1) (by omega)).trans (List.getElem?_eq_getElem (by omega))⟩
      obtain ⟨x2, e2⟩ : ∃ u, w2.cell? ⟨w.heap.size, j * 4 + 2, none⟩ = some u := ⟨xs[j * 4 + 2]'(by omega), (W2.out.cellAt (j * 4 + 2) (by omega)).trans (List.getElem?_eq_getElem (by omega))⟩
      obtain ⟨x3, e3⟩ : ∃ u, w2.cell? ⟨w.heap.size, j * 4 + 3, none⟩ = some u := ⟨xs[j * 4 + 3]'(by omega), (W2.out.cellAt (j * 4 + 3) (by omega)).trans (List.getElem?_eq_getElem (by omega))⟩
      clear hb2 c0 c1 c2 c3 f0 f1 f2 f3 hsz HW HB
      go_wp2_with fail
      go_roundw
      case rel =>
        obtain ⟨s0, s1, s2, s3, s4⟩ := set4_at (xs := xs) (j := j) (u := .int .i64 m0) (v := .int .i64 m1) (x := .int .i64 m2) (y := .int .i64 m3) (by omega)
        refine ⟨j + 1, _, by omega, by go_num, by simp [hxl], NR.out, fun i hi => ?_, (((B2.out.setCell (by simp) _).setCell (by simp) _).setCell (by simp) _).setCell (by simp) _⟩
        by_cases e : i = j
        · rw [e, HP.out]; exact ⟨s0, s1, s2, s3⟩
        · have := HX.out i (by omega)
          unfold mshI
          rw [s4 _ (by omega), s4 _ (by omega), s4 _ (by omega), s4 _ (by omega)]
          exact this
      case measure => simp [intOf]; omega
    · obtain rfl : j = ms.length := by omega
      have HE := Lib.hid (show SlMB w.heap.size wr (.slice (some ⟨w.heap.size, 0, none⟩) ms.length ms.length) ms from by
        refine ⟨hlen, _, _, rfl, ⟨Nat.le_refl _, by unfold maxLen; omega⟩, fun _ => ⟨_, rfl, Nat.le_refl _, (own_blk hrow _ rfl).2, fun i hi => ?_⟩⟩
        obtain ⟨a0, a1, a2, a3⟩ := hall i hi
        exact ⟨(hrow.cellAt (i * 4) (by omega)).trans a0, (hrow.cellAt (i * 4 + 1) (by omega)).trans a1, (hrow.cellAt (i * 4 + 2) (by omega)).trans a2, (hrow.cellAt (i * 4 + 3) (by omega)).trans a3⟩)
      clear hrow hb hall
      go_wp2_with fail
      go_ret
      exact ⟨_, rfl, HE.out, HB.out⟩
end Go.Proofs.Ytnijbbligkmefaa

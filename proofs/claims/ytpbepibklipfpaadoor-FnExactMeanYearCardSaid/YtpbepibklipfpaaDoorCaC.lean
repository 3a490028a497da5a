/-
  The model's conversions of calendars: laws.toCalendar and what it calls.
-/
import Derived.Test.YtpbepibklipfpaaDoorCaS
namespace Go.Proofs.YtpbepibklipfpaaDoor
open Go.RowKit

theorem infoMon : (Tryd.prog.info? 79).map (fun i => (i.zero, i.size, i.bytes)) = some (some (.agg #[.string ByteArray.empty, .int .i64 0, .int .i64 0]), 3, 32) := by kernel_rfl
theorem infoRul : (Tryd.prog.info? 82).map (fun i => (i.zero, i.size, i.bytes)) = some (some (.agg #[.int .i64 0, .int .i64 0, .bool false]), 3, 24) := by kernel_rfl
theorem made_lenC (z : Array Value) (m : Nat) : (madeCells z m).toList.length = m := by simp [madeCells]
theorem grown_lowC {w w' : World} (h : w.grownBy w' none) : Below w.heap.size w w' := ⟨h.os, h.tape, h.output, h.size, fun k hk => h.block k hk (fun e => by cases e)⟩
def IsV (v : Value) (w : World) (e : Ending) (w' : World) : Prop := e = .returned v ∧ Below w.heap.size w w'
set_option maxRecDepth 100000 in
set_option maxHeartbeats 4000000 in
theorem toMonth_any (nm : ByteArray) (x y : Int) (w : World) :
    Calls Tryd.prog 75 #[.agg #[.string nm, .int .i64 x, .int .i64 y]] w (IsV (.agg #[.string nm, .int .i64 x, .int .i64 y]) w) := by
  go_enter Tryd.func75, Tryd.ntmps75
  go_wp2_with fail
  exact bodyPost_ret (v := .agg #[.string nm, .int .i64 x, .int .i64 y]) (by simp [results, Tryd.results75, go_sem]) rfl ⟨rfl, by first | exact bA (bA (bA (bR _) _) _) _ | exact bA (bA (bR _) _) _⟩
set_option maxRecDepth 100000 in
set_option maxHeartbeats 4000000 in
theorem toLeapRule_any (x y : Int) (b : Bool) (w : World) :
    Calls Tryd.prog 76 #[.agg #[.int .i64 x, .int .i64 y, .bool b]] w (IsV (.agg #[.int .i64 x, .int .i64 y, .bool b]) w) := by
  go_enter Tryd.func76, Tryd.ntmps76
  go_wp2_with fail
  exact bodyPost_ret (v := .agg #[.int .i64 x, .int .i64 y, .bool b]) (by simp [results, Tryd.results76, go_sem]) rfl ⟨rfl, by first | exact bA (bA (bA (bR _) _) _) _ | exact bA (bA (bR _) _) _⟩
/-- The cells of three values, one of them after the other set. -/
theorem set3_at {xs : List Value} {j : Nat} {a b c : Value} (h : j * 3 + 2 < xs.length) : (((xs.set (j * 3) a).set (j * 3 + 1) b).set (j * 3 + 2) c)[j * 3]? = some a ∧ (((xs.set (j * 3) a).set (j * 3 + 1) b).set (j * 3 + 2) c)[j * 3 + 1]? = some b ∧ (((xs.set (j * 3) a).set (j * 3 + 1) b).set (j * 3 + 2) c)[j * 3 + 2]? = some c ∧
    ∀ i, i < j * 3 → (((xs.set (j * 3) a).set (j * 3 + 1) b).set (j * 3 + 2) c)[i]? = xs[i]? := by
  refine ⟨?_, ?_, ?_, fun i hi => ?_⟩
  · rw [List.getElem?_set_ne (by omega), List.getElem?_set_ne (by omega), List.getElem?_set_self (by omega)]
  · rw [List.getElem?_set_ne (by omega), List.getElem?_set_self (by simp; omega)]
  · rw [List.getElem?_set_self (by simp; omega)]
  · rw [List.getElem?_set_ne (by omega), List.getElem?_set_ne (by omega), List.getElem?_set_ne (by omega)]
def ToTrRel (T : TypeId) (w : World) (n : Nat) (xs : List Tri) (i : Value) (wr : World) : Prop :=
  ∃ (j : Nat) (vs : List Value), j ≤ n ∧ i = .int .i64 j ∧ vs.length = n * 3 ∧ wr.ownsRow w.heap.size T 3 (.slice (some ⟨w.heap.size, 0, none⟩) n n) n vs ∧
    (∀ i, i < j → trI vs i (trAt xs i)) ∧ Below w.heap.size w wr
/-- A list that a call has made for itself. -/
def ToTrRet (T : TypeId) (w : World) (n : Nat) (xs : List Tri) (e : Ending) (w' : World) : Prop := e = .returned (.slice (some ⟨w.heap.size, 0, none⟩) n n) ∧ w'.ownsRow w.heap.size T 3 (.slice (some ⟨w.heap.size, 0, none⟩) n n) n (trC xs) ∧ Below w.heap.size w w'
set_option maxHeartbeats 4000000 in
theorem toMonthS_any (v : Value) (ss : List Mo) (w : World) (h : SlMo w v ss) (hlen : ss.length ≤ 1048576) :
    Calls Tryd.prog 37 #[v] w (ToTrRet 79 w ss.length (ss.map moT)) := by
  obtain ⟨i0, hi, hz0, hz1, hz2⟩ := info_parts infoMon
  obtain ⟨ao, cap, rfl, _, hc⟩ := h.open
  have HC := Lib.hid hc
  have hlm : (ss.map moT).length = ss.length := List.length_map _
  clear hc h
  go_enter Tryd.func37, Tryd.ntmps37
  go_wp2_with (at_make; refine wpList_make_full _ rfl _ _ 31 rfl w.heap.size 79 i0 (.agg #[.string ByteArray.empty, .int .i64 0, .int .i64 0]) 3 Tryd.underlying31 hi hz0 hz1 .i64 .i64 _ _ ss.length rfl rfl rfl rfl ?m1 ?m2 (Nat.le_refl _) ?_)
  case m1 => rw [hz2]; omega
  case m2 => unfold maxLen; omega
  intro w1 hown hg
  have RS := Lib.hid (show ToTrRel 79 w ss.length (ss.map moT) (.int .i64 0) w1 from ⟨0, _, by omega, rfl, made_lenC _ _, by simpa using hown, fun i hi => absurd hi (Nat.not_lt_zero _), grown_lowC hg⟩)
  clear hown hg
  go_wp2_with fail
  go_loopw [4] (fun i wr => ToTrRel 79 w ss.length (ss.map moT) i wr) (fun i _ => ss.length - (intOf i).toNat)
  case atStart => exact RS.out
  case round =>
    obtain ⟨j, xs, hj, rfl, hxl, hrow, hall, hb⟩ := hrel
    have HW := Lib.hid hrow
    have HB := Lib.hid hb
    have HX := Lib.hid hall
    by_cases hlt : j < ss.length
    · obtain ⟨xb, xo, rfl, hx, hcc⟩ := HC.out (by omega)
      obtain ⟨c0, c1, c2, _⟩ := (hcc.keep hx hb) j hlt
      have HP := Lib.hid (show moT (moAt ss j) = (.string (moAt ss j).nm, .int .i64 (moAt ss j).d, .int .i64 (moAt ss j).l) from rfl)
      have hsz : w.heap.size < wr.heap.size := (own_blk hrow _ rfl).2
      have f0 : wr.frozen? ⟨w.heap.size, j * 3, none⟩ = false := hrow.frozenAt (j * 3)
      have f1 : wr.frozen? ⟨w.heap.size, j * 3 + 1, none⟩ = false := hrow.frozenAt (j * 3 + 1)
      have f2 : wr.frozen? ⟨w.heap.size, j * 3 + 2, none⟩ = false := hrow.frozenAt (j * 3 + 2)
      clear hrow hb hall hcc HC
      generalize (moAt ss j).nm = m0 at *
      generalize (moAt ss j).d = m1 at *
      generalize (moAt ss j).l = m2 at *
      go_wp2_with fail
      refine (toMonth_any m0 m1 m2 _).mono ?_
      rintro e w2 ⟨rfl, hb2⟩
      have g0 : w2.frozen? ⟨w.heap.size, j * 3, none⟩ = false := (hb2.frozen (p := ⟨w.heap.size, j * 3, none⟩) hsz).trans f0
      have g1 : w2.frozen? ⟨w.heap.size, j * 3 + 1, none⟩ = false := (hb2.frozen (p := ⟨w.heap.size, j * 3 + 1, none⟩) hsz).trans f1
      have g2 : w2.frozen? ⟨w.heap.size, j * 3 + 2, none⟩ = false := (hb2.frozen (p := ⟨w.heap.size, j * 3 + 2, none⟩) hsz).trans f2
      have W2 := Lib.hid (own_keep HW.out hb2)
      have NR := Lib.hid (((((W2.out.stored (j * 3) (.string m0)).1).stored (j * 3 + 1) (.int .i64 m1)).1.stored (j * 3 + 2) (.int .i64 m2)).1)
      have B2 := Lib.hid (bT HB.out hb2)
      obtain ⟨x0, e0⟩ : ∃ u, w2.cell? ⟨w.heap.size, j * 3, none⟩ = some u := ⟨xs[j * 3]'(by omega), (W2.out.cellAt (j * 3) (by omega)).trans (List.getElem?_eq_getElem (by omega))⟩
      obtain ⟨x1, e1⟩ : ∃ u, w2.cell? ⟨w.heap.size, j * 3 + 1, none⟩ = some u := ⟨xs[j * 3 + 1]'(by omega), (W2.out.cellAt (j * 3 + 1) (by omega)).trans (List.getElem?_eq_getElem (by omega))⟩
      obtain ⟨x2, e2⟩ : ∃ u, w2.cell? ⟨w.heap.size, j * 3 + 2, none⟩ = some u := ⟨xs[j * 3 + 2]'(by omega), (W2.out.cellAt (j * 3 + 2) (by omega)).trans (List.getElem?_eq_getElem (by omega))⟩
      clear hb2 c0 c1 c2 f0 f1 f2 hsz HW HB
      go_wp2_with fail
      go_roundw
      case rel =>
        obtain ⟨s0, s1, s2, s3⟩ := set3_at (xs := xs) (j := j) (a := .string m0) (b := .int .i64 m1) (c := .int .i64 m2) (by omega)
        refine ⟨j + 1, _, by omega, by go_num, by simp [hxl], NR.out, fun i hi => ?_, ((B2.out.setCell (by simp) _).setCell (by simp) _).setCell (by simp) _⟩
        by_cases e : i = j
        · subst e
          rw [moT_at (by omega), HP.out]; exact ⟨s0, s1, s2⟩
        · have := HX.out i (by omega)
          unfold trI
          rw [s3 _ (by omega), s3 _ (by omega), s3 _ (by omega)]
          exact this
      case measure => simp [intOf]; omega
    · obtain rfl : j = ss.length := by omega
      have HE := Lib.hid (show wr.ownsRow w.heap.size 79 3 (.slice (some ⟨w.heap.size, 0, none⟩) ss.length ss.length) ss.length (trC (ss.map moT)) by
        rw [← trC_ext (by rw [hxl, hlm]) (fun i hi => hall i (by rw [hlm] at hi; exact hi))]; exact hrow)
      clear hrow hb hall
      go_wp2_with fail
      go_ret
      exact ⟨rfl, HE.out, HB.out⟩
set_option maxHeartbeats 4000000 in
theorem toLeapRuleS_any (v : Value) (ss : List Ru) (w : World) (h : SlRu w v ss) (hlen : ss.length ≤ 1048576) :
    Calls Tryd.prog 38 #[v] w (ToTrRet 82 w ss.length (ss.map ruT)) := by
  obtain ⟨i0, hi, hz0, hz1, hz2⟩ := info_parts infoRul
  obtain ⟨ao, cap, rfl, _, hc⟩ := h.open
  have HC := Lib.hid hc
  have hlm : (ss.map ruT).length = ss.length := List.length_map _
  clear hc h
  go_enter Tryd.func38, Tryd.ntmps38
  go_wp2_with (at_make; refine wpList_make_full _ rfl _ _ 32 rfl w.heap.size 82 i0 (.agg #[.int .i64 0, .int .i64 0, .bool false]) 3 Tryd.underlying32 hi hz0 hz1 .i64 .i64 _ _ ss.length rfl rfl rfl rfl ?m1 ?m2 (Nat.le_refl _) ?_)
  case m1 => rw [hz2]; omega
  case m2 => unfold maxLen; omega
  intro w1 hown hg
  have RS := Lib.hid (show ToTrRel 82 w ss.length (ss.map ruT) (.int .i64 0) w1 from ⟨0, _, by omega, rfl, made_lenC _ _, by simpa using hown, fun i hi => absurd hi (Nat.not_lt_zero _), grown_lowC hg⟩)
  clear hown hg
  go_wp2_with fail
  go_loopw [4] (fun i wr => ToTrRel 82 w ss.length (ss.map ruT) i wr) (fun i _ => ss.length - (intOf i).toNat)
  case atStart => exact RS.out
  case round =>
    obtain ⟨j, xs, hj, rfl, hxl, hrow, hall, hb⟩ := hrel
    have HW := Lib.hid hrow
    have HB := Lib.hid hb
    have HX := Lib.hid hall
    by_cases hlt : j < ss.length
    · obtain ⟨xb, xo, rfl, hx, hcc⟩ := HC.out (by omega)
      obtain ⟨c0, c1, c2⟩ := (hcc.keep hx hb) j hlt
      have HP := Lib.hid (show ruT (ruAt ss j) = (.int .i64 (ruAt ss j).e, .int .i64 (ruAt ss j).r, .bool (ruAt ss j).b) from rfl)
      have hsz : w.heap.size < wr.heap.size := (own_blk hrow _ rfl).2
      have f0 : wr.frozen? ⟨w.heap.size, j * 3, none⟩ = false := hrow.frozenAt (j * 3)
      have f1 : wr.frozen? ⟨w.heap.size, j * 3 + 1, none⟩ = false := hrow.frozenAt (j * 3 + 1)
      have f2 : wr.frozen? ⟨w.heap.size, j * 3 + 2, none⟩ = false := hrow.frozenAt (j * 3 + 2)
      clear hrow hb hall hcc HC
      generalize (ruAt ss j).e = m0 at *
      generalize (ruAt ss j).r = m1 at *
      generalize (ruAt ss j).b = m2 at *
      go_wp2_with fail
      refine (toLeapRule_any m0 m1 m2 _).mono ?_
      rintro e w2 ⟨rfl, hb2⟩
      have g0 : w2.frozen? ⟨w.heap.size, j * 3, none⟩ = false := (hb2.frozen (p := ⟨w.heap.size, j * 3, none⟩) hsz).trans f0
      have g1 : w2.frozen? ⟨w.heap.size, j * 3 + 1, none⟩ = false := (hb2.frozen (p := ⟨w.heap.size, j * 3 + 1, none⟩) hsz).trans f1
      have g2 : w2.frozen? ⟨w.heap.size, j * 3 + 2, none⟩ = false := (hb2.frozen (p := ⟨w.heap.size, j * 3 + 2, none⟩) hsz).trans f2
      have W2 := Lib.hid (own_keep HW.out hb2)
      have NR := Lib.hid (((((W2.out.stored (j * 3) (.int .i64 m0)).1).stored (j * 3 + 1) (.int .i64 m1)).1.stored (j * 3 + 2) (.bool m2)).1)
      have B2 := Lib.hid (bT HB.out hb2)
      obtain ⟨x0, e0⟩ : ∃ u, w2.cell? ⟨w.heap.size, j * 3, none⟩ = some u := ⟨xs[j * 3]'(by omega), (W2.out.cellAt (j * 3) (by omega)).trans (List.getElem?_eq_getElem (by omega))⟩
      obtain ⟨x1, e1⟩ : ∃ u, w2.cell? ⟨w.heap.size, j * 3 + 1, none⟩ = some u := ⟨xs[j * 3 + 1]'(by omega), (W2.out.cellAt (j * 3 + 1) (by omega)).trans (List.getElem?_eq_getElem (by omega))⟩
      obtain ⟨x2, e2⟩ : ∃ u, w2.cell? ⟨w.heap.size, j * 3 + 2, none⟩ = some u := ⟨xs[j * 3 + 2]'(by omega), (W2.out.cellAt (j * 3 + 2) (by omega)).trans (List.getElem?_eq_getElem (by omega))⟩
      clear hb2 c0 c1 c2 f0 f1 f2 hsz HW HB
      go_wp2_with fail
      go_roundw
      case rel =>
        obtain ⟨s0, s1, s2, s3⟩ := set3_at (xs := xs) (j := j) (a := .int .i64 m0) (b := .int .i64 m1) (c := .bool m2) (by omega)
        refine ⟨j + 1, _, by omega, by go_num, by simp [hxl], NR.out, fun i hi => ?_, ((B2.out.setCell (by simp) _).setCell (by simp) _).setCell (by simp) _⟩
        by_cases e : i = j
        · subst e
          rw [ruT_at (by omega), HP.out]; exact ⟨s0, s1, s2⟩
        · have := HX.out i (by omega)
          unfold trI
          rw [s3 _ (by omega), s3 _ (by omega), s3 _ (by omega)]
          exact this
      case measure => simp [intOf]; omega
    · obtain rfl : j = ss.length := by omega
      have HE := Lib.hid (show wr.ownsRow w.heap.size 82 3 (.slice (some ⟨w.heap.size, 0, none⟩) ss.length ss.length) ss.length (trC (ss.map ruT)) by
        rw [← trC_ext (by rw [hxl, hlm]) (fun i hi => hall i (by rw [hlm] at hi; exact hi))]; exact hrow)
      clear hrow hb hall
      go_wp2_with fail
      go_ret
      exact ⟨rfl, HE.out, HB.out⟩
theorem own_oth {W : World} {B : Nat} {t : TypeId} {sz n g c : Nat} {xs : List Value} (h : W.ownsRow B t sz (.slice (some ⟨g, 0, none⟩) n c) n xs) {b : Nat} (hb : b < g ∨ g < b) (o : Nat) (x : Value) : (W.setCell ⟨b, o, none⟩ x).ownsRow B t sz (.slice (some ⟨g, 0, none⟩) n c) n xs :=
  ownsRow_setCell_other h (by simp [Value.ownBlock]; omega) x
/-- A calendar that a call has made for itself, in blocks from B on. -/
def OwC (B : Nat) (W : World) (x : Value) (c : Cal) : Prop := ∃ u v, x = .agg #[.string c.nm, u, v, .int .i64 c.wk] ∧ c.nm.size ≤ maxLen ∧ (∀ i, i < c.ms.length → (moAt c.ms i).nm.size ≤ maxLen) ∧ W.ownsRow B 79 3 u c.ms.length (trC (c.ms.map moT)) ∧ W.ownsRow B 82 3 v c.rs.length (trC (c.rs.map ruT)) ∧
  (∀ r, u.ownBlock = some r → v.ownBlock ≠ some r)
theorem slMo_of {W : World} {B : Nat} {v : Value} {ms : List Mo} (h : W.ownsRow B 79 3 v ms.length (trC (ms.map moT))) (hs : ∀ i, i < ms.length → (moAt ms i).nm.size ≤ maxLen) : SlMo W v ms := by
  refine ⟨slT_of (B := B) (t := 79) ?_, hs⟩
  rw [List.length_map]; exact h
theorem slRu_of {W : World} {B : Nat} {v : Value} {rs : List Ru} (h : W.ownsRow B 82 3 v rs.length (trC (rs.map ruT))) : SlRu W v rs := by
  refine slT_of (B := B) (t := 82) ?_
  rw [List.length_map]; exact h
theorem OwC.is {B : Nat} {W : World} {x : Value} {c : Cal} (h : OwC B W x c) : IsC W x c := by
  obtain ⟨u, v, e, h1, h2, h3, h4, _⟩ := h
  exact ⟨u, v, e, h1, slMo_of h3 h2, slRu_of h4⟩
theorem OwC.keep {B : Nat} {W W' : World} {x : Value} {c : Cal} (h : OwC B W x c) (hb : Below W.heap.size W W') : OwC B W' x c := by
  obtain ⟨u, v, e, h1, h2, h3, h4, h5⟩ := h
  exact ⟨u, v, e, h1, h2, own_keep h3 hb, own_keep h4 hb, h5⟩
def CalRet (c : Cal) (w : World) (e : Ending) (w' : World) : Prop := ∃ x, e = .returned x ∧ OwC w.heap.size w' x c ∧ Below w.heap.size w w'
set_option maxRecDepth 100000 in
set_option maxHeartbeats 4000000 in
theorem toCalendar_any (x : Value) (c : Cal) (w : World) (h : IsC w x c) (hl : CaLim c) :
    Calls Tryd.prog 11 #[x] w (CalRet c w) := by
  obtain ⟨u, v, rfl, hs, hM, hR⟩ := h
  obtain ⟨nm, ms, rs, wk⟩ := c
  obtain ⟨l1, l2⟩ := hl
  simp only at hs hM hR l1 l2
  obtain ⟨a1, cap1, rfl, _⟩ := hM.open
  obtain ⟨a2, cap2, rfl, _⟩ := hR.open
  have SM := Lib.hid hM.2
  have A2 := Lib.hid ((BoxL.at_ (w := w.alloc (.cells #[.string nm, .slice a1 ms.length cap1, .slice a2 rs.length cap2, .int .i64 wk] 25)) (b := w.heap.size + 1) (vs := [.string ⟨#[]⟩, .slice none 0 0, .slice none 0 0, .int .i64 0]) (T := 34) (by simp)).alloc (.cells #[.string nm, .slice none 0 0, .slice none 0 0, .int .i64 0] 34))
  have A3 := Lib.hid (BoxL.at_ (w := (w.alloc (.cells #[.string nm, .slice a1 ms.length cap1, .slice a2 rs.length cap2, .int .i64 wk] 25)).alloc (.cells #[.string ⟨#[]⟩, .slice none 0 0, .slice none 0 0, .int .i64 0] 34)) (b := w.heap.size + 1 + 1) (vs := [.string nm, .slice none 0 0, .slice none 0 0, .int .i64 0]) (T := 34) (by simp))
  have A1 := Lib.hid (((BoxL.new w [.string nm, .slice a1 ms.length cap1, .slice a2 rs.length cap2, .int .i64 wk] 25).alloc (.cells #[.string ⟨#[]⟩, .slice none 0 0, .slice none 0 0, .int .i64 0] 34)).alloc (.cells #[.string nm, .slice none 0 0, .slice none 0 0, .int .i64 0] 34))
  have L0 := Lib.hid (bA (bA (bA (bR w) (.cells #[.string nm, .slice a1 ms.length cap1, .slice a2 rs.length cap2, .int .i64 wk] 25)) (.cells #[.string ⟨#[]⟩, .slice none 0 0, .slice none 0 0, .int .i64 0] 34)) (.cells #[.string nm, .slice none 0 0, .slice none 0 0, .int .i64 0] 34))
  have HM := Lib.hid (hM.keep L0.out)
  have HR := Lib.hid hR
  clear hM hR
  go_enter Tryd.func11, Tryd.ntmps11
  go_wp2_with fail
  generalize ((w.alloc (.cells #[.string nm, .slice a1 ms.length cap1, .slice a2 rs.length cap2, .int .i64 wk] 25)).alloc (.cells #[.string ⟨#[]⟩, .slice none 0 0, .slice none 0 0, .int .i64 0] 34)).alloc (.cells #[.string nm, .slice none 0 0, .slice none 0 0, .int .i64 0] 34) = W0 at *
  refine (toMonthS_any _ ms _ HM.out l1).mono ?_
  rintro e w1 ⟨rfl, hu, hb⟩
  have S0 := Lib.hid (show w.heap.size + 1 + 1 < W0.heap.size from A3.out.lt)
  have S1 := Lib.hid hb.size
  have L1 := Lib.hid (bT L0.out hb)
  have B1 := Lib.hid (A1.out.keep hb)
  have B2 := Lib.hid (A2.out.keep hb)
  have B3 := Lib.hid (A3.out.keep hb)
  have P1 := Lib.hid hu
  clear hb hu A1 A2 A3 HM L0
  generalize hg1 : W0.heap.size = g1 at *
  generalize hb3 : w.heap.size + 1 + 1 = b3 at *
  generalize hb2 : w.heap.size + 1 = b2 at *
  have SG := Lib.hid (show w.heap.size ≤ b2 ∧ w.heap.size ≤ b3 ∧ w.heap.size < b2 ∧ w.heap.size < b3 ∧ b2 < g1 ∧ b3 < g1 ∧ b2 ≠ b3 by have := S0.out; omega)
  obtain ⟨y0, y1, y2, y3, y4⟩ := B1.out.c4q
  obtain ⟨z0, z1, z2, z3, z4⟩ := B3.out.c4q
  obtain ⟨f0, f1, f2, f3⟩ := B3.out.f4q
  have P2 := Lib.hid (own_oth P1.out (b := b3) (by have := SG.out; omega) 1 (.slice (some ⟨g1, 0, none⟩) ms.length ms.length))
  have C1 := Lib.hid (B1.out.other (b' := b3) (o := 1) (x := .slice (some ⟨g1, 0, none⟩) ms.length ms.length) (by have := SG.out; omega))
  have C2 := Lib.hid (B2.out.other (b' := b3) (o := 1) (x := .slice (some ⟨g1, 0, none⟩) ms.length ms.length) (by have := SG.out; omega))
  have C3 := Lib.hid (BoxL.setQ (v := .slice (some ⟨g1, 0, none⟩) ms.length ms.length) (i := 1) B3.out rfl)
  have L2 := Lib.hid (show Below w.heap.size w (w1.setCell ⟨b3, 1, none⟩ (.slice (some ⟨g1, 0, none⟩) ms.length ms.length)) from L1.out.setCell SG.out.2.1 _)
  have HR2 := Lib.hid (HR.out.keep L2.out)
  have S2 := Lib.hid (show (w1.setCell ⟨b3, 1, none⟩ (.slice (some ⟨g1, 0, none⟩) ms.length ms.length)).heap.size = w1.heap.size by simp [World.setCell])
  go_wp2_with fail
  clear y0 y1 y2 y3 y4 z0 z1 z2 z3 z4 f0 f1 f2 f3 B1 B2 B3 P1 HR L1
  generalize w1.setCell ⟨b3, 1, none⟩ (.slice (some ⟨g1, 0, none⟩) ms.length ms.length) = W1 at *
  refine (toLeapRuleS_any _ rs _ HR2.out l2).mono ?_
  rintro e w2 ⟨rfl, hu, hb⟩
  have P3 := Lib.hid (own_keep P2.out hb)
  have P4 := Lib.hid hu
  have SG2 := Lib.hid (show g1 < W1.heap.size from (own_blk P2.out _ rfl).2)
  have L3 := Lib.hid (bT L2.out hb)
  obtain ⟨y0, y1, y2, y3, y4⟩ := (C1.out.keep hb).c4q
  obtain ⟨x0, x1, x2, x3, x4⟩ := (C2.out.keep hb).c4q
  obtain ⟨e0, e1, e2, e3⟩ := (C2.out.keep hb).f4q
  obtain ⟨z0, z1, z2, z3, z4⟩ := BoxL.c4q (C3.out.keep hb)
  obtain ⟨f0, f1, f2, f3⟩ := BoxL.f4q (C3.out.keep hb)
  clear hb hu C1 C2 C3 HR2 P2 L2
  generalize hg2 : W1.heap.size = g2 at *
  have hn23 : ¬ b2 = b3 := by have := SG.out; omega
  have hn32 : ¬ b3 = b2 := by have := SG.out; omega
  have hl2 : w.heap.size ≤ b2 := by have := SG.out; omega
  have hl3 : w.heap.size ≤ b3 := by have := SG.out; omega
  have fin : ∀ (W : World), Below w.heap.size w W → W.ownsRow g1 79 3 (.slice (some ⟨g1, 0, none⟩) ms.length ms.length) ms.length (trC (ms.map moT)) → W.ownsRow g2 82 3 (.slice (some ⟨g2, 0, none⟩) rs.length rs.length) rs.length (trC (rs.map ruT)) →
      CalRet ⟨nm, ms, rs, wk⟩ w (.returned (.agg #[.string nm, .slice (some ⟨g1, 0, none⟩) ms.length ms.length, .slice (some ⟨g2, 0, none⟩) rs.length rs.length, .int .i64 wk])) W := by
    intro W hW h1 h2
    have h3 := SG.out
    have h4 := SG2.out
    exact ⟨_, rfl, ⟨_, _, rfl, hs, SM.out, own_lower h1 (by omega), own_lower h2 (by omega), fun r h => by simp [Value.ownBlock] at h ⊢; omega⟩, hW⟩
  have FIN := Lib.hid fin
  clear fin
  have P5 := Lib.hid (own_oth (own_oth (own_oth (own_oth (own_oth (own_oth P3.out (b := b3) (by have := SG.out; have := SG2.out; omega) 2 (.slice (some ⟨g2, 0, none⟩) rs.length rs.length)) (b := b3) (by have := SG.out; have := SG2.out; omega) 3 (.int .i64 wk)) (b := b2) (by have := SG.out; have := SG2.out; omega) 0 (.string nm)) (b := b2) (by have := SG.out; have := SG2.out; omega) 1 (.slice (some ⟨g1, 0, none⟩) ms.length ms.length)) (b := b2) (by have := SG.out; have := SG2.out; omega) 2 (.slice (some ⟨g2, 0, none⟩) rs.length rs.length)) (b := b2) (by have := SG.out; have := SG2.out; omega) 3 (.int .i64 wk))
  have P6 := Lib.hid (own_oth (own_oth (own_oth (own_oth (own_oth (own_oth P4.out (b := b3) (by have := SG.out; have := SG2.out; omega) 2 (.slice (some ⟨g2, 0, none⟩) rs.length rs.length)) (b := b3) (by have := SG.out; have := SG2.out; omega) 3 (.int .i64 wk)) (b := b2) (by have := SG.out; have := SG2.out; omega) 0 (.string nm)) (b := b2) (by have := SG.out; have := SG2.out; omega) 1 (.slice (some ⟨g1, 0, none⟩) ms.length ms.length)) (b := b2) (by have := SG.out; have := SG2.out; omega) 2 (.slice (some ⟨g2, 0, none⟩) rs.length rs.length)) (b := b2) (by have := SG.out; have := SG2.out; omega) 3 (.int .i64 wk))
  go_wp2_with fail
  refine bodyPost_ret (v := .agg #[.string nm, .slice (some ⟨g1, 0, none⟩) ms.length ms.length, .slice (some ⟨g2, 0, none⟩) rs.length rs.length, .int .i64 wk]) ?_ rfl (FIN.out _ ((((((L3.out.setCell hl3 _).setCell hl3 _).setCell hl2 _).setCell hl2 _).setCell hl2 _).setCell hl2 _) P5.out (P6.out))
  simp [results, Tryd.results11, go_sem, x0, x1, x2, x3]

end Go.Proofs.YtpbepibklipfpaaDoor

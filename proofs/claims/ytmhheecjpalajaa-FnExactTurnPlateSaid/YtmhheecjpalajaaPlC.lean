/-
  The model's conversions of plates: laws.toSite, toSiteS, toPlate; eqSite, eqSiteS, eqPlate.
-/
import Derived.Test.YtmhheecjpalajaaPlS
import Derived.Test.YtmhheecjpalajaaPtA
namespace Go.Proofs.Ytmhheecjpalajaa
open Go.RowKit

theorem infoSit : (Try.prog.info? 88).map (fun i => (i.zero, i.size, i.bytes)) = some (some (.agg #[.string ByteArray.empty, .int .i64 0, .int .i64 0, .int .i64 0, .int .i64 0]), 5, 48) := by kernel_rfl
theorem made_lenL (z : Array Value) (m : Nat) : (madeCells z m).toList.length = m := by simp [madeCells]
def SitBel (nm : ByteArray) (x y wh st : Int) (w : World) (e : Ending) (w' : World) : Prop := e = .returned (.agg #[.string nm, .int .i64 x, .int .i64 y, .int .i64 wh, .int .i64 st]) ∧ Below w.heap.size w w'
theorem bsetB {w x : World} {b o : Nat} {v : Value} (h : Below w.heap.size w x) (ha : w.heap.size ≤ b) : Below w.heap.size w (x.setCell ⟨b, o, none⟩ v) := h.setCell ha v
set_option maxRecDepth 100000 in
set_option maxHeartbeats 4000000 in
theorem toSite_any (nm : ByteArray) (x y wh st : Int) (w : World) :
    Calls Try.prog 49 #[.agg #[.string nm, .int .i64 x, .int .i64 y, .int .i64 wh, .int .i64 st]] w (SitBel nm x y wh st w) := by
  have A1 := Lib.hid (((BoxL.new w [.string nm, .int .i64 x, .int .i64 y, .int .i64 wh, .int .i64 st] 85).alloc (.cells #[.string ⟨#[]⟩, .int .i64 0, .int .i64 0, .int .i64 0, .int .i64 0] 88)).alloc (.cells #[.string nm, .int .i64 0, .int .i64 0, .int .i64 0, .int .i64 0] 88))
  have A2 := Lib.hid ((BoxL.at_ (w := w.alloc (.cells #[.string nm, .int .i64 x, .int .i64 y, .int .i64 wh, .int .i64 st] 85)) (b := w.heap.size + 1) (vs := [.string ⟨#[]⟩, .int .i64 0, .int .i64 0, .int .i64 0, .int .i64 0]) (T := 88) (by simp)).alloc (.cells #[.string nm, .int .i64 0, .int .i64 0, .int .i64 0, .int .i64 0] 88))
  have A3 := Lib.hid (BoxL.at_ (w := (w.alloc (.cells #[.string nm, .int .i64 x, .int .i64 y, .int .i64 wh, .int .i64 st] 85)).alloc (.cells #[.string ⟨#[]⟩, .int .i64 0, .int .i64 0, .int .i64 0, .int .i64 0] 88)) (b := w.heap.size + 1 + 1) (vs := [.string nm, .int .i64 0, .int .i64 0, .int .i64 0, .int .i64 0]) (T := 88) (by simp))
  have L0 := Lib.hid (bA (bA (bA (bR w) (.cells #[.string nm, .int .i64 x, .int .i64 y, .int .i64 wh, .int .i64 st] 85)) (.cells #[.string ⟨#[]⟩, .int .i64 0, .int .i64 0, .int .i64 0, .int .i64 0] 88)) (.cells #[.string nm, .int .i64 0, .int .i64 0, .int .i64 0, .int .i64 0] 88))
  go_enter Try.func49, Try.ntmps49
  go_wp2_with fail
  generalize ((w.alloc (.cells #[.string nm, .int .i64 x, .int .i64 y, .int .i64 wh, .int .i64 st] 85)).alloc (.cells #[.string ⟨#[]⟩, .int .i64 0, .int .i64 0, .int .i64 0, .int .i64 0] 88)).alloc (.cells #[.string nm, .int .i64 0, .int .i64 0, .int .i64 0, .int .i64 0] 88) = W at *
  refine (toPoint_any _ _ _).mono ?_
  rintro e w1 ⟨rfl, hb⟩
  have L1 := Lib.hid (bT L0.out hb)
  obtain ⟨a0, a1, a2, a3, a4, a5⟩ := (A1.out.keep hb).c5
  obtain ⟨z0, z1, z2, z3, z4, z5⟩ := (A2.out.keep hb).c5
  obtain ⟨y0, y1, y2, y3, y4⟩ := (A2.out.keep hb).f5
  obtain ⟨u0, u1, u2, u3, u4, u5⟩ := (A3.out.keep hb).c5
  obtain ⟨v0, v1, v2, v3, v4⟩ := (A3.out.keep hb).f5
  clear hb A1 A2 A3 L0
  generalize hb3 : w.heap.size + 1 + 1 = b3 at *
  generalize hb2 : w.heap.size + 1 = b2 at *
  generalize hb1 : w.heap.size = b1 at a0 a1 a2 a3 a4 a5
  have hn12 : ¬ b1 = b2 := by omega
  have hn13 : ¬ b1 = b3 := by omega
  have hn23 : ¬ b2 = b3 := by omega
  have hn32 : ¬ b3 = b2 := by omega
  have hl2 : w.heap.size ≤ b2 := by omega
  have hl3 : w.heap.size ≤ b3 := by omega
  go_wp2_with fail
  refine bodyPost_ret (v := .agg #[.string nm, .int .i64 x, .int .i64 y, .int .i64 wh, .int .i64 st]) ?_ rfl ⟨rfl, (((((((((L1.out.setCell hl3 _).setCell hl3 _).setCell hl3 _).setCell hl3 _).setCell hl2 _).setCell hl2 _).setCell hl2 _).setCell hl2 _).setCell hl2 _)⟩
  simp [results, Try.results49, go_sem, z0, z1, z2, z3, z4]
set_option maxHeartbeats 1000000 in
theorem eqSite_same (nm : ByteArray) (x y wh st : Int) (w : World) :
    Calls Try.prog 52 #[.agg #[.string nm, .int .i64 x, .int .i64 y, .int .i64 wh, .int .i64 st], .agg #[.string nm, .int .i64 x, .int .i64 y, .int .i64 wh, .int .i64 st]] w (BoolBel true w) := by
  have h1 : (wh != wh) = false := by simp
  have h2 : (st != st) = false := by simp
  have A1 := Lib.hid ((BoxL.new w [.string nm, .int .i64 x, .int .i64 y, .int .i64 wh, .int .i64 st] 88).alloc (.cells #[.string nm, .int .i64 x, .int .i64 y, .int .i64 wh, .int .i64 st] 88))
  have A2 := Lib.hid (BoxL.at_ (w := w.alloc (.cells #[.string nm, .int .i64 x, .int .i64 y, .int .i64 wh, .int .i64 st] 88)) (b := w.heap.size + 1) (vs := [.string nm, .int .i64 x, .int .i64 y, .int .i64 wh, .int .i64 st]) (T := 88) (by simp))
  have L0 := Lib.hid (bA (bA (bR w) (.cells #[.string nm, .int .i64 x, .int .i64 y, .int .i64 wh, .int .i64 st] 88)) (.cells #[.string nm, .int .i64 x, .int .i64 y, .int .i64 wh, .int .i64 st] 88))
  go_enter Try.func52, Try.ntmps52
  go_wp2_with fail
  refine (eqPoint_same _ _ _).mono ?_
  rintro e w1 ⟨rfl, hb⟩
  have L1 := Lib.hid (bT L0.out hb)
  obtain ⟨a0, a1, a2, a3, a4, a5⟩ := (A1.out.keep hb).c5
  obtain ⟨z0, z1, z2, z3, z4, z5⟩ := (A2.out.keep hb).c5
  clear hb A1 A2 L0
  go_wp2_with fail
  go_ret
  exact ⟨rfl, L1.out⟩
/-- The cells of five values, one of them after the other set. -/
theorem set5_at {xs : List Value} {j : Nat} {a b c d e : Value} (h : j * 5 + 4 < xs.length) : (((((xs.set (j * 5) a).set (j * 5 + 1) b).set (j * 5 + 2) c).set (j * 5 + 3) d).set (j * 5 + 4) e)[j * 5]? = some a ∧ (((((xs.set (j * 5) a).set (j * 5 + 1) b).set (j * 5 + 2) c).set (j * 5 + 3) d).set (j * 5 + 4) e)[j * 5 + 1]? = some b ∧
    (((((xs.set (j * 5) a).set (j * 5 + 1) b).set (j * 5 + 2) c).set (j * 5 + 3) d).set (j * 5 + 4) e)[j * 5 + 2]? = some c ∧ (((((xs.set (j * 5) a).set (j * 5 + 1) b).set (j * 5 + 2) c).set (j * 5 + 3) d).set (j * 5 + 4) e)[j * 5 + 3]? = some d ∧ (((((xs.set (j * 5) a).set (j * 5 + 1) b).set (j * 5 + 2) c).set (j * 5 + 3) d).set (j * 5 + 4) e)[j * 5 + 4]? = some e ∧
    ∀ i, i < j * 5 → (((((xs.set (j * 5) a).set (j * 5 + 1) b).set (j * 5 + 2) c).set (j * 5 + 3) d).set (j * 5 + 4) e)[i]? = xs[i]? := by
  refine ⟨?_, ?_, ?_, ?_, ?_, fun i hi => ?_⟩
  · rw [List.getElem?_set_ne (by omega), List.getElem?_set_ne (by omega), List.getElem?_set_ne (by omega), List.getElem?_set_ne (by omega), List.getElem?_set_self (by omega)]
  · rw [List.getElem?_set_ne (by omega), List.getElem?_set_ne (by omega), List.getElem?_set_ne (by omega), List.getElem?_set_self (by simp; omega)]
  · rw [List.getElem?_set_ne (by omega), List.getElem?_set_ne (by omega), List.getElem?_set_self (by simp; omega)]
  · rw [List.getElem?_set_ne (by omega), List.getElem?_set_self (by simp; omega)]
  · rw [List.getElem?_set_self (by simp; omega)]
  · rw [List.getElem?_set_ne (by omega), List.getElem?_set_ne (by omega), List.getElem?_set_ne (by omega), List.getElem?_set_ne (by omega), List.getElem?_set_ne (by omega)]
def ToSiRel (w : World) (ss : List Sit) (i : Value) (wr : World) : Prop :=
  ∃ (j : Nat) (xs : List Value), j ≤ ss.length ∧ i = .int .i64 j ∧ xs.length = ss.length * 5 ∧ wr.ownsRow w.heap.size 88 5 (.slice (some ⟨w.heap.size, 0, none⟩) ss.length ss.length) ss.length xs ∧
    (∀ i, i < j → siI xs i (siAt ss i)) ∧ Below w.heap.size w wr
def ToSiRet (w : World) (ss : List Sit) (e : Ending) (w' : World) : Prop := e = .returned (.slice (some ⟨w.heap.size, 0, none⟩) ss.length ss.length) ∧ OwSi w.heap.size w' (.slice (some ⟨w.heap.size, 0, none⟩) ss.length ss.length) ss ∧ Below w.heap.size w w'
set_option maxHeartbeats 4000000 in
theorem toSiteS_any (a : Option Addr) (len cap : Nat) (ss : List Sit) (w : World) (h : IsSi w a len cap ss) (hlen : ss.length ≤ 1048576) :
    Calls Try.prog 27 #[.slice a len cap] w (ToSiRet w ss) := by
  obtain ⟨i0, hi, hz0, hz1, hz2⟩ := info_parts infoSit
  obtain ⟨⟨l1, l2⟩, l3, hc⟩ := h
  subst l3
  have HC := Lib.hid hc
  clear hc l1 l2
  go_enter Try.func27, Try.ntmps27
  go_wp2_with (at_make; refine wpList_make_full _ rfl _ _ 26 rfl w.heap.size 88 i0 (.agg #[.string ByteArray.empty, .int .i64 0, .int .i64 0, .int .i64 0, .int .i64 0]) 5 Try.underlying26 hi hz0 hz1 .i64 .i64 _ _ ss.length rfl rfl rfl rfl ?m1 ?m2 (Nat.le_refl _) ?_)
  case m1 => rw [hz2]; omega
  case m2 => unfold maxLen; omega
  intro w1 hown hg
  have RS := Lib.hid (show ToSiRel w ss (.int .i64 0) w1 from ⟨0, _, by omega, rfl, made_lenL _ _, by simpa using hown, fun i hi => absurd hi (Nat.not_lt_zero _), grown_low hg⟩)
  clear hown hg
  go_wp2_with fail
  go_loopw [4] (fun i wr => ToSiRel w ss i wr) (fun i _ => ss.length - (intOf i).toNat)
  case atStart => exact RS.out
  case round =>
    obtain ⟨j, xs, hj, rfl, hxl, hrow, hall, hb⟩ := hrel
    have HW := Lib.hid hrow
    have HB := Lib.hid hb
    have HX := Lib.hid hall
    by_cases hlt : j < ss.length
    · obtain ⟨xb, xo, rfl, hx, hc0, hc1, hc2, hc3, hc4, _⟩ := HC.out j hlt
      have c0 := (hb.cell (p := ⟨xb, xo + j * 5, none⟩) hx).trans hc0
      have c1 := (hb.cell (p := ⟨xb, xo + j * 5 + 1, none⟩) hx).trans hc1
      have c2 := (hb.cell (p := ⟨xb, xo + j * 5 + 2, none⟩) hx).trans hc2
      have c3 := (hb.cell (p := ⟨xb, xo + j * 5 + 3, none⟩) hx).trans hc3
      have c4 := (hb.cell (p := ⟨xb, xo + j * 5 + 4, none⟩) hx).trans hc4
      have HP := Lib.hid (show siAt ss j = ⟨(siAt ss j).nm, (siAt ss j).x, (siAt ss j).y, (siAt ss j).wh, (siAt ss j).st⟩ from rfl)
      have hsz : w.heap.size < wr.heap.size := (own_blk hrow _ rfl).2
      have f0 : wr.frozen? ⟨w.heap.size, j * 5, none⟩ = false := hrow.frozenAt (j * 5)
      have f1 : wr.frozen? ⟨w.heap.size, j * 5 + 1, none⟩ = false := hrow.frozenAt (j * 5 + 1)
      have f2 : wr.frozen? ⟨w.heap.size, j * 5 + 2, none⟩ = false := hrow.frozenAt (j * 5 + 2)
      have f3 : wr.frozen? ⟨w.heap.size, j * 5 + 3, none⟩ = false := hrow.frozenAt (j * 5 + 3)
      have f4 : wr.frozen? ⟨w.heap.size, j * 5 + 4, none⟩ = false := hrow.frozenAt (j * 5 + 4)
      clear hrow hb hall hc0 hc1 hc2 hc3 hc4 HC
      generalize (siAt ss j).nm = m0 at *
      generalize (siAt ss j).x = m1 at *
      generalize (siAt ss j).y = m2 at *
      generalize (siAt ss j).wh = m3 at *
      generalize (siAt ss j).st = m4 at *
      go_wp2_with fail
      refine (toSite_any m0 m1 m2 m3 m4 _).mono ?_
      rintro e w2 ⟨rfl, hb2⟩
      have g0 : w2.frozen? ⟨w.heap.size, j * 5, none⟩ = false := (hb2.frozen (p := ⟨w.heap.size, j * 5, none⟩) hsz).trans f0
      have g1 : w2.frozen? ⟨w.heap.size, j * 5 + 1, none⟩ = false := (hb2.frozen (p := ⟨w.heap.size, j * 5 + 1, none⟩) hsz).trans f1
      have g2 : w2.frozen? ⟨w.heap.size, j * 5 + 2, none⟩ = false := (hb2.frozen (p := ⟨w.heap.size, j * 5 + 2, none⟩) hsz).trans f2
      have g3 : w2.frozen? ⟨w.heap.size, j * 5 + 3, none⟩ = false := (hb2.frozen (p := ⟨w.heap.size, j * 5 + 3, none⟩) hsz).trans f3
      have g4 : w2.frozen? ⟨w.heap.size, j * 5 + 4, none⟩ = false := (hb2.frozen (p := ⟨w.heap.size, j * 5 + 4, none⟩) hsz).trans f4
      have W2 := Lib.hid (own_keep HW.out hb2)
      have NR := Lib.hid (((((((W2.out.stored (j * 5) (.string m0)).1).stored (j * 5 + 1) (.int .i64 m1)).1.stored (j * 5 + 2) (.int .i64 m2)).1.stored (j * 5 + 3) (.int .i64 m3)).1.stored (j * 5 + 4) (.int .i64 m4)).1)
      have B2 := Lib.hid (bT HB.out hb2)
      obtain ⟨x0, e0⟩ : ∃ u, w2.cell? ⟨w.heap.size, j * 5, none⟩ = some u := ⟨xs[j * 5]'(by omega), (W2.out.cellAt (j * 5) (by omega)).trans (List.getElem?_eq_getElem (by omega))⟩
      obtain ⟨x1, e1⟩ : ∃ u, w2.cell? ⟨w.heap.size, j * 5 + 1, none⟩ = some u := ⟨xs[j * 5 + 1]'(by omega), (W2.out.cellAt (j * 5 + 1) (by omega)).trans (List.getElem?_eq_getElem (by omega))⟩
      obtain ⟨x2, e2⟩ : ∃ u, w2.cell? ⟨w.heap.size, j * 5 + 2, none⟩ = some u := ⟨xs[j * 5 + 2]'(by omega), (W2.out.cellAt (j * 5 + 2) (by omega)).trans (List.getElem?_eq_getElem (by omega))⟩
      obtain ⟨x3, e3⟩ : ∃ u, w2.cell? ⟨w.heap.size, j * 5 + 3, none⟩ = some u := ⟨xs[j * 5 + 3]'(by omega), (W2.out.cellAt (j * 5 + 3) (by omega)).trans (List.getElem?_eq_getElem (by omega))⟩
      obtain ⟨x4, e4⟩ : ∃ u, w2.cell? ⟨w.heap.size, j * 5 + 4, none⟩ = some u := ⟨xs[j * 5 + 4]'(by omega), (W2.out.cellAt (j * 5 + 4) (by omega)).trans (List.getElem?_eq_getElem (by omega))⟩
      clear hb2 c0 c1 c2 c3 c4 f0 f1 f2 f3 f4 hsz HW HB
      go_wp2_with fail
      go_roundw
      case rel =>
        obtain ⟨s0, s1, s2, s3, s4, s5⟩ := set5_at (xs := xs) (j := j) (a := .string m0) (b := .int .i64 m1) (c := .int .i64 m2) (d := .int .i64 m3) (e := .int .i64 m4) (by omega)
        refine ⟨j + 1, _, by omega, by go_num, by simp [hxl], NR.out, fun i hi => ?_, ((((B2.out.setCell (by simp) _).setCell (by simp) _).setCell (by simp) _).setCell (by simp) _).setCell (by simp) _⟩
        by_cases e : i = j
        · rw [e, HP.out]; exact ⟨s0, s1, s2, s3, s4⟩
        · have := HX.out i (by omega)
          unfold siI
          rw [s5 _ (by omega), s5 _ (by omega), s5 _ (by omega), s5 _ (by omega), s5 _ (by omega)]
          exact this
      case measure => simp [intOf]; omega
    · obtain rfl : j = ss.length := by omega
      have HE := Lib.hid (show OwSi w.heap.size wr (.slice (some ⟨w.heap.size, 0, none⟩) ss.length ss.length) ss from by
        refine ⟨hlen, fun i hi => ?_, ?_⟩
        · obtain ⟨_, _, _, _, _, _, _, _, _, hs⟩ := HC.out i hi
          exact hs
        · rw [← siC_ext hxl hall]; exact hrow)
      clear hrow hb hall
      go_wp2_with fail
      go_ret
      exact ⟨rfl, HE.out, HB.out⟩
end Go.Proofs.Ytmhheecjpalajaa

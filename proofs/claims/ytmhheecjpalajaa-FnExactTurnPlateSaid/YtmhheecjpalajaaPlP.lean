/-
  The contracts of laws.markSiteS, heldSiteS, markPlate, heldPlate.
-/
import Derived.Test.YtmhheecjpalajaaPlD
import Derived.Test.YtmhheecjpalajaaMkT
namespace Go.Proofs.Ytmhheecjpalajaa
open Go.RowKit

/-- The marked sites from k on. -/
def mkSit (k : Nat) : Sit := ⟨mkT k, (k : Int) + 1, (k : Int) + 1 + 1, (k : Int) + 1 + 1 + 1, (k : Int) + 1 + 1 + 1 + 1⟩
def mkSi (k n : Nat) : List Sit := (List.range n).map fun j => mkSit (k + 5 * j)
theorem mkSi_len (k n : Nat) : (mkSi k n).length = n := by simp [mkSi]
theorem mkSi_at {k n j : Nat} (h : j < n) : siAt (mkSi k n) j = mkSit (k + 5 * j) := by
  unfold siAt mkSi; rw [List.getElem?_map, List.getElem?_range h]; rfl
theorem mkT_size {k : Nat} (h : k ≤ 1000000000000) : (mkT k).size ≤ maxLen := by
  unfold mkT maxLen
  rw [arr_size, List.length_cons]
  have := dl_len 20 k (by omega)
  omega
def MarkSiRet (w : World) (B : Nat) (v : Value) (k n : Nat) (e : Ending) (w' : World) : Prop :=
  e = .returned (.int .i64 ((k + 5 * n : Nat) : Int)) ∧ w'.ownsRow B 88 5 v n (siC (mkSi k n)) ∧ w.grownBy w' v.ownBlock
def MarkSiRel (w : World) (B g cap k n : Nat) (q i : Value) (wr : World) : Prop :=
  ∃ (j : Nat) (xs : List Value), j ≤ n ∧ i = .int .i64 j ∧ q = .int .i64 ((k + 5 * j : Nat) : Int) ∧ xs.length = n * 5 ∧ wr.ownsRow B 88 5 (.slice (some ⟨g, 0, none⟩) n cap) n xs ∧ (∀ i, i < j → siI xs i (mkSit (k + 5 * i))) ∧ w.grownBy wr (some g)
theorem gB {a b c : World} {g : Nat} (h : a.grownBy b (some g)) (hb : Below b.heap.size b c) : a.grownBy c (some g) :=
  ⟨hb.os.trans h.os, hb.tape.trans h.tape, hb.output.trans h.output, Nat.le_trans h.size hb.size, fun k hk hn => (hb.block k (Nat.lt_of_lt_of_le hk h.size)).trans (h.block k hk hn)⟩
theorem gS {a b : World} {g o : Nat} {v : Value} (h : a.grownBy b (some g)) : a.grownBy (b.setCell ⟨g, o, none⟩ v) (some g) :=
  ⟨h.os, h.tape, h.output, by simpa [World.setCell] using h.size, fun k hk hn => (Below.heap_setCell _ _ _ _ (fun e => hn (by rw [e]))).trans (h.block k hk hn)⟩
set_option maxHeartbeats 4000000 in
theorem markSiteS_any (k n : Nat) (xs : List Value) (B : Nat) (v : Value) (w : World) (hv : w.ownsRow B 88 5 v n xs) (hxl : xs.length = n * 5) (hmax : n ≤ 10000000) (h1 : 1 ≤ k) (h2 : k ≤ 100000000) :
    Calls Try.prog 30 #[v, .int .i64 (k : Int)] w (MarkSiRet w B v k n) := by
  rcases hv.2 with ⟨rfl, h0⟩ | ⟨g, cap, cur, rfl, hB, hh, r⟩
  · subst h0
    clear hv hmax
    go_enter Try.func30, Try.ntmps30
    go_wp2_with fail
    go_loop [1, 5] (fun q i => i = .int .i64 0 ∧ q = .int .i64 (k : Int)) (fun _ _ => 0)
    case atStart => exact ⟨rfl, rfl⟩
    case round =>
      obtain ⟨rfl, rfl⟩ := hrel
      go_wp2_with fail
      go_ret
      exact ⟨ret_int (by simp), World.ownsRow_nil _ _ _ _, ⟨rfl, rfl, rfl, Nat.le_refl _, fun _ _ _ => rfl⟩⟩
  · have RS := Lib.hid (show MarkSiRel w B g cap k n (.int .i64 (k : Int)) (.int .i64 0) w from ⟨0, xs, by omega, rfl, by simp, hxl, hv, fun i hi => absurd hi (Nat.not_lt_zero _), ⟨rfl, rfl, rfl, Nat.le_refl _, fun _ _ _ => rfl⟩⟩)
    clear hv r hh hxl xs
    go_enter Try.func30, Try.ntmps30
    go_wp2_with fail
    go_loopw [1, 5] (fun q i wr => MarkSiRel w B g cap k n q i wr) (fun _ i _ => n - (intOf i).toNat)
    case atStart => exact RS.out
    case round =>
      obtain ⟨j, xs, hj, rfl, rfl, hxl, hrow, hall, hgr⟩ := hrel
      have HW := Lib.hid hrow
      have HG := Lib.hid hgr
      have HX := Lib.hid hall
      clear hrow hgr hall
      by_cases hlt : j < n
      · go_wp2_with fail
        refine (markText_any (k + 5 * j) _ (by omega) (by omega)).mono ?_
        rintro e w2 ⟨rfl, hb2⟩
        have W2 := Lib.hid (own_keep HW.out hb2)
        have G2 := Lib.hid (gB HG.out hb2)
        have f0 : w2.frozen? ⟨g, j * 5, none⟩ = false := W2.out.frozenAt (j * 5)
        have f1 : w2.frozen? ⟨g, j * 5 + 1, none⟩ = false := W2.out.frozenAt (j * 5 + 1)
        have f2 : w2.frozen? ⟨g, j * 5 + 2, none⟩ = false := W2.out.frozenAt (j * 5 + 2)
        have f3 : w2.frozen? ⟨g, j * 5 + 3, none⟩ = false := W2.out.frozenAt (j * 5 + 3)
        have f4 : w2.frozen? ⟨g, j * 5 + 4, none⟩ = false := W2.out.frozenAt (j * 5 + 4)
        have NR := Lib.hid (((((((W2.out.stored (j * 5) (.string (mkT (k + 5 * j)))).1).stored (j * 5 + 1) (.int .i64 (((k + 5 * j : Nat) : Int) + 1))).1.stored (j * 5 + 2) (.int .i64 (((k + 5 * j : Nat) : Int) + 1 + 1))).1.stored (j * 5 + 3) (.int .i64 (((k + 5 * j : Nat) : Int) + 1 + 1 + 1))).1.stored (j * 5 + 4) (.int .i64 (((k + 5 * j : Nat) : Int) + 1 + 1 + 1 + 1))).1)
        obtain ⟨x0, e0⟩ : ∃ u, w2.cell? ⟨g, j * 5, none⟩ = some u := ⟨xs[j * 5]'(by omega), (W2.out.cellAt (j * 5) (by omega)).trans (List.getElem?_eq_getElem (by omega))⟩
        obtain ⟨x1, e1⟩ : ∃ u, w2.cell? ⟨g, j * 5 + 1, none⟩ = some u := ⟨xs[j * 5 + 1]'(by omega), (W2.out.cellAt (j * 5 + 1) (by omega)).trans (List.getElem?_eq_getElem (by omega))⟩
        obtain ⟨x2, e2⟩ : ∃ u, w2.cell? ⟨g, j * 5 + 2, none⟩ = some u := ⟨xs[j * 5 + 2]'(by omega), (W2.out.cellAt (j * 5 + 2) (by omega)).trans (List.getElem?_eq_getElem (by omega))⟩
        obtain ⟨x3, e3⟩ : ∃ u, w2.cell? ⟨g, j * 5 + 3, none⟩ = some u := ⟨xs[j * 5 + 3]'(by omega), (W2.out.cellAt (j * 5 + 3) (by omega)).trans (List.getElem?_eq_getElem (by omega))⟩
        obtain ⟨x4, e4⟩ : ∃ u, w2.cell? ⟨g, j * 5 + 4, none⟩ = some u := ⟨xs[j * 5 + 4]'(by omega), (W2.out.cellAt (j * 5 + 4) (by omega)).trans (List.getElem?_eq_getElem (by omega))⟩
        have HP := Lib.hid (show mkSit (k + 5 * j) = ⟨mkT (k + 5 * j), ((k + 5 * j : Nat) : Int) + 1, ((k + 5 * j : Nat) : Int) + 1 + 1, ((k + 5 * j : Nat) : Int) + 1 + 1 + 1, ((k + 5 * j : Nat) : Int) + 1 + 1 + 1 + 1⟩ from rfl)
        clear hb2 HW HG
        generalize mkT (k + 5 * j) = mt at *
        go_wp2_with fail
        go_roundw
        case rel =>
          obtain ⟨s0, s1, s2, s3, s4, s5⟩ := set5_at (xs := xs) (j := j) (a := .string mt) (b := .int .i64 (((k + 5 * j : Nat) : Int) + 1)) (c := .int .i64 (((k + 5 * j : Nat) : Int) + 1 + 1)) (d := .int .i64 (((k + 5 * j : Nat) : Int) + 1 + 1 + 1)) (e := .int .i64 (((k + 5 * j : Nat) : Int) + 1 + 1 + 1 + 1)) (by omega)
          refine ⟨j + 1, _, by omega, by go_num, by go_num, by simp [hxl], NR.out, fun i hi => ?_, gS (gS (gS (gS (gS G2.out))))⟩
          by_cases e : i = j
          · rw [e, HP.out]; exact ⟨s0, s1, s2, s3, s4⟩
          · have := HX.out i (by omega)
            unfold siI
            rw [s5 _ (by omega), s5 _ (by omega), s5 _ (by omega), s5 _ (by omega), s5 _ (by omega)]
            exact this
        case measure => simp [intOf]; omega
      · obtain rfl : j = n := by omega
        have HE := Lib.hid (show siC (mkSi k j) = xs from (siC_ext (ss := mkSi k j) (by rw [mkSi_len]; exact hxl) (fun i hi => by rw [mkSi_len] at hi; rw [mkSi_at hi]; exact HX.out i hi)).symm)
        go_wp2_with fail
        go_ret
        exact ⟨rfl, by rw [HE.out]; exact HW.out, HG.out⟩
theorem gA {a b c : World} {row : Option Nat} (hb : Below a.heap.size a b) (h : b.grownBy c row) : a.grownBy c row :=
  ⟨h.os.trans hb.os, h.tape.trans hb.tape, h.output.trans hb.output, Nat.le_trans hb.size h.size, fun k hk hn => (h.block k (Nat.lt_of_lt_of_le hk hb.size) hn).trans (hb.block k hk)⟩
theorem own_slice {W : World} {B : Nat} {t : TypeId} {sz n : Nat} {v : Value} {xs : List Value} (h : W.ownsRow B t sz v n xs) : ∃ ao cap, v = .slice ao n cap := by
  rcases h.2 with ⟨rfl, h0⟩ | ⟨g, cap, cur, rfl, _⟩
  · exact ⟨none, 0, by rw [h0]⟩
  · exact ⟨_, cap, rfl⟩
set_option maxHeartbeats 1000000 in
theorem markPlate_any (p : Pl4) (k n : Nat) (xs : List Value) (B : Nat) (v : Value) (w : World) (hv : w.ownsRow B 88 5 v n xs) (hxl : xs.length = n * 5) (hmax : n ≤ 10000000) (h1 : 1 ≤ k) (h2 : k ≤ 100000000) :
    Calls Try.prog 12 #[plV p v, .int .i64 (k : Int)] w (MarkSiRet w B v k n) := by
  obtain ⟨ao, cap, rfl⟩ := own_slice hv
  obtain ⟨W, H, M, G⟩ := p
  unfold plV
  have L0 := Lib.hid (bA (bR w) (.cells #[.int .i64 W, .int .i64 H, .int .i64 M, .int .i64 G, .slice ao n cap] 28))
  have HA := Lib.hid (own_keep hv L0.out)
  clear hv
  go_enter Try.func12, Try.ntmps12
  go_wp2_with fail
  refine (markSiteS_any k n xs B _ _ HA.out hxl hmax h1 h2).mono ?_
  rintro e w1 ⟨rfl, ho, hg⟩
  have R := Lib.hid ho
  have GW := Lib.hid (gA L0.out hg)
  clear ho hg HA L0
  go_wp2_with fail
  go_ret
  exact ⟨rfl, R.out, GW.out⟩
/-- What stands in a round of the look for marks. -/
def HsQ (w : World) (g i : Nat) (nm : ByteArray) (x y wh st : Int) (w' : World) : Prop :=
  w'.cell? ⟨g, i, none⟩ = some (.string nm) ∧ w'.cell? ⟨g, i + 1, none⟩ = some (.int .i64 x) ∧ w'.cell? ⟨g, i + 2, none⟩ = some (.int .i64 y) ∧ w'.cell? ⟨g, i + 3, none⟩ = some (.int .i64 wh) ∧ w'.cell? ⟨g, i + 4, none⟩ = some (.int .i64 st) ∧ g < w'.heap.size ∧ Below w.heap.size w w'
theorem HsQ.keep {w : World} {g i : Nat} {nm : ByteArray} {x y wh st : Int} {w' w2 : World} (hb : Below w'.heap.size w' w2) (h : HsQ w g i nm x y wh st w') : HsQ w g i nm x y wh st w2 := by
  obtain ⟨c0, c1, c2, c3, c4, e1, e3⟩ := h
  exact ⟨(hb.cell (p := ⟨g, i, none⟩) e1).trans c0, (hb.cell (p := ⟨g, i + 1, none⟩) e1).trans c1, (hb.cell (p := ⟨g, i + 2, none⟩) e1).trans c2, (hb.cell (p := ⟨g, i + 3, none⟩) e1).trans c3, (hb.cell (p := ⟨g, i + 4, none⟩) e1).trans c4, Nat.lt_of_lt_of_le e1 hb.size, bT e3 hb⟩
theorem HsQ.drew {w : World} {g i : Nat} {nm : ByteArray} {x y wh st : Int} {w' : World} (h : HsQ w g i nm x y wh st w') : HsQ w g i nm x y wh st w'.drew := h.keep (bR _).drew
def BelQ (v : Value) (w : World) (e : Ending) (w' : World) : Prop := e = .returned v ∧ Below w.heap.size w w'
set_option maxHeartbeats 2000000 in
theorem heldSiteS_same (k n : Nat) (v : Value) (w : World) (ha : SlSi w v (mkSi k n)) (hmax : n ≤ 10000000) (h1 : 1 ≤ k) (h2 : k ≤ 100000000) :
    Calls Try.prog 31 #[v, .int .i64 (k : Int)] w (BelQ (.int .i64 ((k + 5 * n : Nat) : Int)) w) := by
  obtain ⟨_, ao, cap, rfl, _, ha⟩ := ha
  rw [mkSi_len] at ha ⊢
  have HA := Lib.hid ha
  clear ha
  go_enter Try.func31, Try.ntmps31
  go_wp2_with fail
  go_loopw [1, 5] (fun q i wr => ∃ (j : Nat), j ≤ n ∧ i = .int .i64 j ∧ q = .int .i64 ((k + 5 * j : Nat) : Int) ∧ Below w.heap.size w wr) (fun _ i _ => n - (intOf i).toNat)
  case atStart => exact ⟨0, by omega, rfl, by simp, bR _⟩
  case round =>
    obtain ⟨j, hj, rfl, rfl, hb⟩ := hrel
    have HB := Lib.hid hb
    have hsz := hb.size
    clear hb
    by_cases hlt : j < n
    · obtain ⟨g, rfl, hg, hc⟩ := HA.out (by omega)
      obtain ⟨c0, c1, c2, c3, c4, _⟩ := (hc.keep hg HB.out) j (by rw [mkSi_len]; exact hlt)
      rw [mkSi_at hlt] at c0 c1 c2 c3 c4
      unfold mkSit at c0 c1 c2 c3 c4
      simp only at c0 c1 c2 c3 c4
      have hg' : g < wr.heap.size := by omega
      have HM := Lib.hid (fun (W : World) => markText_any (k + 5 * j) W (by omega) (by omega))
      generalize mkT (k + 5 * j) = x at *
      clear hc HA
      have hn1 : (((k + 5 * j : Nat) : Int) + 1 != ((k + 5 * j : Nat) : Int) + 1) = false := by simp
      have hn2 : (((k + 5 * j : Nat) : Int) + 1 + 1 != ((k + 5 * j : Nat) : Int) + 1 + 1) = false := by simp
      have hn3 : (((k + 5 * j : Nat) : Int) + 1 + 1 + 1 != ((k + 5 * j : Nat) : Int) + 1 + 1 + 1) = false := by simp
      have hn4 : (((k + 5 * j : Nat) : Int) + 1 + 1 + 1 + 1 != ((k + 5 * j : Nat) : Int) + 1 + 1 + 1 + 1) = false := by simp
      have HS : HsQ w g (j * 5) x (((k + 5 * j : Nat) : Int) + 1) (((k + 5 * j : Nat) : Int) + 1 + 1) (((k + 5 * j : Nat) : Int) + 1 + 1 + 1) (((k + 5 * j : Nat) : Int) + 1 + 1 + 1 + 1) wr := ⟨c0, c1, c2, c3, c4, hg', HB.out⟩
      go_wp2_with fail
      go_region_held3 (fun w' => w'.cell? ⟨g, j * 5, none⟩ = some (.string x) ∧ w'.cell? ⟨g, j * 5 + 1, none⟩ = some (.int .i64 (((k + 5 * j : Nat) : Int) + 1)) ∧ w'.cell? ⟨g, j * 5 + 2, none⟩ = some (.int .i64 (((k + 5 * j : Nat) : Int) + 1 + 1)) ∧ w'.cell? ⟨g, j * 5 + 3, none⟩ = some (.int .i64 (((k + 5 * j : Nat) : Int) + 1 + 1 + 1)) ∧ w'.cell? ⟨g, j * 5 + 4, none⟩ = some (.int .i64 (((k + 5 * j : Nat) : Int) + 1 + 1 + 1 + 1)) ∧ g < w'.heap.size ∧ Below w.heap.size w w') (first | exact HS.drew | exact HsQ.keep hb (by assumption))
        ((go_at_call 53; refine (HM.out _).mono ?_; rintro e w' ⟨rfl, hb⟩))
      have HT : HsQ w g (j * 5) x (((k + 5 * j : Nat) : Int) + 1) (((k + 5 * j : Nat) : Int) + 1 + 1) (((k + 5 * j : Nat) : Int) + 1 + 1 + 1) (((k + 5 * j : Nat) : Int) + 1 + 1 + 1 + 1) w' := by assumption
      have HU := Lib.hid HT.2.2.2.2.2.2
      obtain ⟨c0, c1, c2, c3, c4, _, _⟩ := id HT
      clear hb HT HS
      go_wp2_with fail
      go_roundw
      case rel => exact ⟨j + 1, by omega, by go_num, by go_num, HU.out⟩
      case measure => simp [intOf]; omega
    · obtain rfl : j = n := by omega
      go_wp2_with fail
      go_ret
      exact ⟨rfl, HB.out⟩
set_option maxHeartbeats 1000000 in
theorem heldPlate_same (p : Pl4) (k n : Nat) (v : Value) (w : World) (ha : SlSi w v (mkSi k n)) (hmax : n ≤ 10000000) (h1 : 1 ≤ k) (h2 : k ≤ 100000000) :
    Calls Try.prog 13 #[plV p v, .int .i64 (k : Int)] w (BelQ (.int .i64 ((k + 5 * n : Nat) : Int)) w) := by
  obtain ⟨_, a0, n0, rfl, _⟩ := id ha
  obtain ⟨W, H, M, G⟩ := p
  unfold plV
  have L0 := Lib.hid (bA (bR w) (.cells #[.int .i64 W, .int .i64 H, .int .i64 M, .int .i64 G, .slice a0 (mkSi k n).length n0] 28))
  have HA := Lib.hid (ha.keep L0.out)
  have hk : ¬ ((k + 5 * n : Nat) : Int) < 0 := by omega
  clear ha
  go_enter Try.func13, Try.ntmps13
  go_wp2_with fail
  refine (heldSiteS_same k n _ _ HA.out hmax h1 h2).mono ?_
  rintro e w1 ⟨rfl, hb⟩
  have L1 := Lib.hid (bT L0.out hb)
  clear hb
  go_wp2_with fail
  go_ret
  exact ⟨rfl, L1.out⟩
end Go.Proofs.Ytmhheecjpalajaa

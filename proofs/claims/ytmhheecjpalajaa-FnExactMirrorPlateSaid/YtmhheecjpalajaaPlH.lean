/-
  Sites in a row of one's own, written in place.
-/
import Derived.Test.YtmhheecjpalajaaPlX
import Derived.Test.YtmhheecjpalajaaPlP
import Derived.Lib.SmallJoins
namespace Go.Proofs.Ytmhheecjpalajaa
open Go.RowKit

theorem ownsRow_setAt {w : World} {B : Nat} {e : TypeId} {size g n cap j : Nat} {xs : List Value} (h : w.ownsRow B e size (.slice (some ⟨g, 0, none⟩) n cap) n xs) (_hj : j < n * size) (u : Value) :
    (w.setCell ⟨g, j, none⟩ u).ownsRow B e size (.slice (some ⟨g, 0, none⟩) n cap) n (xs.set j u) := by
  obtain ⟨hl, h0 | ⟨g', cap', cur, e1, hB, hh, h1, h2, h3, h4⟩⟩ := h
  · cases h0.1
  · cases e1
    refine ⟨by simp [hl], .inr ⟨g, cap, cur.setIfInBounds j u, rfl, hB, ?_, h1, h2, by simp [h3], ?_⟩⟩
    · simp [World.setCell, Array.getElem?_modify, hh]
    · rw [Array.toList_setIfInBounds, ← h4, List.take_set]
theorem siAt_set {ss : List Sit} {i k : Nat} {s : Sit} (hi : i < ss.length) : siAt (ss.set i s) k = if i = k then s else siAt ss k := by
  unfold siAt
  rw [List.getElem?_set]
  split
  · simp
  · rfl
theorem siC_set1 : ∀ (ss : List Sit) (i : Nat) (x : Int), i < ss.length → (siC ss).set (i * 5 + 1) (.int .i64 x) = siC (ss.set i ⟨(siAt ss i).nm, x, (siAt ss i).y, (siAt ss i).wh, (siAt ss i).st⟩)
  | s :: ss, 0, x, _ => by
    rw [List.set_cons_zero, siC_cons, siC_cons]; rfl
  | s :: ss, i + 1, x, h => by
    have ih := siC_set1 ss i x (by simpa using h)
    have e : (i + 1) * 5 + 1 = i * 5 + 1 + 1 + 1 + 1 + 1 + 1 := by omega
    rw [List.set_cons_succ, siC_cons, siC_cons, e]
    simp only [List.set_cons_succ]
    rw [ih]; rfl
theorem siC_set2 : ∀ (ss : List Sit) (i : Nat) (y : Int), i < ss.length → (siC ss).set (i * 5 + 2) (.int .i64 y) = siC (ss.set i ⟨(siAt ss i).nm, (siAt ss i).x, y, (siAt ss i).wh, (siAt ss i).st⟩)
  | s :: ss, 0, y, _ => by
    rw [List.set_cons_zero, siC_cons, siC_cons]; rfl
  | s :: ss, i + 1, y, h => by
    have ih := siC_set2 ss i y (by simpa using h)
    have e : (i + 1) * 5 + 2 = i * 5 + 2 + 1 + 1 + 1 + 1 + 1 := by omega
    rw [List.set_cons_succ, siC_cons, siC_cons, e]
    simp only [List.set_cons_succ]
    rw [ih]; rfl
/-- The first k sites were changed by f. -/
def upK (f : Sit → Sit) (ss : List Sit) (k : Nat) : List Sit := (ss.take k).map f ++ ss.drop k
theorem upK_len (f : Sit → Sit) (ss : List Sit) (k : Nat) : (upK f ss k).length = ss.length := by
  simp [upK]; omega
theorem upK_zero (f : Sit → Sit) (ss : List Sit) : upK f ss 0 = ss := by simp [upK]
theorem upK_all (f : Sit → Sit) (ss : List Sit) : upK f ss ss.length = ss.map f := by simp [upK]
theorem upK_at {f : Sit → Sit} {ss : List Sit} {k : Nat} (h : k < ss.length) : siAt (upK f ss k) k = siAt ss k := by
  unfold siAt upK
  rw [List.getElem?_append_right (by simp; omega)]
  simp
  rw [show min k ss.length = k by omega]; simp
theorem upK_succ {f : Sit → Sit} {ss : List Sit} {k : Nat} (h : k < ss.length) : upK f ss (k + 1) = (upK f ss k).set k (f (siAt ss k)) := by
  apply List.ext_getElem?
  intro j
  unfold upK
  rw [List.getElem?_set]
  by_cases hj : k = j
  · subst hj
    rw [if_pos rfl, List.getElem?_append_left (by simp; omega)]
    simp [List.getElem?_map, List.getElem?_take_of_lt, siAt, List.getElem?_eq_getElem h]
    omega
  · rw [if_neg hj]
    by_cases hlt : j < k
    · rw [List.getElem?_append_left (by simp; omega), List.getElem?_append_left (by simp; omega)]
      simp [List.getElem?_map, List.getElem?_take_of_lt, hlt, show j < k + 1 by omega]
    · rw [List.getElem?_append_right (by simp; omega), List.getElem?_append_right (by simp; omega)]
      simp
      rw [show min (k + 1) ss.length = k + 1 by omega, show min k ss.length = k by omega]
      congr 1; omega
end Go.Proofs.Ytmhheecjpalajaa
namespace Go.Proofs.Ytmhheecjpalajaa
open Go.RowKit Go.Joins

theorem own_unfrozen {w : World} {B : Nat} {e : TypeId} {size g n cap o : Nat} {xs : List Value} (h : w.ownsRow B e size (.slice (some ⟨g, 0, none⟩) n cap) n xs) : w.frozen? ⟨g, o, none⟩ = false := by
  obtain ⟨_, h0 | ⟨g', cap', cur, e1, hB, hh, _⟩⟩ := h
  · cases h0.1
  · cases e1
    simp [World.frozen?, hh]
/-- What stands between two rounds of mirror. -/
def MrR (w : World) (B b : Nat) (W H M G : Int) (v : Value) (f : Sit → Sit) (ss : List Sit) (i : Value) (wr : World) : Prop :=
  ∃ k : Nat, k ≤ ss.length ∧ i = .int .i64 k ∧ BoxL wr b [.int .i64 W, .int .i64 H, .int .i64 M, .int .i64 G, v] ∧ wr.ownsRow B 88 5 v ss.length (siC (upK f ss k)) ∧ Below B w wr
def MrPost (w : World) (B b : Nat) (W H M G : Int) (v : Value) (f : Sit → Sit) (ss : List Sit) (e : Ending) (w' : World) : Prop :=
  e = .returned (.tuple #[]) ∧ BoxL w' b [.int .i64 W, .int .i64 H, .int .i64 M, .int .i64 G, v] ∧ w'.ownsRow B 88 5 v ss.length (siC (ss.map f)) ∧ Below B w w'
theorem belowB {B : Nat} {w x y : World} (h : Below B w x) (hB : B ≤ x.heap.size) (k : Below x.heap.size x y) : Below B w y := h.trans (k.mono hB)
set_option maxRecDepth 100000 in
set_option maxHeartbeats 4000000 in
theorem mirror_any (w : World) (B b : Nat) (W H M G : Int) (v : Value) (ss : List Sit) (hX : BoxL w b [.int .i64 W, .int .i64 H, .int .i64 M, .int .i64 G, v]) (hO : w.ownsRow B 88 5 v ss.length (siC ss)) (_hB : B ≤ w.heap.size) (hb : b < B) (hl : ss.length ≤ 20) (hW : 1 ≤ W ∧ W ≤ 10000) (hs : ∀ i, i < ss.length → 0 ≤ (siAt ss i).x ∧ (siAt ss i).x ≤ W) :
    Calls Try.prog 77 #[.pointer (some ⟨b, 0, none⟩)] w (MrPost w B b W H M G v (mvS W H 1) ss) := by
  obtain ⟨ao, cap, rfl⟩ := own_slice hO
  have HS := Lib.hid hs
  have RS := Lib.hid (show MrR w B b W H M G (.slice ao ss.length cap) (mvS W H 1) ss (.int .i64 0) w from ⟨0, by omega, rfl, hX, by rw [upK_zero]; exact hO, Below.refl _ _⟩)
  obtain ⟨x0, x1, x2, x3, x4, x5⟩ := hX.c5
  clear hO hX hs
  go_enter Try.func77, Try.ntmps77
  go_wp2_with fail
  clear x0 x1 x2 x3 x4
  go_loopw [9] (fun i wr => MrR w B b W H M G (.slice ao ss.length cap) (mvS W H 1) ss i wr) (fun i _ => ss.length - (intOf i).toNat)
  case atStart => exact RS.out
  case round =>
    obtain ⟨k, hk, rfl, hX, hO, hL⟩ := hrel
    have X := Lib.hid hX
    have O := Lib.hid hO
    have L := Lib.hid hL
    clear RS hX hO hL
    by_cases hlt : k < ss.length
    · obtain ⟨g, cap', e1⟩ := ownsRow_form O.out (by omega)
      cases e1
      have hgB := own_blk O.out g rfl
      have fr := fun o => own_unfrozen (o := o) O.out
      obtain ⟨d0, d1, d2, d3, d4⟩ := siC_at (upK (mvS W H 1) ss k) k (by rw [upK_len]; exact hlt)
      rw [upK_at hlt] at d0 d1 d2 d3 d4
      have e0 := (O.out.cellAt (k * 5) (by omega)).trans d0
      have e1 := (O.out.cellAt (k * 5 + 1) (by omega)).trans d1
      have e2 := (O.out.cellAt (k * 5 + 2) (by omega)).trans d2
      have e3 := (O.out.cellAt (k * 5 + 3) (by omega)).trans d3
      have e4 := (O.out.cellAt (k * 5 + 4) (by omega)).trans d4
      have f1 := fr (k * 5 + 1)
      have hsk := HS.out k hlt
      clear d0 d1 d2 d3 d4 fr
      obtain ⟨x0, x1, x2, x3, x4, x5⟩ := X.out.c5
      generalize hsi : siAt ss k = sk at *
      have hgb : ¬ g = b := by omega
      obtain ⟨m0, m1, m2, m3, m4⟩ := sk
      simp only at *
      go_wp2_with fail
      go_region
      go_wp2_with fail
      have KB : Below (wr.setCell ⟨g, k * 5 + 1, none⟩ (.int .i64 (W - m1))).heap.size (wr.setCell ⟨g, k * 5 + 1, none⟩ (.int .i64 (W - m1))) ((wr.setCell ⟨g, k * 5 + 1, none⟩ (.int .i64 (W - m1))).alloc (.cells #[.string m0, .int .i64 m1, .int .i64 m2, .int .i64 m3, .int .i64 m4] 88)).drew := (bA (bR _) _).drew
      have hsz : (wr.setCell ⟨g, k * 5 + 1, none⟩ (.int .i64 (W - m1))).heap.size = wr.heap.size := by simp [World.setCell]
      have O1 := ownsRow_setAt O.out (j := k * 5 + 1) (by omega) (.int .i64 (W - m1))
      rw [siC_set1 _ k _ (by rw [upK_len]; exact hlt), upK_at hlt, hsi] at O1
      have HU := upK_succ (f := mvS W H 1) hlt
      rw [hsi, mvS_1] at HU
      rw [show (upK (mvS W H 1) ss k).set k ⟨m0, W - m1, m2, m3, m4⟩ = upK (mvS W H 1) ss (k + 1) from HU.symm] at O1
      exact ⟨⟨k + 1, by omega, by congr 1, (X.out.other (Ne.symm hgb)).keep KB, own_keep O1 KB, belowB (L.out.setCell hgB.1 _) (by rw [hsz]; omega) KB⟩, by simp [intOf]; omega⟩
    · obtain rfl : k = ss.length := by omega
      go_wp2_with fail
      go_end0
      exact ⟨rfl, X.out, by have := O.out; rw [upK_all] at this; exact this, L.out⟩
end Go.Proofs.Ytmhheecjpalajaa

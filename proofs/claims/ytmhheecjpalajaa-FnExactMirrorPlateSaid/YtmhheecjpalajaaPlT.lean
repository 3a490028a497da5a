/-
  Moved plates: the program's side, by pointer: impl.Plate.exchangeAxes.
-/
import Derived.Test.YtmhheecjpalajaaPlH
namespace Go.Proofs.Ytmhheecjpalajaa
open Go.RowKit Go.Joins

theorem BoxL.setIP {w : World} {b i : Nat} {vs : List Value} {v u : Value} (h : BoxL w b vs) (hi : vs[i]? = some u) : BoxL (w.setCell ⟨b, i, none⟩ v) b (vs.set i v) := by
  have hl : i < vs.length := by
    by_cases hl : i < vs.length
    · exact hl
    · rw [List.getElem?_eq_none (by omega)] at hi; cases hi
  have c0 := h.c i u hi
  refine ⟨fun j y e => ?_, fun j y e => ?_, by simpa [World.setCell] using h.lt⟩
  · by_cases hj : j = i
    · subst hj
      rw [List.getElem?_set_self hl] at e
      cases e
      simp [go_sem, c0]
    · rw [List.getElem?_set_ne (Ne.symm hj)] at e
      have := h.c j y e
      simp [go_sem, this]
  · by_cases hj : j = i
    · subst hj
      have := h.f j u hi
      simp [go_sem, this]
    · rw [List.getElem?_set_ne (Ne.symm hj)] at e
      have := h.f j y e
      simp [go_sem, this]
/-- A site whose axes are exchanged. -/
def swS (s : Sit) : Sit := ⟨s.nm, s.y, s.x, s.wh, s.st⟩
theorem swS_mv (W H : Int) (s : Sit) : mvS H W 1 (swS s) = mvS W H 2 s := by rw [mvS_1, mvS_2]; rfl
/-- The blocks below B but b stand. -/
def KeepB (B b : Nat) (w w' : World) : Prop := ∀ k, k < B → k ≠ b → w'.heap[k]? = w.heap[k]?
def ExPost (w : World) (B b : Nat) (H W M G : Int) (v : Value) (ss : List Sit) (e : Ending) (w' : World) : Prop :=
  e = .returned (.tuple #[]) ∧ BoxL w' b [.int .i64 H, .int .i64 W, .int .i64 M, .int .i64 G, v] ∧ w'.ownsRow B 88 5 v ss.length (siC (ss.map swS)) ∧ Below b w w' ∧ KeepB B b w w'
set_option maxRecDepth 100000 in
set_option maxHeartbeats 4000000 in
theorem exchange_any (w : World) (B b : Nat) (W H M G : Int) (v : Value) (ss : List Sit) (hX : BoxL w b [.int .i64 W, .int .i64 H, .int .i64 M, .int .i64 G, v]) (hO : w.ownsRow B 88 5 v ss.length (siC ss)) (hB : B ≤ w.heap.size) (hb : b < B) (hl : ss.length ≤ 20) :
    Calls Try.prog 76 #[.pointer (some ⟨b, 0, none⟩)] w (ExPost w B b H W M G v ss) := by
  obtain ⟨ao, cap, rfl⟩ := own_slice hO
  have hX0 := Lib.hid hX
  obtain ⟨x0, x1, x2, x3, x4, x5⟩ := hX.c5
  obtain ⟨f0, f1, f2, f3, f4⟩ := hX.f5
  go_enter Try.func76, Try.ntmps76
  go_wp2_with fail
  go_region
  go_wp2_with fail
  have hgb0 : (Value.slice ao ss.length cap).ownBlock ≠ some b := fun e => by have := (own_blk hO b e).1; omega
  have DR : Below ((w.setCell ⟨b, 0, none⟩ (.int .i64 H)).setCell ⟨b, 1, none⟩ (.int .i64 W)).heap.size ((w.setCell ⟨b, 0, none⟩ (.int .i64 H)).setCell ⟨b, 1, none⟩ (.int .i64 W)) ((w.setCell ⟨b, 0, none⟩ (.int .i64 H)).setCell ⟨b, 1, none⟩ (.int .i64 W)).drew := (bR _).drew
  have X1 := ((show BoxL ((w.setCell ⟨b, 0, none⟩ (.int .i64 H)).setCell ⟨b, 1, none⟩ (.int .i64 W)) b [.int .i64 H, .int .i64 W, .int .i64 M, .int .i64 G, .slice ao ss.length cap] from (hX0.out.setIP (i := 0) (v := .int .i64 H) rfl).setIP (i := 1) (v := .int .i64 W) rfl)).keep DR
  have O1 := own_keep (ownsRow_setCell_other (a := ⟨b, 1, none⟩) (ownsRow_setCell_other (a := ⟨b, 0, none⟩) hO hgb0 (.int .i64 H)) hgb0 (.int .i64 W)) DR
  have BB := Lib.hid ((((Below.refl b w).setCell (p := ⟨b, 0, none⟩) (Nat.le_refl _) (.int .i64 H)).setCell (p := ⟨b, 1, none⟩) (Nat.le_refl _) (.int .i64 W)).trans (DR.mono (by have := hX0.out.lt; simp [World.setCell]; omega)))
  have hsz0 : ((w.setCell ⟨b, 0, none⟩ (.int .i64 H)).setCell ⟨b, 1, none⟩ (.int .i64 W)).heap.size = w.heap.size := by simp [World.setCell]
  have KK := Lib.hid (show KeepB B b w ((w.setCell ⟨b, 0, none⟩ (.int .i64 H)).setCell ⟨b, 1, none⟩ (.int .i64 W)).drew from fun k hk hn => (DR.block k (by rw [hsz0]; omega)).trans ((Below.heap_setCell _ ⟨b, 1, none⟩ _ k hn).trans (Below.heap_setCell _ ⟨b, 0, none⟩ _ k hn)))
  clear hsz0
  generalize hW1 : ((w.setCell ⟨b, 0, none⟩ (.int .i64 H)).setCell ⟨b, 1, none⟩ (.int .i64 W)).drew = W1 at *
  have RS := Lib.hid (show MrR W1 B b H W M G (.slice ao ss.length cap) swS ss (.int .i64 0) W1 from ⟨0, by omega, rfl, X1, by rw [upK_zero]; exact O1, Below.refl _ _⟩)
  clear X1 O1 hW1 DR hO x0 x1 x2 x3 x4 x5 f0 f1 f2 f3 f4 hgb0
  go_loopw [23] (fun i wr => MrR W1 B b H W M G (.slice ao ss.length cap) swS ss i wr) (fun i _ => ss.length - (intOf i).toNat)
  case atStart => exact RS.out
  case round =>
    obtain ⟨k, hk, rfl, hX, hO, hL⟩ := hrel
    have X := Lib.hid hX
    have O := Lib.hid hO
    have L := Lib.hid hL
    clear RS hX hO hL
    by_cases hlt : k < ss.length
    · obtain ⟨g, cap', e1⟩ := ownsRow_form O.out (by omega)
      cases e1
      have hgB := own_blk O.out g rfl
      have fr := fun o => own_unfrozen (o := o) O.out
      obtain ⟨d0, d1, d2, d3, d4⟩ := siC_at (upK swS ss k) k (by rw [upK_len]; exact hlt)
      rw [upK_at hlt] at d0 d1 d2 d3 d4
      have e0 := (O.out.cellAt (k * 5) (by omega)).trans d0
      have e1 := (O.out.cellAt (k * 5 + 1) (by omega)).trans d1
      have e2 := (O.out.cellAt (k * 5 + 2) (by omega)).trans d2
      have e3 := (O.out.cellAt (k * 5 + 3) (by omega)).trans d3
      have e4 := (O.out.cellAt (k * 5 + 4) (by omega)).trans d4
      have f1 := fr (k * 5 + 1)
      have f2 := fr (k * 5 + 2)
      clear d0 d1 d2 d3 d4 fr
      obtain ⟨x0, x1, x2, x3, x4, x5⟩ := X.out.c5
      generalize hsi : siAt ss k = sk at *
      have hgb : ¬ g = b := by omega
      obtain ⟨m0, m1, m2, m3, m4⟩ := sk
      simp only at *
      go_wp2_with fail
      go_region
      go_wp2_with fail
      have KB : Below ((wr.setCell ⟨g, k * 5 + 1, none⟩ (.int .i64 m2)).setCell ⟨g, k * 5 + 1 + 1, none⟩ (.int .i64 m1)).heap.size ((wr.setCell ⟨g, k * 5 + 1, none⟩ (.int .i64 m2)).setCell ⟨g, k * 5 + 1 + 1, none⟩ (.int .i64 m1)) (((wr.setCell ⟨g, k * 5 + 1, none⟩ (.int .i64 m2)).setCell ⟨g, k * 5 + 1 + 1, none⟩ (.int .i64 m1)).alloc (.cells #[.string m0, .int .i64 m1, .int .i64 m2, .int .i64 m3, .int .i64 m4] 88)).drew := (bA (bR _) _).drew
      have hsz : ((wr.setCell ⟨g, k * 5 + 1, none⟩ (.int .i64 m2)).setCell ⟨g, k * 5 + 1 + 1, none⟩ (.int .i64 m1)).heap.size = wr.heap.size := by simp [World.setCell]
      have O1 := ownsRow_setAt O.out (j := k * 5 + 1) (by omega) (.int .i64 m2)
      have hkl : k < (upK swS ss k).length := by rw [upK_len]; exact hlt
      rw [siC_set1 _ k _ hkl, upK_at hlt, hsi] at O1
      have O2 := ownsRow_setAt O1 (j := k * 5 + 1 + 1) (by omega) (.int .i64 m1)
      rw [show k * 5 + 1 + 1 = k * 5 + 2 by omega, siC_set2 _ k _ (by rw [List.length_set]; exact hkl), siAt_set hkl, if_pos rfl, List.set_set] at O2
      have HU := upK_succ (f := swS) hlt
      rw [hsi] at HU
      rw [show (upK swS ss k).set k ⟨m0, m2, m1, m3, m4⟩ = upK swS ss (k + 1) from HU.symm] at O2
      exact ⟨⟨k + 1, by omega, by congr 1, ((X.out.other (Ne.symm hgb)).other (Ne.symm hgb)).keep KB, own_keep O2 KB, belowB ((L.out.setCell hgB.1 _).setCell hgB.1 _) (by rw [hsz]; omega) KB⟩, by simp [intOf]; omega⟩
    · obtain rfl : k = ss.length := by omega
      go_wp2_with fail
      go_end0
      exact ⟨rfl, X.out, by have := O.out; rw [upK_all] at this; exact this, BB.out.trans (L.out.mono (by omega)), fun k hk hn => (L.out.block k hk).trans (KK.out k hk hn)⟩
end Go.Proofs.Ytmhheecjpalajaa

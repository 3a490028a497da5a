/-
  Moved plates: the document's side, mirrored.
-/
import Derived.Test.YtmhheecjpalajaaPlX
import Derived.Test.YtmhheecjpalajaaPlP
namespace Go.Proofs.Ytmhheecjpalajaa
open Go.RowKit

/-- What a plate that was moved is. -/
def MvRet (p : Pl4) (m : Int) (ss : List Sit) (w : World) (e : Ending) (w' : World) : Prop :=
  ∃ u, e = .returned (plV (mvP p m) u) ∧ OwSi w.heap.size w' u (mvL p.W p.H m ss ss.length) ∧ Below w.heap.size w w'
set_option maxRecDepth 100000 in
set_option maxHeartbeats 8000000 in
theorem l09MoveM_any (p : Pl4) (ss : List Sit) (v : Value) (w : World) (ha : SlSi w v ss) (hok : okPl p.W p.H p.M p.G ss = true) :
    Calls Try.prog 26 #[plV p v, .int .i64 1] w (MvRet p 1 ss w) := by
  obtain ⟨W, H, M, G⟩ := p
  obtain ⟨h0, ao, cap, rfl, hcp, hc⟩ := ha
  unfold plV
  simp only at hok ⊢
  obtain ⟨⟨hW1, hW2⟩, ⟨hH1, hH2⟩, _, _, h20, _⟩ := okPl_parts hok
  have X2 := Lib.hid (((BoxL.new w [.int .i64 W, .int .i64 H, .int .i64 M, .int .i64 G, .slice ao ss.length cap] 28).alloc (.cells #[.int .i64 0, .int .i64 0, .int .i64 0, .int .i64 0, .slice none 0 0] 28)).alloc (.cells #[.int .i64 W, .int .i64 H, .int .i64 M, .int .i64 G, .slice none 0 0] 28))
  have X4 := Lib.hid ((BoxL.at_ (w := w.alloc (.cells #[.int .i64 W, .int .i64 H, .int .i64 M, .int .i64 G, .slice ao ss.length cap] 28)) (b := w.heap.size + 1) (vs := [.int .i64 0, .int .i64 0, .int .i64 0, .int .i64 0, .slice none 0 0]) (T := 28) (by simp)).alloc (.cells #[.int .i64 W, .int .i64 H, .int .i64 M, .int .i64 G, .slice none 0 0] 28))
  have X5 := Lib.hid (BoxL.at_ (w := (w.alloc (.cells #[.int .i64 W, .int .i64 H, .int .i64 M, .int .i64 G, .slice ao ss.length cap] 28)).alloc (.cells #[.int .i64 0, .int .i64 0, .int .i64 0, .int .i64 0, .slice none 0 0] 28)) (b := w.heap.size + 1 + 1) (vs := [.int .i64 W, .int .i64 H, .int .i64 M, .int .i64 G, .slice none 0 0]) (T := 28) (by simp))
  have L0 := Lib.hid (bA (bA (bA (bR w) (.cells #[.int .i64 W, .int .i64 H, .int .i64 M, .int .i64 G, .slice ao ss.length cap] 28)) (.cells #[.int .i64 0, .int .i64 0, .int .i64 0, .int .i64 0, .slice none 0 0] 28)) (.cells #[.int .i64 W, .int .i64 H, .int .i64 M, .int .i64 G, .slice none 0 0] 28))
  have HC := Lib.hid hc
  have HB := Lib.hid (fun i (hi : i < ss.length) => siB_bd (okPl_site hok hi))
  obtain ⟨c0, c1, c2, c3, c4, c5⟩ := X2.out.c5
  clear hc hok
  go_enter Try.func26, Try.ntmps26
  go_wp2_with fail
  generalize ((w.alloc (.cells #[.int .i64 W, .int .i64 H, .int .i64 M, .int .i64 G, .slice ao ss.length cap] 28)).alloc (.cells #[.int .i64 0, .int .i64 0, .int .i64 0, .int .i64 0, .slice none 0 0] 28)).alloc (.cells #[.int .i64 W, .int .i64 H, .int .i64 M, .int .i64 G, .slice none 0 0] 28) = W0 at *
  generalize hb5 : w.heap.size + 1 + 1 = b5 at *
  generalize hb4 : w.heap.size + 1 = b4 at *
  have hlt5 := X5.out.lt
  have RS := Lib.hid (show MvR w W0.heap.size w.heap.size b4 b5 [.int .i64 W, .int .i64 H, .int .i64 M, .int .i64 G, .slice ao ss.length cap] [.int .i64 0, .int .i64 0, .int .i64 0, .int .i64 0, .slice none 0 0] W H M G W H 1 ss (.int .i64 0) W0 from ⟨0, _, by omega, rfl, X2.out, X4.out, X5.out, World.ownsRow_nil _ _ _ _, Nat.le_refl _, L0.out⟩)
  clear c0 c1 c2 c3 c4 c5 X2 X4 X5 L0
  go_loopw [6] (fun i wr => MvR w W0.heap.size w.heap.size b4 b5 [.int .i64 W, .int .i64 H, .int .i64 M, .int .i64 G, .slice ao ss.length cap] [.int .i64 0, .int .i64 0, .int .i64 0, .int .i64 0, .slice none 0 0] W H M G W H 1 ss i wr) (fun i _ => ss.length - (intOf i).toNat)
  case atStart => exact RS.out
  case round =>
    obtain ⟨k, v, hk, rfl, hX2, hX4, hX5, hrow, hB, hL⟩ := hrel
    obtain ⟨ro, rc, rfl⟩ := own_slice hrow
    have FR := Lib.hid (fun (r : Nat) (e : (Value.slice ro k rc).ownBlock = some r) => (own_blk hrow r (show (Value.slice ro (mvL W H 1 ss k).length rc).ownBlock = some r from by rw [mvL_len W H 1 hk]; exact e)).1)
    have X2 := Lib.hid hX2
    have X4 := Lib.hid hX4
    have X5 := Lib.hid hX5
    have R := Lib.hid hrow
    have L := Lib.hid hL
    obtain ⟨x0, x1, x2, x3, x4, x5⟩ := hX2.c5
    obtain ⟨y0, y1, y2, y3, y4, y5⟩ := hX5.c5
    have hml := mvL_len W H 1 hk
    by_cases hlt : k < ss.length
    · obtain ⟨g, rfl, hg, hc⟩ := HC.out (by omega)
      obtain ⟨d0, d1, d2, d3, d4, hsz⟩ := (hc.keep hg hL) k hlt
      obtain ⟨_, ⟨hx1, hx2⟩, ⟨hy1, hy2⟩, _, _, _⟩ := HB.out k hlt
      have HM := Lib.hid (mvL_succ W H 1 hlt)
      clear hX2 hX4 hX5 hrow hL hc RS HB
      generalize siAt ss k = sk at *
      obtain ⟨m0, m1, m2, m3, m4⟩ := sk
      simp only at *
      have BC := bA (bA (bR wr) (.cells #[.string m0, .int .i64 m1, .int .i64 m2, .int .i64 m3, .int .i64 m4] 88)) (.cells #[.int .i64 (W - m1), .int .i64 m2] 86)
      have R2 := Lib.hid (show World.ownsRow _ W0.heap.size 88 5 (.slice ro k rc) (mvL W H 1 ss k).length (siC (mvL W H 1 ss k)) from by have h := own_keep R.out BC; rw [hml] at h ⊢; exact h)
      have Z2 := Lib.hid (X2.out.keep BC)
      have Z4 := Lib.hid (X4.out.keep BC)
      have Z5 := Lib.hid (X5.out.keep BC)
      have LB := Lib.hid (bT L.out BC)
      have hB2 := BC.size
      clear BC
      go_wp2_with (at_builtin; go_loud (refine app_si rfl _ _ rfl _ (mvL W H 1 ss k) ⟨m0, W - m1, m2, m3, m4⟩ rfl R2.out (Nat.le_trans hB hB2) (by show Value.slice (some ⟨wr.heap.size + 1 + 1, 0, none⟩) 1 1 = _; simp) (by omega) ?_))
      intro v' w' hr' hg'
      obtain ⟨ro', rc', rfl⟩ := own_slice hr'
      have N2 := Lib.hid (Z2.out.grownQ hg' (fun e => by have := FR.out _ e.symm; have := L.out.size; omega))
      have N4 := Lib.hid (Z4.out.grownQ hg' (fun e => by have := FR.out _ e.symm; omega))
      have N5 := Lib.hid (Z5.out.grownQ hg' (fun e => by have := FR.out _ e.symm; omega))
      have NL := Lib.hid (bel_grownS LB.out hg' (fun r e => by have := FR.out _ e; omega))
      have NB : W0.heap.size ≤ w'.heap.size := Nat.le_trans (Nat.le_trans hB hB2) hg'.size
      have NR := Lib.hid hr'
      clear hr' hg' R2 Z2 Z4 Z5 LB
      obtain ⟨y0, y1, y2, y3, y4, y5⟩ := N5.out.c5
      obtain ⟨g0, g1, g2, g3, g4⟩ := N5.out.f5
      have hl2 : (mvL W H 1 ss (k + 1)).length = k + 1 := mvL_len W H 1 hlt
      have NQ := Lib.hid (show World.ownsRow (w'.setCell ⟨b5, 4, none⟩ (.slice ro' (k + 1) rc')) W0.heap.size 88 5 (.slice ro' (k + 1) rc') (mvL W H 1 ss (k + 1)).length (siC (mvL W H 1 ss (k + 1))) from by
        have h := NR.out
        rw [← mvS_1 W H ⟨m0, m1, m2, m3, m4⟩, ← HM.out] at h
        try rw [hl2] at h
        rw [hl2]
        exact ownsRow_setCell_other h (fun e => absurd (own_blk h b5 (by first | exact e | exact e.symm)).1 (by omega)) _)
      have hwb : w.heap.size ≤ b5 := by have := L.out.size; omega
      have NX := Lib.hid (N5.out.set4 (x := .slice ro' (k + 1) rc'))
      have NL2 := Lib.hid (bsetB (o := 4) (v := .slice ro' (k + 1) rc') NL.out hwb)
      have NB2 : W0.heap.size ≤ (w'.setCell ⟨b5, 4, none⟩ (.slice ro' (k + 1) rc')).heap.size := by simpa [World.setCell] using NB
      have h25 : w.heap.size ≠ b5 := by omega
      have h45 : b4 ≠ b5 := by omega
      have N22 := Lib.hid (N2.out.other (o := 4) (x := .slice ro' (k + 1) rc') h25)
      have N42 := Lib.hid (N4.out.other (o := 4) (x := .slice ro' (k + 1) rc') h45)
      clear N2 N4 N5 NR NL R
      go_wp2_with fail
      exact ⟨⟨k + 1, _, by omega, by go_num, N22.out, N42.out, NX.out, NQ.out, NB2, NL2.out⟩, by simp [intOf]; omega⟩
    · obtain rfl : k = ss.length := by omega
      clear hX2 hX4 hX5 hrow hL RS HB
      obtain ⟨z0, z1, z2, z3, z4, z5⟩ := X4.out.c5
      obtain ⟨f0, f1, f2, f3, f4⟩ := X4.out.f5
      have OW : OwSi W0.heap.size wr (.slice ro (mvL W H 1 ss ss.length).length rc) (mvL W H 1 ss ss.length) := ⟨by omega, fun i hi => by
        obtain ⟨g, _, _, hs⟩ := HC.out (by omega)
        rw [mvL_nm W H 1 (by omega) (Nat.le_refl _)]
        exact (hs i (by omega)).2.2.2.2.2, R.out⟩
      rw [hml] at OW
      have hb4lt : b4 < W0.heap.size := by omega
      have hw4 : w.heap.size ≤ b4 := by omega
      have PF := Lib.hid ((((((OW.other (b := b4) (o := 0) (x := .int .i64 W) hb4lt).other (b := b4) (o := 1) (x := .int .i64 H) hb4lt).other (b := b4) (o := 2) (x := .int .i64 M) hb4lt).other (b := b4) (o := 3) (x := .int .i64 G) hb4lt).other (b := b4) (o := 4) (x := .slice ro ss.length rc) hb4lt).low (show w.heap.size ≤ W0.heap.size by omega))
      have LF := Lib.hid (bsetB (o := 4) (v := .slice ro ss.length rc) (bsetB (o := 3) (v := .int .i64 G) (bsetB (o := 2) (v := .int .i64 M) (bsetB (o := 1) (v := .int .i64 H) (bsetB (o := 0) (v := .int .i64 W) L.out hw4) hw4) hw4) hw4) hw4)
      clear OW
      go_wp2_with fail
      refine bodyPost_ret (v := .agg #[.int .i64 W, .int .i64 H, .int .i64 M, .int .i64 G, .slice ro ss.length rc]) ?_ rfl ⟨_, rfl, PF.out, LF.out⟩
      simp [results, Try.results26, go_sem, z0, z1, z2, z3, z4]
end Go.Proofs.Ytmhheecjpalajaa
namespace Go.Proofs.Ytmhheecjpalajaa
open Go.RowKit

set_option maxRecDepth 100000 in
set_option maxHeartbeats 8000000 in
theorem l09MoveT_any (p : Pl4) (ss : List Sit) (v : Value) (w : World) (ha : SlSi w v ss) (hok : okPl p.W p.H p.M p.G ss = true) :
    Calls Try.prog 26 #[plV p v, .int .i64 2] w (MvRet p 2 ss w) := by
  obtain ⟨W, H, M, G⟩ := p
  obtain ⟨h0, ao, cap, rfl, hcp, hc⟩ := ha
  unfold plV
  simp only at hok ⊢
  obtain ⟨⟨hW1, hW2⟩, ⟨hH1, hH2⟩, _, _, h20, _⟩ := okPl_parts hok
  have X2 := Lib.hid (((BoxL.new w [.int .i64 W, .int .i64 H, .int .i64 M, .int .i64 G, .slice ao ss.length cap] 28).alloc (.cells #[.int .i64 0, .int .i64 0, .int .i64 0, .int .i64 0, .slice none 0 0] 28)).alloc (.cells #[.int .i64 H, .int .i64 W, .int .i64 M, .int .i64 G, .slice none 0 0] 28))
  have X4 := Lib.hid ((BoxL.at_ (w := w.alloc (.cells #[.int .i64 W, .int .i64 H, .int .i64 M, .int .i64 G, .slice ao ss.length cap] 28)) (b := w.heap.size + 1) (vs := [.int .i64 0, .int .i64 0, .int .i64 0, .int .i64 0, .slice none 0 0]) (T := 28) (by simp)).alloc (.cells #[.int .i64 H, .int .i64 W, .int .i64 M, .int .i64 G, .slice none 0 0] 28))
  have X5 := Lib.hid (BoxL.at_ (w := (w.alloc (.cells #[.int .i64 W, .int .i64 H, .int .i64 M, .int .i64 G, .slice ao ss.length cap] 28)).alloc (.cells #[.int .i64 0, .int .i64 0, .int .i64 0, .int .i64 0, .slice none 0 0] 28)) (b := w.heap.size + 1 + 1) (vs := [.int .i64 H, .int .i64 W, .int .i64 M, .int .i64 G, .slice none 0 0]) (T := 28) (by simp))
  have L0 := Lib.hid (bA (bA (bA (bR w) (.cells #[.int .i64 W, .int .i64 H, .int .i64 M, .int .i64 G, .slice ao ss.length cap] 28)) (.cells #[.int .i64 0, .int .i64 0, .int .i64 0, .int .i64 0, .slice none 0 0] 28)) (.cells #[.int .i64 H, .int .i64 W, .int .i64 M, .int .i64 G, .slice none 0 0] 28))
  have HC := Lib.hid hc
  have HB := Lib.hid (fun i (hi : i < ss.length) => siB_bd (okPl_site hok hi))
  obtain ⟨c0, c1, c2, c3, c4, c5⟩ := X2.out.c5
  clear hc hok
  go_enter Try.func26, Try.ntmps26
  go_wp2_with fail
  generalize ((w.alloc (.cells #[.int .i64 W, .int .i64 H, .int .i64 M, .int .i64 G, .slice ao ss.length cap] 28)).alloc (.cells #[.int .i64 0, .int .i64 0, .int .i64 0, .int .i64 0, .slice none 0 0] 28)).alloc (.cells #[.int .i64 H, .int .i64 W, .int .i64 M, .int .i64 G, .slice none 0 0] 28) = W0 at *
  generalize hb5 : w.heap.size + 1 + 1 = b5 at *
  generalize hb4 : w.heap.size + 1 = b4 at *
  have hlt5 := X5.out.lt
  have RS := Lib.hid (show MvR w W0.heap.size w.heap.size b4 b5 [.int .i64 W, .int .i64 H, .int .i64 M, .int .i64 G, .slice ao ss.length cap] [.int .i64 0, .int .i64 0, .int .i64 0, .int .i64 0, .slice none 0 0] H W M G W H 2 ss (.int .i64 0) W0 from ⟨0, _, by omega, rfl, X2.out, X4.out, X5.out, World.ownsRow_nil _ _ _ _, Nat.le_refl _, L0.out⟩)
  clear c0 c1 c2 c3 c4 c5 X2 X4 X5 L0
  go_loopw [6] (fun i wr => MvR w W0.heap.size w.heap.size b4 b5 [.int .i64 W, .int .i64 H, .int .i64 M, .int .i64 G, .slice ao ss.length cap] [.int .i64 0, .int .i64 0, .int .i64 0, .int .i64 0, .slice none 0 0] H W M G W H 2 ss i wr) (fun i _ => ss.length - (intOf i).toNat)
  case atStart => exact RS.out
  case round =>
    obtain ⟨k, v, hk, rfl, hX2, hX4, hX5, hrow, hB, hL⟩ := hrel
    obtain ⟨ro, rc, rfl⟩ := own_slice hrow
    have FR := Lib.hid (fun (r : Nat) (e : (Value.slice ro k rc).ownBlock = some r) => (own_blk hrow r (show (Value.slice ro (mvL W H 2 ss k).length rc).ownBlock = some r from by rw [mvL_len W H 2 hk]; exact e)).1)
    have X2 := Lib.hid hX2
    have X4 := Lib.hid hX4
    have X5 := Lib.hid hX5
    have R := Lib.hid hrow
    have L := Lib.hid hL
    obtain ⟨x0, x1, x2, x3, x4, x5⟩ := hX2.c5
    obtain ⟨y0, y1, y2, y3, y4, y5⟩ := hX5.c5
    have hml := mvL_len W H 2 hk
    by_cases hlt : k < ss.length
    · obtain ⟨g, rfl, hg, hc⟩ := HC.out (by omega)
      obtain ⟨d0, d1, d2, d3, d4, hsz⟩ := (hc.keep hg hL) k hlt
      obtain ⟨_, ⟨hx1, hx2⟩, ⟨hy1, hy2⟩, _, _, _⟩ := HB.out k hlt
      have HM := Lib.hid (mvL_succ W H 2 hlt)
      clear hX2 hX4 hX5 hrow hL hc RS HB
      generalize siAt ss k = sk at *
      obtain ⟨m0, m1, m2, m3, m4⟩ := sk
      simp only at *
      have BC := bA (bA (bR wr) (.cells #[.string m0, .int .i64 m1, .int .i64 m2, .int .i64 m3, .int .i64 m4] 88)) (.cells #[.int .i64 (H - m2), .int .i64 m1] 86)
      have R2 := Lib.hid (show World.ownsRow _ W0.heap.size 88 5 (.slice ro k rc) (mvL W H 2 ss k).length (siC (mvL W H 2 ss k)) from by have h := own_keep R.out BC; rw [hml] at h ⊢; exact h)
      have Z2 := Lib.hid (X2.out.keep BC)
      have Z4 := Lib.hid (X4.out.keep BC)
      have Z5 := Lib.hid (X5.out.keep BC)
      have LB := Lib.hid (bT L.out BC)
      have hB2 := BC.size
      clear BC
      go_wp2_with (at_builtin; go_loud (refine app_si rfl _ _ rfl _ (mvL W H 2 ss k) ⟨m0, H - m2, m1, m3, m4⟩ rfl R2.out (Nat.le_trans hB hB2) (by show Value.slice (some ⟨wr.heap.size + 1 + 1, 0, none⟩) 1 1 = _; simp) (by omega) ?_))
      intro v' w' hr' hg'
      obtain ⟨ro', rc', rfl⟩ := own_slice hr'
      have N2 := Lib.hid (Z2.out.grownQ hg' (fun e => by have := FR.out _ e.symm; have := L.out.size; omega))
      have N4 := Lib.hid (Z4.out.grownQ hg' (fun e => by have := FR.out _ e.symm; omega))
      have N5 := Lib.hid (Z5.out.grownQ hg' (fun e => by have := FR.out _ e.symm; omega))
      have NL := Lib.hid (bel_grownS LB.out hg' (fun r e => by have := FR.out _ e; omega))
      have NB : W0.heap.size ≤ w'.heap.size := Nat.le_trans (Nat.le_trans hB hB2) hg'.size
      have NR := Lib.hid hr'
      clear hr' hg' R2 Z2 Z4 Z5 LB
      obtain ⟨y0, y1, y2, y3, y4, y5⟩ := N5.out.c5
      obtain ⟨g0, g1, g2, g3, g4⟩ := N5.out.f5
      have hl2 : (mvL W H 2 ss (k + 1)).length = k + 1 := mvL_len W H 2 hlt
      have NQ := Lib.hid (show World.ownsRow (w'.setCell ⟨b5, 4, none⟩ (.slice ro' (k + 1) rc')) W0.heap.size 88 5 (.slice ro' (k + 1) rc') (mvL W H 2 ss (k + 1)).length (siC (mvL W H 2 ss (k + 1))) from by
        have h := NR.out
        rw [← mvS_2 W H ⟨m0, m1, m2, m3, m4⟩, ← HM.out] at h
        try rw [hl2] at h
        rw [hl2]
        exact ownsRow_setCell_other h (fun e => absurd (own_blk h b5 (by first | exact e | exact e.symm)).1 (by omega)) _)
      have hwb : w.heap.size ≤ b5 := by have := L.out.size; omega
      have NX := Lib.hid (N5.out.set4 (x := .slice ro' (k + 1) rc'))
      have NL2 := Lib.hid (bsetB (o := 4) (v := .slice ro' (k + 1) rc') NL.out hwb)
      have NB2 : W0.heap.size ≤ (w'.setCell ⟨b5, 4, none⟩ (.slice ro' (k + 1) rc')).heap.size := by simpa [World.setCell] using NB
      have h25 : w.heap.size ≠ b5 := by omega
      have h45 : b4 ≠ b5 := by omega
      have N22 := Lib.hid (N2.out.other (o := 4) (x := .slice ro' (k + 1) rc') h25)
      have N42 := Lib.hid (N4.out.other (o := 4) (x := .slice ro' (k + 1) rc') h45)
      clear N2 N4 N5 NR NL R
      go_wp2_with fail
      exact ⟨⟨k + 1, _, by omega, by go_num, N22.out, N42.out, NX.out, NQ.out, NB2, NL2.out⟩, by simp [intOf]; omega⟩
    · obtain rfl : k = ss.length := by omega
      clear hX2 hX4 hX5 hrow hL RS HB
      obtain ⟨z0, z1, z2, z3, z4, z5⟩ := X4.out.c5
      obtain ⟨f0, f1, f2, f3, f4⟩ := X4.out.f5
      have OW : OwSi W0.heap.size wr (.slice ro (mvL W H 2 ss ss.length).length rc) (mvL W H 2 ss ss.length) := ⟨by omega, fun i hi => by
        obtain ⟨g, _, _, hs⟩ := HC.out (by omega)
        rw [mvL_nm W H 2 (by omega) (Nat.le_refl _)]
        exact (hs i (by omega)).2.2.2.2.2, R.out⟩
      rw [hml] at OW
      have hb4lt : b4 < W0.heap.size := by omega
      have hw4 : w.heap.size ≤ b4 := by omega
      have PF := Lib.hid ((((((OW.other (b := b4) (o := 0) (x := .int .i64 H) hb4lt).other (b := b4) (o := 1) (x := .int .i64 W) hb4lt).other (b := b4) (o := 2) (x := .int .i64 M) hb4lt).other (b := b4) (o := 3) (x := .int .i64 G) hb4lt).other (b := b4) (o := 4) (x := .slice ro ss.length rc) hb4lt).low (show w.heap.size ≤ W0.heap.size by omega))
      have LF := Lib.hid (bsetB (o := 4) (v := .slice ro ss.length rc) (bsetB (o := 3) (v := .int .i64 G) (bsetB (o := 2) (v := .int .i64 M) (bsetB (o := 1) (v := .int .i64 W) (bsetB (o := 0) (v := .int .i64 H) L.out hw4) hw4) hw4) hw4) hw4)
      clear OW
      go_wp2_with fail
      refine bodyPost_ret (v := .agg #[.int .i64 H, .int .i64 W, .int .i64 M, .int .i64 G, .slice ro ss.length rc]) ?_ rfl ⟨_, rfl, PF.out, LF.out⟩
      simp [results, Try.results26, go_sem, z0, z1, z2, z3, z4]
end Go.Proofs.Ytmhheecjpalajaa

/-
  The walk of laws.FnExactConvertDate.
-/
import Derived.Test.YtbkhejideffflaaDyW
import Derived.Test.YtbkhejideffflaaDtU
import Derived.Test.YtbkhejideffflaaDtW
namespace Go.Proofs.Ytbkhejideffflaa
open Go.RowKit

def Bx (b : Nat) (c : Cal) (u v : Value) (W : World) : Prop := W.cell? ⟨b, 0, none⟩ = some (.string c.nm) ∧ W.cell? ⟨b, 1, none⟩ = some u ∧ W.cell? ⟨b, 2, none⟩ = some v ∧ W.cell? ⟨b, 3, none⟩ = some (.int .i64 c.wk) ∧ b < W.heap.size ∧ SlMo W u c.ms ∧ SlRu W v c.rs
theorem Bx.keep {b : Nat} {c : Cal} {u v : Value} {W W' : World} (hb : Below W.heap.size W W') (h : Bx b c u v W) : Bx b c u v W' := by
  obtain ⟨h0, h1, h2, h3, h4, h5, h6⟩ := h
  exact ⟨(hb.cell (p := ⟨b, 0, none⟩) h4).trans h0, (hb.cell (p := ⟨b, 1, none⟩) h4).trans h1, (hb.cell (p := ⟨b, 2, none⟩) h4).trans h2, (hb.cell (p := ⟨b, 3, none⟩) h4).trans h3, Nat.lt_of_lt_of_le h4 hb.size, h5.keep hb, h6.keep hb⟩
theorem Bx.of {b : Nat} {c : Cal} {u v : Value} {W : World} (h : BoxL W b [.string c.nm, u, v, .int .i64 c.wk]) (h5 : SlMo W u c.ms) (h6 : SlRu W v c.rs) : Bx b c u v W := by
  obtain ⟨c0, c1, c2, c3, c4⟩ := h.c4q
  exact ⟨c0, c1, c2, c3, c4, h5, h6⟩
def Dx (b : Nat) (a0 a1 a2 : Int) (W : World) : Prop := W.cell? ⟨b, 0, none⟩ = some (.int .i64 a0) ∧ W.cell? ⟨b, 1, none⟩ = some (.int .i64 a1) ∧ W.cell? ⟨b, 2, none⟩ = some (.int .i64 a2) ∧ b < W.heap.size
theorem Dx.keep {b : Nat} {a0 a1 a2 : Int} {W W' : World} (hb : Below W.heap.size W W') (h : Dx b a0 a1 a2 W) : Dx b a0 a1 a2 W' := by
  obtain ⟨h0, h1, h2, h4⟩ := h
  exact ⟨(hb.cell (p := ⟨b, 0, none⟩) h4).trans h0, (hb.cell (p := ⟨b, 1, none⟩) h4).trans h1, (hb.cell (p := ⟨b, 2, none⟩) h4).trans h2, Nat.lt_of_lt_of_le h4 hb.size⟩
def Sa (w : World) (bl : Nat) (c e : Cal) (u v u' v' : Value) (a0 a1 a2 : Int) (W : World) : Prop := Bx bl c u v W ∧ Dx (bl + 1) a0 a1 a2 W ∧ Bx (bl + 1 + 1) e u' v' W ∧ Below w.heap.size w W
theorem Sa.keep {w : World} {bl : Nat} {c e : Cal} {u v u' v' : Value} {a0 a1 a2 : Int} {W W' : World} (hb : Below W.heap.size W W') (h : Sa w bl c e u v u' v' a0 a1 a2 W) : Sa w bl c e u v u' v' a0 a1 a2 W' := ⟨h.1.keep hb, h.2.1.keep hb, h.2.2.1.keep hb, bT h.2.2.2 hb⟩
def Sb (w : World) (bl bx bz : Nat) (c e : Cal) (q r q' r' u v u' v' : Value) (a0 a1 a2 : Int) (W : World) : Prop := Bx bx c q r W ∧ Bx bz e q' r' W ∧ Sa w bl c e u v u' v' a0 a1 a2 W
theorem Sb.keep {w : World} {bl bx bz : Nat} {c e : Cal} {q r q' r' u v u' v' : Value} {a0 a1 a2 : Int} {W W' : World} (hb : Below W.heap.size W W') (h : Sb w bl bx bz c e q r q' r' u v u' v' a0 a1 a2 W) : Sb w bl bx bz c e q r q' r' u v u' v' a0 a1 a2 W' := ⟨h.1.keep hb, h.2.1.keep hb, h.2.2.keep hb⟩
set_option maxRecDepth 100000 in
set_option maxHeartbeats 16000000 in
theorem FnExactConvertDate_walk (x : Value) (c : Cal) (a0 a1 a2 : Int) (x' : Value) (e : Cal) (k : Int) (w : World) (h : IsC w x c) (hb1 : -9223372036854775808 ≤ a1 ∧ a1 ≤ 9223372036854775807) (h' : IsC w x' e) :
    Calls Try.prog 9 #[x, .agg #[.int .i64 a0, .int .i64 a1, .int .i64 a2], x', .int .i64 k] w fun e w' => e = .returned (.bool true) ∧ Below w.heap.size w w' := by
  obtain ⟨z0, z1, z2, hx⟩ := cvV_open c e a0 a1 a2 k
  have CS := Lib.hid (fun x x' W (h : IsC W x c) (h' : IsC W x' e) => show Calls Try.prog 28 #[x, .agg #[.int .i64 a0, .int .i64 a1, .int .i64 a2], x', .int .i64 k] W (TupV (.agg #[.int .i64 z0, .int .i64 z1, .int .i64 z2]) (.int .i64 (cvK c e a0 a1 a2 k)) W) from by have := ConvertDateS_any c e a0 a1 a2 k x x' W h h' hb1; rw [hx] at this; exact this)
  have CI := Lib.hid (fun x x' W (h : IsC W x c) (h' : IsC W x' e) => show Calls Try.prog 29 #[x, .agg #[.int .i64 a0, .int .i64 a1, .int .i64 a2], x', .int .i64 k] W (TupV (.agg #[.int .i64 z0, .int .i64 z1, .int .i64 z2]) (.int .i64 (cvK c e a0 a1 a2 k)) W) from by have := ConvertDateI_any c e a0 a1 a2 k x x' W h h' hb1; rw [hx] at this; exact this)
  have hne : (cvK c e a0 a1 a2 k != cvK c e a0 a1 a2 k) = false := by simp
  clear hx
  generalize cvK c e a0 a1 a2 k = q2 at *
  obtain ⟨u, v, rfl, hs, hM, hR⟩ := h
  obtain ⟨p1, p2, rfl, _⟩ := id hM.open
  obtain ⟨p3, p4, rfl, _⟩ := id hR.open
  obtain ⟨u, v, rfl, hs', hM', hR'⟩ := h'
  obtain ⟨p5, p6, rfl, _⟩ := id hM'.open
  obtain ⟨p7, p8, rfl, _⟩ := id hR'.open
  have HSZ := Lib.hid hs
  have HSE := Lib.hid hs'
  have H0 := Lib.hid (show Sa w w.heap.size c e (.slice p1 c.ms.length p2) (.slice p3 c.rs.length p4) (.slice p5 e.ms.length p6) (.slice p7 e.rs.length p8) a0 a1 a2 (((w.alloc (.cells #[.string c.nm, .slice p1 c.ms.length p2, .slice p3 c.rs.length p4, .int .i64 c.wk] 25)).alloc (.cells #[.int .i64 a0, .int .i64 a1, .int .i64 a2] 27)).alloc (.cells #[.string e.nm, .slice p5 e.ms.length p6, .slice p7 e.rs.length p8, .int .i64 e.wk] 25)) from by
    have hL : Below w.heap.size w (((w.alloc (.cells #[.string c.nm, .slice p1 c.ms.length p2, .slice p3 c.rs.length p4, .int .i64 c.wk] 25)).alloc (.cells #[.int .i64 a0, .int .i64 a1, .int .i64 a2] 27)).alloc (.cells #[.string e.nm, .slice p5 e.ms.length p6, .slice p7 e.rs.length p8, .int .i64 e.wk] 25)) := bA (bA (bA (bR w) _) _) _
    exact ⟨Bx.of (((BoxL.new w [.string c.nm, .slice p1 c.ms.length p2, .slice p3 c.rs.length p4, .int .i64 c.wk] 25).alloc _).alloc _) (hM.keep hL) (hR.keep hL), ((BoxL.at_ (w := w.alloc (.cells #[.string c.nm, .slice p1 c.ms.length p2, .slice p3 c.rs.length p4, .int .i64 c.wk] 25)) (b := w.heap.size + 1) (vs := [.int .i64 a0, .int .i64 a1, .int .i64 a2]) (T := 27) (by simp)).alloc _).c3, Bx.of (BoxL.at_ (w := (w.alloc (.cells #[.string c.nm, .slice p1 c.ms.length p2, .slice p3 c.rs.length p4, .int .i64 c.wk] 25)).alloc (.cells #[.int .i64 a0, .int .i64 a1, .int .i64 a2] 27)) (b := w.heap.size + 1 + 1) (vs := [.string e.nm, .slice p5 e.ms.length p6, .slice p7 e.rs.length p8, .int .i64 e.wk]) (T := 25) (by simp)) (hM'.keep hL) (hR'.keep hL), hL⟩)
  clear hM hR hs hM' hR' hs'
  obtain ⟨⟨c0, c1, c2, c3, c4, _, _⟩, ⟨d0, d1, d2, d3⟩, ⟨e0, e1, e2, e3, e4, _, _⟩, _⟩ := H0.out
  go_enter Try.func9, Try.ntmps9
  go_wp2_with fail
  generalize ((w.alloc (.cells #[.string c.nm, .slice p1 c.ms.length p2, .slice p3 c.rs.length p4, .int .i64 c.wk] 25)).alloc (.cells #[.int .i64 a0, .int .i64 a1, .int .i64 a2] 27)).alloc (.cells #[.string e.nm, .slice p5 e.ms.length p6, .slice p7 e.rs.length p8, .int .i64 e.wk] 25) = W0 at *
  generalize hbl : w.heap.size = bl at H0 c0 c1 c2 c3 c4 d0 d1 d2 d3 e0 e1 e2 e3 e4 ⊢
  have HBL := Lib.hid hbl
  clear hbl
  refine (szCalendar_any _ c 1048576 _ ⟨_, _, rfl, HSZ.out, H0.out.1.2.2.2.2.2.1, H0.out.1.2.2.2.2.2.2⟩ (by omega) (by omega)).mono ?_
  rintro e' w1 ⟨r, rfl, r1, r2, r3, hb⟩
  have H1 := Lib.hid (H0.out.keep hb)
  have R := Lib.hid r3
  clear hb r3 c0 c1 c2 c3 c4 d0 d1 d2 d3 e0 e1 e2 e3 e4 H0
  obtain ⟨⟨c0, c1, c2, c3, c4, _, _⟩, ⟨d0, d1, d2, d3⟩, ⟨e0, e1, e2, e3, e4, _, _⟩, _⟩ := H1.out
  by_cases hr : r < 0
  · go_wp2_with fail
    go_ret
    exact ⟨rfl, H1.out.2.2.2⟩
  have HL := Lib.hid (R.out (by omega))
  go_wp2_with fail
  refine (szCalendar_any _ e r _ ⟨_, _, rfl, HSE.out, H1.out.2.2.1.2.2.2.2.2.1, H1.out.2.2.1.2.2.2.2.2.2⟩ (by omega) (by omega)).mono ?_
  rintro e' w2 ⟨s, rfl, s1, s2, s3, hb⟩
  have H2 := Lib.hid (H1.out.keep hb)
  have R' := Lib.hid s3
  clear hb s3 c0 c1 c2 c3 c4 d0 d1 d2 d3 e0 e1 e2 e3 e4 H1 R
  obtain ⟨⟨c0, c1, c2, c3, c4, _, _⟩, ⟨d0, d1, d2, d3⟩, ⟨e0, e1, e2, e3, e4, _, _⟩, _⟩ := H2.out
  by_cases hr2 : s < 0
  · go_wp2_with fail
    go_ret
    exact ⟨rfl, H2.out.2.2.2⟩
  have HE := Lib.hid (R'.out (by omega))
  clear R'
  go_wp2_with fail
  clear c0 c1 c2 c3 c4 d0 d1 d2 d3 e0 e1 e2 e3 e4
  have H2 := Lib.hid (H2.out.keep (bR w2).drew)
  have N := Lib.hid (bR w2.drew)
  refine wp_region_held_drew (S := Sa w bl c e (.slice p1 c.ms.length p2) (.slice p3 c.rs.length p4) (.slice p5 e.ms.length p6) (.slice p7 e.rs.length p8) a0 a1 a2) (by kernel_rfl) H2.out (fun hHeld => ?_)
  generalize w2.drew = Wd at *
  refine wpAnyH_take (i := 0) (oi := { dst := some 27, op := Op.load 25 (Operand.tmp 4), type := 25, pos := "exact.go:6242", after := #[], guard := none }) (v := ?_) rfl (by kernel_rfl) (by kernel_rfl) (by kernel_rfl) (fun _ _ _ h => h) (Or.inl ⟨by rfl, ?_⟩) (by assumption) ?_
  rotate_left 1
  · ((intro w hSw; obtain ⟨⟨s0, s1, s2, s3, s4, s5, s6⟩, ⟨t0, t1, t2, t3⟩, ⟨v0, v1, v2, v3, v4, v5, v6⟩, t4⟩ := hSw; go_simp; try with_reducible rfl))
  (try simp only [Act.put, List.setIfInBounds_toArray, List.set_cons_zero, List.set_cons_succ])
  refine wpAnyH_take (i := 2) (oi := { dst := some 29, op := Op.load 27 (Operand.tmp 5), type := 27, pos := "exact.go:6242", after := #[], guard := none }) (v := ?_) rfl (by kernel_rfl) (by kernel_rfl) (by kernel_rfl) (fun _ _ _ h => h) (Or.inl ⟨by rfl, ?_⟩) (by assumption) ?_
  rotate_left 1
  · ((intro w hSw; obtain ⟨⟨s0, s1, s2, s3, s4, s5, s6⟩, ⟨t0, t1, t2, t3⟩, ⟨v0, v1, v2, v3, v4, v5, v6⟩, t4⟩ := hSw; go_simp; try with_reducible rfl))
  (try simp only [Act.put, List.setIfInBounds_toArray, List.set_cons_zero, List.set_cons_succ])
  refine wpAnyH_take (i := 4) (oi := { dst := some 31, op := Op.load 25 (Operand.tmp 6), type := 25, pos := "exact.go:6242", after := #[], guard := none }) (v := ?_) rfl (by kernel_rfl) (by kernel_rfl) (by kernel_rfl) (fun _ _ _ h => h) (Or.inl ⟨by rfl, ?_⟩) (by assumption) ?_
  rotate_left 1
  · ((intro w hSw; obtain ⟨⟨s0, s1, s2, s3, s4, s5, s6⟩, ⟨t0, t1, t2, t3⟩, ⟨v0, v1, v2, v3, v4, v5, v6⟩, t4⟩ := hSw; go_simp; try with_reducible rfl))
  (try simp only [Act.put, List.setIfInBounds_toArray, List.set_cons_zero, List.set_cons_succ])
  refine wpAnyH_take (i := 6) (oi := { dst := some 33, op := Op.move (Operand.tmp 3), type := 2, pos := "exact.go:6242", after := #[], guard := none }) (v := ?_) rfl (by kernel_rfl) (by kernel_rfl) (by kernel_rfl) (fun _ _ _ h => h) (Or.inl ⟨by rfl, ?_⟩) (by assumption) ?_
  rotate_left 1
  · ((intro w hSw; obtain ⟨⟨s0, s1, s2, s3, s4, s5, s6⟩, ⟨t0, t1, t2, t3⟩, ⟨v0, v1, v2, v3, v4, v5, v6⟩, t4⟩ := hSw; go_simp; try with_reducible rfl))
  (try simp only [Act.put, List.setIfInBounds_toArray, List.set_cons_zero, List.set_cons_succ])
  refine wpAnyH_ready (rs := [1, 11]) (by kernel_rfl) (by simp) ?_
  refine AllReadyH.cons (o := { dst := some 28, op := Op.call { callee := Callee.value (Operand.func 13), args := #[Operand.tmp 27], argTypes := #[25] }, type := 33, pos := "exact.go:6242", after := #[{ on := 0, ground := Ground.data }], guard := none }) rfl (fun K hK => ?_) (AllReadyH.cons (o := { dst := some 10, op := Op.alloc 35, type := 0, pos := "exact.go:6242", after := #[], guard := none }) rfl (fun K hK => ?_) AllReadyH.nil)
  case' refine_2 =>
    go_simp
    have B := Lib.hid (BoxL.new Wd [.int .i64 0, .int .i64 0, .int .i64 0] 35)
    have N0 := N.out.size
    have hb := bA (bR Wd) (.cells #[.int .i64 0, .int .i64 0, .int .i64 0] 35)
    replace N := Lib.hid (bT N.out hb)
    refine hK.out _ _ (Sa.keep hb hHeld) (fun hN => ?_)
    clear hb
    clear hK K hHeld
    replace hHeld := hN
    clear hN
    generalize Wd.alloc (.cells #[.int .i64 0, .int .i64 0, .int .i64 0] 35) = v2 at *
    generalize hbd : Wd.heap.size = bd at B ⊢
    have G := Lib.hid (show Wd.heap.size ≤ bd by rw [← hbd]; exact N0)
    clear hbd N0
    (try simp only [Act.put, List.setIfInBounds_toArray, List.set_cons_zero, List.set_cons_succ])
    refine wpAnyH_ready (rs := [1]) (by kernel_rfl) (by simp) ?_
    refine AllReadyH.cons (o := { dst := some 28, op := Op.call { callee := Callee.value (Operand.func 13), args := #[Operand.tmp 27], argTypes := #[25] }, type := 33, pos := "exact.go:6242", after := #[{ on := 0, ground := Ground.data }], guard := none }) rfl (fun K hK => ?_) AllReadyH.nil
    go_simp
    go_at_call 13
    refine (toCalendar_any _ c _ ⟨_, _, rfl, HSZ.out, hHeld.1.2.2.2.2.2.1, hHeld.1.2.2.2.2.2.2⟩ HL.out).mono ?_
    rintro e' v4 ⟨x3, rfl, hA, hb⟩
    replace N := Lib.hid (bT N.out hb)
    replace B := Lib.hid (B.out.keep hb)
    have I := Lib.hid hA.is
    clear hA
    refine hK.out _ _ (Sa.keep hb hHeld) (fun hN => ?_)
    clear hb
    clear hK K hHeld
    replace hHeld := hN
    clear hN
    (try simp only [Act.put, List.setIfInBounds_toArray, List.set_cons_zero, List.set_cons_succ])
    refine wpAnyH_ready (rs := [3]) (by kernel_rfl) (by simp) ?_
    refine AllReadyH.cons (o := { dst := some 30, op := Op.call { callee := Callee.value (Operand.func 14), args := #[Operand.tmp 29], argTypes := #[27] }, type := 35, pos := "exact.go:6242", after := #[{ on := 2, ground := Ground.data }, { on := 1, ground := Ground.chain }], guard := none }) rfl (fun K hK => ?_) AllReadyH.nil
    go_simp
    go_at_call 14
    refine (toDateV_any _ _ _ _).mono ?_
    rintro e' v6 ⟨rfl, hb⟩
    replace N := Lib.hid (bT N.out hb)
    replace I := Lib.hid (I.out.keep hb)
    replace B := Lib.hid (B.out.keep hb)
    refine hK.out _ _ (Sa.keep hb hHeld) (fun hN => ?_)
    clear hb
    clear hK K hHeld
    replace hHeld := hN
    clear hN
    (try simp only [Act.put, List.setIfInBounds_toArray, List.set_cons_zero, List.set_cons_succ])
    refine wpAnyH_ready (rs := [5]) (by kernel_rfl) (by simp) ?_
    refine AllReadyH.cons (o := { dst := some 32, op := Op.call { callee := Callee.value (Operand.func 13), args := #[Operand.tmp 31], argTypes := #[25] }, type := 33, pos := "exact.go:6242", after := #[{ on := 4, ground := Ground.data }, { on := 3, ground := Ground.chain }], guard := none }) rfl (fun K hK => ?_) AllReadyH.nil
    go_simp
    go_at_call 13
    refine (toCalendar_any _ e _ ⟨_, _, rfl, HSE.out, hHeld.2.2.1.2.2.2.2.2.1, hHeld.2.2.1.2.2.2.2.2.2⟩ HE.out).mono ?_
    rintro e' v8 ⟨x4, rfl, hA, hb⟩
    replace N := Lib.hid (bT N.out hb)
    replace I := Lib.hid (I.out.keep hb)
    replace B := Lib.hid (B.out.keep hb)
    have J := Lib.hid hA.is
    clear hA
    refine hK.out _ _ (Sa.keep hb hHeld) (fun hN => ?_)
    clear hb
    clear hK K hHeld
    replace hHeld := hN
    clear hN
    (try simp only [Act.put, List.setIfInBounds_toArray, List.set_cons_zero, List.set_cons_succ])
    refine wpAnyH_ready (rs := [7]) (by kernel_rfl) (by simp) ?_
    refine AllReadyH.cons (o := { dst := some 34, op := Op.call { callee := Callee.value (Operand.func 28), args := #[Operand.tmp 28, Operand.tmp 30, Operand.tmp 32, Operand.tmp 33], argTypes := #[33, 35, 33, 2] }, type := 41, pos := "exact.go:6242", after := #[{ on := 1, ground := Ground.data }, { on := 3, ground := Ground.data }, { on := 5, ground := Ground.data }, { on := 6, ground := Ground.data }, { on := 5, ground := Ground.chain }], guard := none }) rfl (fun K hK => ?_) AllReadyH.nil
    go_simp
    go_at_call 28
    refine (CS.out _ _ _ I.out J.out).mono ?_
    rintro e' v10 ⟨rfl, hb⟩
    replace N := Lib.hid (bT N.out hb)
    replace I := Lib.hid (I.out.keep hb)
    replace J := Lib.hid (J.out.keep hb)
    replace B := Lib.hid (B.out.keep hb)
    refine hK.out _ _ (Sa.keep hb hHeld) (fun hN => ?_)
    clear hb
    clear hK K hHeld
    replace hHeld := hN
    clear hN
    (try simp only [Act.put, List.setIfInBounds_toArray, List.set_cons_zero, List.set_cons_succ])
    refine wpAnyH_take (i := 8) (oi := { dst := some 26, op := Op.move (Operand.tmp 34), type := 41, pos := "exact.go:6242", after := #[{ on := 7, ground := Ground.data }], guard := none }) (v := ?_) rfl (by kernel_rfl) (by kernel_rfl) (by kernel_rfl) (fun _ _ _ h => h) (Or.inl ⟨by rfl, ?_⟩) (by assumption) ?_
    rotate_left 1
    · ((intro w hSw; obtain ⟨⟨s0, s1, s2, s3, s4, s5, s6⟩, ⟨t0, t1, t2, t3⟩, ⟨v0, v1, v2, v3, v4, v5, v6⟩, t4⟩ := hSw; go_simp; try with_reducible rfl))
    (try simp only [Act.put, List.setIfInBounds_toArray, List.set_cons_zero, List.set_cons_succ])
    refine wpAnyH_take (i := 9) (oi := { dst := some 35, op := Op.extract (Operand.tmp 26) 0, type := 35, pos := "exact.go:6242", after := #[{ on := 8, ground := Ground.data }], guard := none }) (v := ?_) rfl (by kernel_rfl) (by kernel_rfl) (by kernel_rfl) (fun _ _ _ h => h) (Or.inl ⟨by rfl, ?_⟩) (by assumption) ?_
    rotate_left 1
    · ((intro w hSw; obtain ⟨⟨s0, s1, s2, s3, s4, s5, s6⟩, ⟨t0, t1, t2, t3⟩, ⟨v0, v1, v2, v3, v4, v5, v6⟩, t4⟩ := hSw; go_simp; try with_reducible rfl))
    (try simp only [Act.put, List.setIfInBounds_toArray, List.set_cons_zero, List.set_cons_succ])
    refine wpAnyH_take (i := 10) (oi := { dst := some 36, op := Op.extract (Operand.tmp 26) 1, type := 2, pos := "exact.go:6242", after := #[{ on := 8, ground := Ground.data }, { on := 12, ground := Ground.gcOnly Departure.lateStores }], guard := none }) (v := ?_) rfl (by kernel_rfl) (by kernel_rfl) (by kernel_rfl) (fun _ _ _ h => h) (Or.inl ⟨by rfl, ?_⟩) (by assumption) ?_
    rotate_left 1
    · ((intro w hSw; obtain ⟨⟨s0, s1, s2, s3, s4, s5, s6⟩, ⟨t0, t1, t2, t3⟩, ⟨v0, v1, v2, v3, v4, v5, v6⟩, t4⟩ := hSw; go_simp; try with_reducible rfl))
    (try simp only [Act.put, List.setIfInBounds_toArray, List.set_cons_zero, List.set_cons_succ])
    obtain ⟨y0, y1, y2, _⟩ := B.out.c3
    obtain ⟨y3, y4, y5⟩ := B.out.f3q
    refine wpAnyH_ready (rs := [12]) (by kernel_rfl) (by simp) ?_
    refine AllReadyH.cons (o := { dst := none, op := Op.store 35 (Operand.tmp 10) (Operand.tmp 35), type := 0, pos := "exact.go:6242", after := #[{ on := 11, ground := Ground.data }, { on := 9, ground := Ground.data }, { on := 7, ground := Ground.chain }, { on := 0, ground := Ground.phase }, { on := 1, ground := Ground.phase }, { on := 2, ground := Ground.phase }, { on := 3, ground := Ground.phase }, { on := 4, ground := Ground.phase }, { on := 5, ground := Ground.phase }, { on := 6, ground := Ground.phase }, { on := 7, ground := Ground.phase }, { on := 8, ground := Ground.phase }, { on := 9, ground := Ground.phase }, { on := 10, ground := Ground.textOnly Departure.lateStores }, { on := 11, ground := Ground.phase }], guard := none }) rfl (fun K hK => ?_) AllReadyH.nil
    go_simp
    clear y0 y1 y2 y3 y4 y5
    replace B := Lib.hid (BoxL.setQ (i := 2) (v := .int .i64 z2) (BoxL.setQ (i := 1) (v := .int .i64 z1) (BoxL.setQ (i := 0) (v := .int .i64 z0) B.out rfl) rfl) rfl)
    replace N := Lib.hid (((N.out.setCell (p := ⟨bd, 0, none⟩) G.out (.int .i64 z0)).setCell (p := ⟨bd, 1, none⟩) G.out (.int .i64 z1)).setCell (p := ⟨bd, 2, none⟩) G.out (.int .i64 z2))
    refine hK.out _ _ (Sa.keep N.out H2.out) (fun hN => ?_)
    clear hK K hHeld
    replace hHeld := hN
    clear hN
    generalize ((v10.setCell ⟨bd, 0, none⟩ (.int .i64 z0)).setCell ⟨bd, 1, none⟩ (.int .i64 z1)).setCell ⟨bd, 2, none⟩ (.int .i64 z2) = v12 at *
    (try simp only [Act.put, List.setIfInBounds_toArray, List.set_cons_zero, List.set_cons_succ])
    refine wpAnyH_take (i := 13) (oi := { dst := some 11, op := Op.assign (Operand.tmp 36), type := 2, pos := "exact.go:6242", after := #[{ on := 10, ground := Ground.data }, { on := 12, ground := Ground.chain }, { on := 0, ground := Ground.phase }, { on := 1, ground := Ground.phase }, { on := 2, ground := Ground.phase }, { on := 3, ground := Ground.phase }, { on := 4, ground := Ground.phase }, { on := 5, ground := Ground.phase }, { on := 6, ground := Ground.phase }, { on := 7, ground := Ground.phase }, { on := 8, ground := Ground.phase }, { on := 9, ground := Ground.phase }, { on := 10, ground := Ground.phase }, { on := 11, ground := Ground.phase }, { on := 12, ground := Ground.phase }], guard := none }) (v := ?_) rfl (by kernel_rfl) (by kernel_rfl) (by kernel_rfl) (fun _ _ _ h => h) (Or.inl ⟨by rfl, ?_⟩) (by assumption) ?_
    rotate_left 1
    · ((intro w hSw; obtain ⟨⟨s0, s1, s2, s3, s4, s5, s6⟩, ⟨t0, t1, t2, t3⟩, ⟨v0, v1, v2, v3, v4, v5, v6⟩, t4⟩ := hSw; go_simp; try with_reducible rfl))
    (try simp only [Act.put, List.setIfInBounds_toArray, List.set_cons_zero, List.set_cons_succ])
    refine wpAnyH_done (by kernel_rfl) ?_ _
  case' refine_1 =>
    go_simp
    go_at_call 13
    refine (toCalendar_any _ c _ ⟨_, _, rfl, HSZ.out, hHeld.1.2.2.2.2.2.1, hHeld.1.2.2.2.2.2.2⟩ HL.out).mono ?_
    rintro e' v13 ⟨x3, rfl, hA, hb⟩
    replace N := Lib.hid (bT N.out hb)
    have I := Lib.hid hA.is
    clear hA
    refine hK.out _ _ (Sa.keep hb hHeld) (fun hN => ?_)
    clear hb
    clear hK K hHeld
    replace hHeld := hN
    clear hN
    (try simp only [Act.put, List.setIfInBounds_toArray, List.set_cons_zero, List.set_cons_succ])
    refine wpAnyH_ready (rs := [3, 11]) (by kernel_rfl) (by simp) ?_
    refine AllReadyH.cons (o := { dst := some 30, op := Op.call { callee := Callee.value (Operand.func 14), args := #[Operand.tmp 29], argTypes := #[27] }, type := 35, pos := "exact.go:6242", after := #[{ on := 2, ground := Ground.data }, { on := 1, ground := Ground.chain }], guard := none }) rfl (fun K hK => ?_) (AllReadyH.cons (o := { dst := some 10, op := Op.alloc 35, type := 0, pos := "exact.go:6242", after := #[], guard := none }) rfl (fun K hK => ?_) AllReadyH.nil)
    case' refine_2 =>
      go_simp
      have B := Lib.hid (BoxL.new v13 [.int .i64 0, .int .i64 0, .int .i64 0] 35)
      have N0 := N.out.size
      have hb := bA (bR v13) (.cells #[.int .i64 0, .int .i64 0, .int .i64 0] 35)
      replace N := Lib.hid (bT N.out hb)
      replace I := Lib.hid (I.out.keep hb)
      refine hK.out _ _ (Sa.keep hb hHeld) (fun hN => ?_)
      clear hb
      clear hK K hHeld
      replace hHeld := hN
      clear hN
      generalize v13.alloc (.cells #[.int .i64 0, .int .i64 0, .int .i64 0] 35) = v15 at *
      generalize hbd : v13.heap.size = bd at B ⊢
      have G := Lib.hid (show Wd.heap.size ≤ bd by rw [← hbd]; exact N0)
      clear hbd N0
      (try simp only [Act.put, List.setIfInBounds_toArray, List.set_cons_zero, List.set_cons_succ])
      refine wpAnyH_ready (rs := [3]) (by kernel_rfl) (by simp) ?_
      refine AllReadyH.cons (o := { dst := some 30, op := Op.call { callee := Callee.value (Operand.func 14), args := #[Operand.tmp 29], argTypes := #[27] }, type := 35, pos := "exact.go:6242", after := #[{ on := 2, ground := Ground.data }, { on := 1, ground := Ground.chain }], guard := none }) rfl (fun K hK => ?_) AllReadyH.nil
      go_simp
      go_at_call 14
      refine (toDateV_any _ _ _ _).mono ?_
      rintro e' v17 ⟨rfl, hb⟩
      replace N := Lib.hid (bT N.out hb)
      replace I := Lib.hid (I.out.keep hb)
      replace B := Lib.hid (B.out.keep hb)
      refine hK.out _ _ (Sa.keep hb hHeld) (fun hN => ?_)
      clear hb
      clear hK K hHeld
      replace hHeld := hN
      clear hN
      (try simp only [Act.put, List.setIfInBounds_toArray, List.set_cons_zero, List.set_cons_succ])
      refine wpAnyH_ready (rs := [5]) (by kernel_rfl) (by simp) ?_
      refine AllReadyH.cons (o := { dst := some 32, op := Op.call { callee := Callee.value (Operand.func 13), args := #[Operand.tmp 31], argTypes := #[25] }, type := 33, pos := "exact.go:6242", after := #[{ on := 4, ground := Ground.data }, { on := 3, ground := Ground.chain }], guard := none }) rfl (fun K hK => ?_) AllReadyH.nil
      go_simp
      go_at_call 13
      refine (toCalendar_any _ e _ ⟨_, _, rfl, HSE.out, hHeld.2.2.1.2.2.2.2.2.1, hHeld.2.2.1.2.2.2.2.2.2⟩ HE.out).mono ?_
      rintro e' v19 ⟨x4, rfl, hA, hb⟩
      replace N := Lib.hid (bT N.out hb)
      replace I := Lib.hid (I.out.keep hb)
      replace B := Lib.hid (B.out.keep hb)
      have J := Lib.hid hA.is
      clear hA
      refine hK.out _ _ (Sa.keep hb hHeld) (fun hN => ?_)
      clear hb
      clear hK K hHeld
      replace hHeld := hN
      clear hN
      (try simp only [Act.put, List.setIfInBounds_toArray, List.set_cons_zero, List.set_cons_succ])
      refine wpAnyH_ready (rs := [7]) (by kernel_rfl) (by simp) ?_
      refine AllReadyH.cons (o := { dst := some 34, op := Op.call { callee := Callee.value (Operand.func 28), args := #[Operand.tmp 28, Operand.tmp 30, Operand.tmp 32, Operand.tmp 33], argTypes := #[33, 35, 33, 2] }, type := 41, pos := "exact.go:6242", after := #[{ on := 1, ground := Ground.data }, { on := 3, ground := Ground.data }, { on := 5, ground := Ground.data }, { on := 6, ground := Ground.data }, { on := 5, ground := Ground.chain }], guard := none }) rfl (fun K hK => ?_) AllReadyH.nil
      go_simp
      go_at_call 28
      refine (CS.out _ _ _ I.out J.out).mono ?_
      rintro e' v21 ⟨rfl, hb⟩
      replace N := Lib.hid (bT N.out hb)
      replace I := Lib.hid (I.out.keep hb)
      replace J := Lib.hid (J.out.keep hb)
      replace B := Lib.hid (B.out.keep hb)
      refine hK.out _ _ (Sa.keep hb hHeld) (fun hN => ?_)
      clear hb
      clear hK K hHeld
      replace hHeld := hN
      clear hN
      (try simp only [Act.put, List.setIfInBounds_toArray, List.set_cons_zero, List.set_cons_succ])
      refine wpAnyH_take (i := 8) (oi := { dst := some 26, op := Op.move (Operand.tmp 34), type := 41, pos := "exact.go:6242", after := #[{ on := 7, ground := Ground.data }], guard := none }) (v := ?_) rfl (by kernel_rfl) (by kernel_rfl) (by kernel_rfl) (fun _ _ _ h => h) (Or.inl ⟨by rfl, ?_⟩) (by assumption) ?_
      rotate_left 1
      · ((intro w hSw; obtain ⟨⟨s0, s1, s2, s3, s4, s5, s6⟩, ⟨t0, t1, t2, t3⟩, ⟨v0, v1, v2, v3, v4, v5, v6⟩, t4⟩ := hSw; go_simp; try with_reducible rfl))
      (try simp only [Act.put, List.setIfInBounds_toArray, List.set_cons_zero, List.set_cons_succ])
      refine wpAnyH_take (i := 9) (oi := { dst := some 35, op := Op.extract (Operand.tmp 26) 0, type := 35, pos := "exact.go:6242", after := #[{ on := 8, ground := Ground.data }], guard := none }) (v := ?_) rfl (by kernel_rfl) (by kernel_rfl) (by kernel_rfl) (fun _ _ _ h => h) (Or.inl ⟨by rfl, ?_⟩) (by assumption) ?_
      rotate_left 1
      · ((intro w hSw; obtain ⟨⟨s0, s1, s2, s3, s4, s5, s6⟩, ⟨t0, t1, t2, t3⟩, ⟨v0, v1, v2, v3, v4, v5, v6⟩, t4⟩ := hSw; go_simp; try with_reducible rfl))
      (try simp only [Act.put, List.setIfInBounds_toArray, List.set_cons_zero, List.set_cons_succ])
      refine wpAnyH_take (i := 10) (oi := { dst := some 36, op := Op.extract (Operand.tmp 26) 1, type := 2, pos := "exact.go:6242", after := #[{ on := 8, ground := Ground.data }, { on := 12, ground := Ground.gcOnly Departure.lateStores }], guard := none }) (v := ?_) rfl (by kernel_rfl) (by kernel_rfl) (by kernel_rfl) (fun _ _ _ h => h) (Or.inl ⟨by rfl, ?_⟩) (by assumption) ?_
      rotate_left 1
      · ((intro w hSw; obtain ⟨⟨s0, s1, s2, s3, s4, s5, s6⟩, ⟨t0, t1, t2, t3⟩, ⟨v0, v1, v2, v3, v4, v5, v6⟩, t4⟩ := hSw; go_simp; try with_reducible rfl))
      (try simp only [Act.put, List.setIfInBounds_toArray, List.set_cons_zero, List.set_cons_succ])
      obtain ⟨y0, y1, y2, _⟩ := B.out.c3
      obtain ⟨y3, y4, y5⟩ := B.out.f3q
      refine wpAnyH_ready (rs := [12]) (by kernel_rfl) (by simp) ?_
      refine AllReadyH.cons (o := { dst := none, op := Op.store 35 (Operand.tmp 10) (Operand.tmp 35), type := 0, pos := "exact.go:6242", after := #[{ on := 11, ground := Ground.data }, { on := 9, ground := Ground.data }, { on := 7, ground := Ground.chain }, { on := 0, ground := Ground.phase }, { on := 1, ground := Ground.phase }, { on := 2, ground := Ground.phase }, { on := 3, ground := Ground.phase }, { on := 4, ground := Ground.phase }, { on := 5, ground := Ground.phase }, { on := 6, ground := Ground.phase }, { on := 7, ground := Ground.phase }, { on := 8, ground := Ground.phase }, { on := 9, ground := Ground.phase }, { on := 10, ground := Ground.textOnly Departure.lateStores }, { on := 11, ground := Ground.phase }], guard := none }) rfl (fun K hK => ?_) AllReadyH.nil
      go_simp
      clear y0 y1 y2 y3 y4 y5
      replace B := Lib.hid (BoxL.setQ (i := 2) (v := .int .i64 z2) (BoxL.setQ (i := 1) (v := .int .i64 z1) (BoxL.setQ (i := 0) (v := .int .i64 z0) B.out rfl) rfl) rfl)
      replace N := Lib.hid (((N.out.setCell (p := ⟨bd, 0, none⟩) G.out (.int .i64 z0)).setCell (p := ⟨bd, 1, none⟩) G.out (.int .i64 z1)).setCell (p := ⟨bd, 2, none⟩) G.out (.int .i64 z2))
      refine hK.out _ _ (Sa.keep N.out H2.out) (fun hN => ?_)
      clear hK K hHeld
      replace hHeld := hN
      clear hN
      generalize ((v21.setCell ⟨bd, 0, none⟩ (.int .i64 z0)).setCell ⟨bd, 1, none⟩ (.int .i64 z1)).setCell ⟨bd, 2, none⟩ (.int .i64 z2) = v23 at *
      (try simp only [Act.put, List.setIfInBounds_toArray, List.set_cons_zero, List.set_cons_succ])
      refine wpAnyH_take (i := 13) (oi := { dst := some 11, op := Op.assign (Operand.tmp 36), type := 2, pos := "exact.go:6242", after := #[{ on := 10, ground := Ground.data }, { on := 12, ground := Ground.chain }, { on := 0, ground := Ground.phase }, { on := 1, ground := Ground.phase }, { on := 2, ground := Ground.phase }, { on := 3, ground := Ground.phase }, { on := 4, ground := Ground.phase }, { on := 5, ground := Ground.phase }, { on := 6, ground := Ground.phase }, { on := 7, ground := Ground.phase }, { on := 8, ground := Ground.phase }, { on := 9, ground := Ground.phase }, { on := 10, ground := Ground.phase }, { on := 11, ground := Ground.phase }, { on := 12, ground := Ground.phase }], guard := none }) (v := ?_) rfl (by kernel_rfl) (by kernel_rfl) (by kernel_rfl) (fun _ _ _ h => h) (Or.inl ⟨by rfl, ?_⟩) (by assumption) ?_
      rotate_left 1
      · ((intro w hSw; obtain ⟨⟨s0, s1, s2, s3, s4, s5, s6⟩, ⟨t0, t1, t2, t3⟩, ⟨v0, v1, v2, v3, v4, v5, v6⟩, t4⟩ := hSw; go_simp; try with_reducible rfl))
      (try simp only [Act.put, List.setIfInBounds_toArray, List.set_cons_zero, List.set_cons_succ])
      refine wpAnyH_done (by kernel_rfl) ?_ _
    case' refine_1 =>
      go_simp
      go_at_call 14
      refine (toDateV_any _ _ _ _).mono ?_
      rintro e' v24 ⟨rfl, hb⟩
      replace N := Lib.hid (bT N.out hb)
      replace I := Lib.hid (I.out.keep hb)
      refine hK.out _ _ (Sa.keep hb hHeld) (fun hN => ?_)
      clear hb
      clear hK K hHeld
      replace hHeld := hN
      clear hN
      (try simp only [Act.put, List.setIfInBounds_toArray, List.set_cons_zero, List.set_cons_succ])
      refine wpAnyH_ready (rs := [5, 11]) (by kernel_rfl) (by simp) ?_
      refine AllReadyH.cons (o := { dst := some 32, op := Op.call { callee := Callee.value (Operand.func 13), args := #[Operand.tmp 31], argTypes := #[25] }, type := 33, pos := "exact.go:6242", after := #[{ on := 4, ground := Ground.data }, { on := 3, ground := Ground.chain }], guard := none }) rfl (fun K hK => ?_) (AllReadyH.cons (o := { dst := some 10, op := Op.alloc 35, type := 0, pos := "exact.go:6242", after := #[], guard := none }) rfl (fun K hK => ?_) AllReadyH.nil)
      case' refine_2 =>
        go_simp
        have B := Lib.hid (BoxL.new v24 [.int .i64 0, .int .i64 0, .int .i64 0] 35)
        have N0 := N.out.size
        have hb := bA (bR v24) (.cells #[.int .i64 0, .int .i64 0, .int .i64 0] 35)
        replace N := Lib.hid (bT N.out hb)
        replace I := Lib.hid (I.out.keep hb)
        refine hK.out _ _ (Sa.keep hb hHeld) (fun hN => ?_)
        clear hb
        clear hK K hHeld
        replace hHeld := hN
        clear hN
        generalize v24.alloc (.cells #[.int .i64 0, .int .i64 0, .int .i64 0] 35) = v26 at *
        generalize hbd : v24.heap.size = bd at B ⊢
        have G := Lib.hid (show Wd.heap.size ≤ bd by rw [← hbd]; exact N0)
        clear hbd N0
        (try simp only [Act.put, List.setIfInBounds_toArray, List.set_cons_zero, List.set_cons_succ])
        refine wpAnyH_ready (rs := [5]) (by kernel_rfl) (by simp) ?_
        refine AllReadyH.cons (o := { dst := some 32, op := Op.call { callee := Callee.value (Operand.func 13), args := #[Operand.tmp 31], argTypes := #[25] }, type := 33, pos := "exact.go:6242", after := #[{ on := 4, ground := Ground.data }, { on := 3, ground := Ground.chain }], guard := none }) rfl (fun K hK => ?_) AllReadyH.nil
        go_simp
        go_at_call 13
        refine (toCalendar_any _ e _ ⟨_, _, rfl, HSE.out, hHeld.2.2.1.2.2.2.2.2.1, hHeld.2.2.1.2.2.2.2.2.2⟩ HE.out).mono ?_
        rintro e' v28 ⟨x4, rfl, hA, hb⟩
        replace N := Lib.hid (bT N.out hb)
        replace I := Lib.hid (I.out.keep hb)
        replace B := Lib.hid (B.out.keep hb)
        have J := Lib.hid hA.is
        clear hA
        refine hK.out _ _ (Sa.keep hb hHeld) (fun hN => ?_)
        clear hb
        clear hK K hHeld
        replace hHeld := hN
        clear hN
        (try simp only [Act.put, List.setIfInBounds_toArray, List.set_cons_zero, List.set_cons_succ])
        refine wpAnyH_ready (rs := [7]) (by kernel_rfl) (by simp) ?_
        refine AllReadyH.cons (o := { dst := some 34, op := Op.call { callee := Callee.value (Operand.func 28), args := #[Operand.tmp 28, Operand.tmp 30, Operand.tmp 32, Operand.tmp 33], argTypes := #[33, 35, 33, 2] }, type := 41, pos := "exact.go:6242", after := #[{ on := 1, ground := Ground.data }, { on := 3, ground := Ground.data }, { on := 5, ground := Ground.data }, { on := 6, ground := Ground.data }, { on := 5, ground := Ground.chain }], guard := none }) rfl (fun K hK => ?_) AllReadyH.nil
        go_simp
        go_at_call 28
        refine (CS.out _ _ _ I.out J.out).mono ?_
        rintro e' v30 ⟨rfl, hb⟩
        replace N := Lib.hid (bT N.out hb)
        replace I := Lib.hid (I.out.keep hb)
        replace J := Lib.hid (J.out.keep hb)
        replace B := Lib.hid (B.out.keep hb)
        refine hK.out _ _ (Sa.keep hb hHeld) (fun hN => ?_)
        clear hb
        clear hK K hHeld
        replace hHeld := hN
        clear hN
        (try simp only [Act.put, List.setIfInBounds_toArray, List.set_cons_zero, List.set_cons_succ])
        refine wpAnyH_take (i := 8) (oi := { dst := some 26, op := Op.move (Operand.tmp 34), type := 41, pos := "exact.go:6242", after := #[{ on := 7, ground := Ground.data }], guard := none }) (v := ?_) rfl (by kernel_rfl) (by kernel_rfl) (by kernel_rfl) (fun _ _ _ h => h) (Or.inl ⟨by rfl, ?_⟩) (by assumption) ?_
        rotate_left 1
        · ((intro w hSw; obtain ⟨⟨s0, s1, s2, s3, s4, s5, s6⟩, ⟨t0, t1, t2, t3⟩, ⟨v0, v1, v2, v3, v4, v5, v6⟩, t4⟩ := hSw; go_simp; try with_reducible rfl))
        (try simp only [Act.put, List.setIfInBounds_toArray, List.set_cons_zero, List.set_cons_succ])
        refine wpAnyH_take (i := 9) (oi := { dst := some 35, op := Op.extract (Operand.tmp 26) 0, type := 35, pos := "exact.go:6242", after := #[{ on := 8, ground := Ground.data }], guard := none }) (v := ?_) rfl (by kernel_rfl) (by kernel_rfl) (by kernel_rfl) (fun _ _ _ h => h) (Or.inl ⟨by rfl, ?_⟩) (by assumption) ?_
        rotate_left 1
        · ((intro w hSw; obtain ⟨⟨s0, s1, s2, s3, s4, s5, s6⟩, ⟨t0, t1, t2, t3⟩, ⟨v0, v1, v2, v3, v4, v5, v6⟩, t4⟩ := hSw; go_simp; try with_reducible rfl))
        (try simp only [Act.put, List.setIfInBounds_toArray, List.set_cons_zero, List.set_cons_succ])
        refine wpAnyH_take (i := 10) (oi := { dst := some 36, op := Op.extract (Operand.tmp 26) 1, type := 2, pos := "exact.go:6242", after := #[{ on := 8, ground := Ground.data }, { on := 12, ground := Ground.gcOnly Departure.lateStores }], guard := none }) (v := ?_) rfl (by kernel_rfl) (by kernel_rfl) (by kernel_rfl) (fun _ _ _ h => h) (Or.inl ⟨by rfl, ?_⟩) (by assumption) ?_
        rotate_left 1
        · ((intro w hSw; obtain ⟨⟨s0, s1, s2, s3, s4, s5, s6⟩, ⟨t0, t1, t2, t3⟩, ⟨v0, v1, v2, v3, v4, v5, v6⟩, t4⟩ := hSw; go_simp; try with_reducible rfl))
        (try simp only [Act.put, List.setIfInBounds_toArray, List.set_cons_zero, List.set_cons_succ])
        obtain ⟨y0, y1, y2, _⟩ := B.out.c3
        obtain ⟨y3, y4, y5⟩ := B.out.f3q
        refine wpAnyH_ready (rs := [12]) (by kernel_rfl) (by simp) ?_
        refine AllReadyH.cons (o := { dst := none, op := Op.store 35 (Operand.tmp 10) (Operand.tmp 35), type := 0, pos := "exact.go:6242", after := #[{ on := 11, ground := Ground.data }, { on := 9, ground := Ground.data }, { on := 7, ground := Ground.chain }, { on := 0, ground := Ground.phase }, { on := 1, ground := Ground.phase }, { on := 2, ground := Ground.phase }, { on := 3, ground := Ground.phase }, { on := 4, ground := Ground.phase }, { on := 5, ground := Ground.phase }, { on := 6, ground := Ground.phase }, { on := 7, ground := Ground.phase }, { on := 8, ground := Ground.phase }, { on := 9, ground := Ground.phase }, { on := 10, ground := Ground.textOnly Departure.lateStores }, { on := 11, ground := Ground.phase }], guard := none }) rfl (fun K hK => ?_) AllReadyH.nil
        go_simp
        clear y0 y1 y2 y3 y4 y5
        replace B := Lib.hid (BoxL.setQ (i := 2) (v := .int .i64 z2) (BoxL.setQ (i := 1) (v := .int .i64 z1) (BoxL.setQ (i := 0) (v := .int .i64 z0) B.out rfl) rfl) rfl)
        replace N := Lib.hid (((N.out.setCell (p := ⟨bd, 0, none⟩) G.out (.int .i64 z0)).setCell (p := ⟨bd, 1, none⟩) G.out (.int .i64 z1)).setCell (p := ⟨bd, 2, none⟩) G.out (.int .i64 z2))
        refine hK.out _ _ (Sa.keep N.out H2.out) (fun hN => ?_)
        clear hK K hHeld
        replace hHeld := hN
        clear hN
        generalize ((v30.setCell ⟨bd, 0, none⟩ (.int .i64 z0)).setCell ⟨bd, 1, none⟩ (.int .i64 z1)).setCell ⟨bd, 2, none⟩ (.int .i64 z2) = v32 at *
        (try simp only [Act.put, List.setIfInBounds_toArray, List.set_cons_zero, List.set_cons_succ])
        refine wpAnyH_take (i := 13) (oi := { dst := some 11, op := Op.assign (Operand.tmp 36), type := 2, pos := "exact.go:6242", after := #[{ on := 10, ground := Ground.data }, { on := 12, ground := Ground.chain }, { on := 0, ground := Ground.phase }, { on := 1, ground := Ground.phase }, { on := 2, ground := Ground.phase }, { on := 3, ground := Ground.phase }, { on := 4, ground := Ground.phase }, { on := 5, ground := Ground.phase }, { on := 6, ground := Ground.phase }, { on := 7, ground := Ground.phase }, { on := 8, ground := Ground.phase }, { on := 9, ground := Ground.phase }, { on := 10, ground := Ground.phase }, { on := 11, ground := Ground.phase }, { on := 12, ground := Ground.phase }], guard := none }) (v := ?_) rfl (by kernel_rfl) (by kernel_rfl) (by kernel_rfl) (fun _ _ _ h => h) (Or.inl ⟨by rfl, ?_⟩) (by assumption) ?_
        rotate_left 1
        · ((intro w hSw; obtain ⟨⟨s0, s1, s2, s3, s4, s5, s6⟩, ⟨t0, t1, t2, t3⟩, ⟨v0, v1, v2, v3, v4, v5, v6⟩, t4⟩ := hSw; go_simp; try with_reducible rfl))
        (try simp only [Act.put, List.setIfInBounds_toArray, List.set_cons_zero, List.set_cons_succ])
        refine wpAnyH_done (by kernel_rfl) ?_ _
      case' refine_1 =>
        go_simp
        go_at_call 13
        refine (toCalendar_any _ e _ ⟨_, _, rfl, HSE.out, hHeld.2.2.1.2.2.2.2.2.1, hHeld.2.2.1.2.2.2.2.2.2⟩ HE.out).mono ?_
        rintro e' v33 ⟨x4, rfl, hA, hb⟩
        replace N := Lib.hid (bT N.out hb)
        replace I := Lib.hid (I.out.keep hb)
        have J := Lib.hid hA.is
        clear hA
        refine hK.out _ _ (Sa.keep hb hHeld) (fun hN => ?_)
        clear hb
        clear hK K hHeld
        replace hHeld := hN
        clear hN
        (try simp only [Act.put, List.setIfInBounds_toArray, List.set_cons_zero, List.set_cons_succ])
        refine wpAnyH_ready (rs := [7, 11]) (by kernel_rfl) (by simp) ?_
        refine AllReadyH.cons (o := { dst := some 34, op := Op.call { callee := Callee.value (Operand.func 28), args := #[Operand.tmp 28, Operand.tmp 30, Operand.tmp 32, Operand.tmp 33], argTypes := #[33, 35, 33, 2] }, type := 41, pos := "exact.go:6242", after := #[{ on := 1, ground := Ground.data }, { on := 3, ground := Ground.data }, { on := 5, ground := Ground.data }, { on := 6, ground := Ground.data }, { on := 5, ground := Ground.chain }], guard := none }) rfl (fun K hK => ?_) (AllReadyH.cons (o := { dst := some 10, op := Op.alloc 35, type := 0, pos := "exact.go:6242", after := #[], guard := none }) rfl (fun K hK => ?_) AllReadyH.nil)
        case' refine_2 =>
          go_simp
          have B := Lib.hid (BoxL.new v33 [.int .i64 0, .int .i64 0, .int .i64 0] 35)
          have N0 := N.out.size
          have hb := bA (bR v33) (.cells #[.int .i64 0, .int .i64 0, .int .i64 0] 35)
          replace N := Lib.hid (bT N.out hb)
          replace I := Lib.hid (I.out.keep hb)
          replace J := Lib.hid (J.out.keep hb)
          refine hK.out _ _ (Sa.keep hb hHeld) (fun hN => ?_)
          clear hb
          clear hK K hHeld
          replace hHeld := hN
          clear hN
          generalize v33.alloc (.cells #[.int .i64 0, .int .i64 0, .int .i64 0] 35) = v35 at *
          generalize hbd : v33.heap.size = bd at B ⊢
          have G := Lib.hid (show Wd.heap.size ≤ bd by rw [← hbd]; exact N0)
          clear hbd N0
          (try simp only [Act.put, List.setIfInBounds_toArray, List.set_cons_zero, List.set_cons_succ])
          refine wpAnyH_ready (rs := [7]) (by kernel_rfl) (by simp) ?_
          refine AllReadyH.cons (o := { dst := some 34, op := Op.call { callee := Callee.value (Operand.func 28), args := #[Operand.tmp 28, Operand.tmp 30, Operand.tmp 32, Operand.tmp 33], argTypes := #[33, 35, 33, 2] }, type := 41, pos := "exact.go:6242", after := #[{ on := 1, ground := Ground.data }, { on := 3, ground := Ground.data }, { on := 5, ground := Ground.data }, { on := 6, ground := Ground.data }, { on := 5, ground := Ground.chain }], guard := none }) rfl (fun K hK => ?_) AllReadyH.nil
          go_simp
          go_at_call 28
          refine (CS.out _ _ _ I.out J.out).mono ?_
          rintro e' v37 ⟨rfl, hb⟩
          replace N := Lib.hid (bT N.out hb)
          replace I := Lib.hid (I.out.keep hb)
          replace J := Lib.hid (J.out.keep hb)
          replace B := Lib.hid (B.out.keep hb)
          refine hK.out _ _ (Sa.keep hb hHeld) (fun hN => ?_)
          clear hb
          clear hK K hHeld
          replace hHeld := hN
          clear hN
          (try simp only [Act.put, List.setIfInBounds_toArray, List.set_cons_zero, List.set_cons_succ])
          refine wpAnyH_take (i := 8) (oi := { dst := some 26, op := Op.move (Operand.tmp 34), type := 41, pos := "exact.go:6242", after := #[{ on := 7, ground := Ground.data }], guard := none }) (v := ?_) rfl (by kernel_rfl) (by kernel_rfl) (by kernel_rfl) (fun _ _ _ h => h) (Or.inl ⟨by rfl, ?_⟩) (by assumption) ?_
          rotate_left 1
          · ((intro w hSw; obtain ⟨⟨s0, s1, s2, s3, s4, s5, s6⟩, ⟨t0, t1, t2, t3⟩, ⟨v0, v1, v2, v3, v4, v5, v6⟩, t4⟩ := hSw; go_simp; try with_reducible rfl))
          (try simp only [Act.put, List.setIfInBounds_toArray, List.set_cons_zero, List.set_cons_succ])
          refine wpAnyH_take (i := 9) (oi := { dst := some 35, op := Op.extract (Operand.tmp 26) 0, type := 35, pos := "exact.go:6242", after := #[{ on := 8, ground := Ground.data }], guard := none }) (v := ?_) rfl (by kernel_rfl) (by kernel_rfl) (by kernel_rfl) (fun _ _ _ h => h) (Or.inl ⟨by rfl, ?_⟩) (by assumption) ?_
          rotate_left 1
          · ((intro w hSw; obtain ⟨⟨s0, s1, s2, s3, s4, s5, s6⟩, ⟨t0, t1, t2, t3⟩, ⟨v0, v1, v2, v3, v4, v5, v6⟩, t4⟩ := hSw; go_simp; try with_reducible rfl))
          (try simp only [Act.put, List.setIfInBounds_toArray, List.set_cons_zero, List.set_cons_succ])
          refine wpAnyH_take (i := 10) (oi := { dst := some 36, op := Op.extract (Operand.tmp 26) 1, type := 2, pos := "exact.go:6242", after := #[{ on := 8, ground := Ground.data }, { on := 12, ground := Ground.gcOnly Departure.lateStores }], guard := none }) (v := ?_) rfl (by kernel_rfl) (by kernel_rfl) (by kernel_rfl) (fun _ _ _ h => h) (Or.inl ⟨by rfl, ?_⟩) (by assumption) ?_
          rotate_left 1
          · ((intro w hSw; obtain ⟨⟨s0, s1, s2, s3, s4, s5, s6⟩, ⟨t0, t1, t2, t3⟩, ⟨v0, v1, v2, v3, v4, v5, v6⟩, t4⟩ := hSw; go_simp; try with_reducible rfl))
          (try simp only [Act.put, List.setIfInBounds_toArray, List.set_cons_zero, List.set_cons_succ])
          obtain ⟨y0, y1, y2, _⟩ := B.out.c3
          obtain ⟨y3, y4, y5⟩ := B.out.f3q
          refine wpAnyH_ready (rs := [12]) (by kernel_rfl) (by simp) ?_
          refine AllReadyH.cons (o := { dst := none, op := Op.store 35 (Operand.tmp 10) (Operand.tmp 35), type := 0, pos := "exact.go:6242", after := #[{ on := 11, ground := Ground.data }, { on := 9, ground := Ground.data }, { on := 7, ground := Ground.chain }, { on := 0, ground := Ground.phase }, { on := 1, ground := Ground.phase }, { on := 2, ground := Ground.phase }, { on := 3, ground := Ground.phase }, { on := 4, ground := Ground.phase }, { on := 5, ground := Ground.phase }, { on := 6, ground := Ground.phase }, { on := 7, ground := Ground.phase }, { on := 8, ground := Ground.phase }, { on := 9, ground := Ground.phase }, { on := 10, ground := Ground.textOnly Departure.lateStores }, { on := 11, ground := Ground.phase }], guard := none }) rfl (fun K hK => ?_) AllReadyH.nil
          go_simp
          clear y0 y1 y2 y3 y4 y5
          replace B := Lib.hid (BoxL.setQ (i := 2) (v := .int .i64 z2) (BoxL.setQ (i := 1) (v := .int .i64 z1) (BoxL.setQ (i := 0) (v := .int .i64 z0) B.out rfl) rfl) rfl)
          replace N := Lib.hid (((N.out.setCell (p := ⟨bd, 0, none⟩) G.out (.int .i64 z0)).setCell (p := ⟨bd, 1, none⟩) G.out (.int .i64 z1)).setCell (p := ⟨bd, 2, none⟩) G.out (.int .i64 z2))
          refine hK.out _ _ (Sa.keep N.out H2.out) (fun hN => ?_)
          clear hK K hHeld
          replace hHeld := hN
          clear hN
          generalize ((v37.setCell ⟨bd, 0, none⟩ (.int .i64 z0)).setCell ⟨bd, 1, none⟩ (.int .i64 z1)).setCell ⟨bd, 2, none⟩ (.int .i64 z2) = v39 at *
          (try simp only [Act.put, List.setIfInBounds_toArray, List.set_cons_zero, List.set_cons_succ])
          refine wpAnyH_take (i := 13) (oi := { dst := some 11, op := Op.assign (Operand.tmp 36), type := 2, pos := "exact.go:6242", after := #[{ on := 10, ground := Ground.data }, { on := 12, ground := Ground.chain }, { on := 0, ground := Ground.phase }, { on := 1, ground := Ground.phase }, { on := 2, ground := Ground.phase }, { on := 3, ground := Ground.phase }, { on := 4, ground := Ground.phase }, { on := 5, ground := Ground.phase }, { on := 6, ground := Ground.phase }, { on := 7, ground := Ground.phase }, { on := 8, ground := Ground.phase }, { on := 9, ground := Ground.phase }, { on := 10, ground := Ground.phase }, { on := 11, ground := Ground.phase }, { on := 12, ground := Ground.phase }], guard := none }) (v := ?_) rfl (by kernel_rfl) (by kernel_rfl) (by kernel_rfl) (fun _ _ _ h => h) (Or.inl ⟨by rfl, ?_⟩) (by assumption) ?_
          rotate_left 1
          · ((intro w hSw; obtain ⟨⟨s0, s1, s2, s3, s4, s5, s6⟩, ⟨t0, t1, t2, t3⟩, ⟨v0, v1, v2, v3, v4, v5, v6⟩, t4⟩ := hSw; go_simp; try with_reducible rfl))
          (try simp only [Act.put, List.setIfInBounds_toArray, List.set_cons_zero, List.set_cons_succ])
          refine wpAnyH_done (by kernel_rfl) ?_ _
        case' refine_1 =>
          go_simp
          go_at_call 28
          refine (CS.out _ _ _ I.out J.out).mono ?_
          rintro e' v40 ⟨rfl, hb⟩
          replace N := Lib.hid (bT N.out hb)
          replace I := Lib.hid (I.out.keep hb)
          replace J := Lib.hid (J.out.keep hb)
          refine hK.out _ _ (Sa.keep hb hHeld) (fun hN => ?_)
          clear hb
          clear hK K hHeld
          replace hHeld := hN
          clear hN
          (try simp only [Act.put, List.setIfInBounds_toArray, List.set_cons_zero, List.set_cons_succ])
          refine wpAnyH_take (i := 8) (oi := { dst := some 26, op := Op.move (Operand.tmp 34), type := 41, pos := "exact.go:6242", after := #[{ on := 7, ground := Ground.data }], guard := none }) (v := ?_) rfl (by kernel_rfl) (by kernel_rfl) (by kernel_rfl) (fun _ _ _ h => h) (Or.inl ⟨by rfl, ?_⟩) (by assumption) ?_
          rotate_left 1
          · ((intro w hSw; obtain ⟨⟨s0, s1, s2, s3, s4, s5, s6⟩, ⟨t0, t1, t2, t3⟩, ⟨v0, v1, v2, v3, v4, v5, v6⟩, t4⟩ := hSw; go_simp; try with_reducible rfl))
          (try simp only [Act.put, List.setIfInBounds_toArray, List.set_cons_zero, List.set_cons_succ])
          refine wpAnyH_take (i := 9) (oi := { dst := some 35, op := Op.extract (Operand.tmp 26) 0, type := 35, pos := "exact.go:6242", after := #[{ on := 8, ground := Ground.data }], guard := none }) (v := ?_) rfl (by kernel_rfl) (by kernel_rfl) (by kernel_rfl) (fun _ _ _ h => h) (Or.inl ⟨by rfl, ?_⟩) (by assumption) ?_
          rotate_left 1
          · ((intro w hSw; obtain ⟨⟨s0, s1, s2, s3, s4, s5, s6⟩, ⟨t0, t1, t2, t3⟩, ⟨v0, v1, v2, v3, v4, v5, v6⟩, t4⟩ := hSw; go_simp; try with_reducible rfl))
          (try simp only [Act.put, List.setIfInBounds_toArray, List.set_cons_zero, List.set_cons_succ])
          refine wpAnyH_take (i := 10) (oi := { dst := some 36, op := Op.extract (Operand.tmp 26) 1, type := 2, pos := "exact.go:6242", after := #[{ on := 8, ground := Ground.data }, { on := 12, ground := Ground.gcOnly Departure.lateStores }], guard := none }) (v := ?_) rfl (by kernel_rfl) (by kernel_rfl) (by kernel_rfl) (fun _ _ _ h => h) (Or.inl ⟨by rfl, ?_⟩) (by assumption) ?_
          rotate_left 1
          · ((intro w hSw; obtain ⟨⟨s0, s1, s2, s3, s4, s5, s6⟩, ⟨t0, t1, t2, t3⟩, ⟨v0, v1, v2, v3, v4, v5, v6⟩, t4⟩ := hSw; go_simp; try with_reducible rfl))
          (try simp only [Act.put, List.setIfInBounds_toArray, List.set_cons_zero, List.set_cons_succ])
          refine wpAnyH_ready (rs := [11]) (by kernel_rfl) (by simp) ?_
          refine AllReadyH.cons (o := { dst := some 10, op := Op.alloc 35, type := 0, pos := "exact.go:6242", after := #[], guard := none }) rfl (fun K hK => ?_) AllReadyH.nil
          go_simp
          have B := Lib.hid (BoxL.new v40 [.int .i64 0, .int .i64 0, .int .i64 0] 35)
          have N0 := N.out.size
          have hb := bA (bR v40) (.cells #[.int .i64 0, .int .i64 0, .int .i64 0] 35)
          replace N := Lib.hid (bT N.out hb)
          replace I := Lib.hid (I.out.keep hb)
          replace J := Lib.hid (J.out.keep hb)
          refine hK.out _ _ (Sa.keep hb hHeld) (fun hN => ?_)
          clear hb
          clear hK K hHeld
          replace hHeld := hN
          clear hN
          generalize v40.alloc (.cells #[.int .i64 0, .int .i64 0, .int .i64 0] 35) = v42 at *
          generalize hbd : v40.heap.size = bd at B ⊢
          have G := Lib.hid (show Wd.heap.size ≤ bd by rw [← hbd]; exact N0)
          clear hbd N0
          (try simp only [Act.put, List.setIfInBounds_toArray, List.set_cons_zero, List.set_cons_succ])
          obtain ⟨y0, y1, y2, _⟩ := B.out.c3
          obtain ⟨y3, y4, y5⟩ := B.out.f3q
          refine wpAnyH_ready (rs := [12]) (by kernel_rfl) (by simp) ?_
          refine AllReadyH.cons (o := { dst := none, op := Op.store 35 (Operand.tmp 10) (Operand.tmp 35), type := 0, pos := "exact.go:6242", after := #[{ on := 11, ground := Ground.data }, { on := 9, ground := Ground.data }, { on := 7, ground := Ground.chain }, { on := 0, ground := Ground.phase }, { on := 1, ground := Ground.phase }, { on := 2, ground := Ground.phase }, { on := 3, ground := Ground.phase }, { on := 4, ground := Ground.phase }, { on := 5, ground := Ground.phase }, { on := 6, ground := Ground.phase }, { on := 7, ground := Ground.phase }, { on := 8, ground := Ground.phase }, { on := 9, ground := Ground.phase }, { on := 10, ground := Ground.textOnly Departure.lateStores }, { on := 11, ground := Ground.phase }], guard := none }) rfl (fun K hK => ?_) AllReadyH.nil
          go_simp
          clear y0 y1 y2 y3 y4 y5
          replace B := Lib.hid (BoxL.setQ (i := 2) (v := .int .i64 z2) (BoxL.setQ (i := 1) (v := .int .i64 z1) (BoxL.setQ (i := 0) (v := .int .i64 z0) B.out rfl) rfl) rfl)
          replace N := Lib.hid (((N.out.setCell (p := ⟨bd, 0, none⟩) G.out (.int .i64 z0)).setCell (p := ⟨bd, 1, none⟩) G.out (.int .i64 z1)).setCell (p := ⟨bd, 2, none⟩) G.out (.int .i64 z2))
          refine hK.out _ _ (Sa.keep N.out H2.out) (fun hN => ?_)
          clear hK K hHeld
          replace hHeld := hN
          clear hN
          generalize ((v42.setCell ⟨bd, 0, none⟩ (.int .i64 z0)).setCell ⟨bd, 1, none⟩ (.int .i64 z1)).setCell ⟨bd, 2, none⟩ (.int .i64 z2) = v44 at *
          (try simp only [Act.put, List.setIfInBounds_toArray, List.set_cons_zero, List.set_cons_succ])
          refine wpAnyH_take (i := 13) (oi := { dst := some 11, op := Op.assign (Operand.tmp 36), type := 2, pos := "exact.go:6242", after := #[{ on := 10, ground := Ground.data }, { on := 12, ground := Ground.chain }, { on := 0, ground := Ground.phase }, { on := 1, ground := Ground.phase }, { on := 2, ground := Ground.phase }, { on := 3, ground := Ground.phase }, { on := 4, ground := Ground.phase }, { on := 5, ground := Ground.phase }, { on := 6, ground := Ground.phase }, { on := 7, ground := Ground.phase }, { on := 8, ground := Ground.phase }, { on := 9, ground := Ground.phase }, { on := 10, ground := Ground.phase }, { on := 11, ground := Ground.phase }, { on := 12, ground := Ground.phase }], guard := none }) (v := ?_) rfl (by kernel_rfl) (by kernel_rfl) (by kernel_rfl) (fun _ _ _ h => h) (Or.inl ⟨by rfl, ?_⟩) (by assumption) ?_
          rotate_left 1
          · ((intro w hSw; obtain ⟨⟨s0, s1, s2, s3, s4, s5, s6⟩, ⟨t0, t1, t2, t3⟩, ⟨v0, v1, v2, v3, v4, v5, v6⟩, t4⟩ := hSw; go_simp; try with_reducible rfl))
          (try simp only [Act.put, List.setIfInBounds_toArray, List.set_cons_zero, List.set_cons_succ])
          refine wpAnyH_done (by kernel_rfl) ?_ _
  all_goals
    have H3 := Lib.hid hHeld
    clear hHeld N G H2 I J
    obtain ⟨⟨c0, c1, c2, c3, c4, _, _⟩, ⟨d0, d1, d2, d3⟩, ⟨e0, e1, e2, e3, e4, _, _⟩, _⟩ := H3.out
    go_wp2_with fail
    refine (toCalendar_any _ c _ ⟨_, _, rfl, HSZ.out, H3.out.1.2.2.2.2.2.1, H3.out.1.2.2.2.2.2.2⟩ HL.out).mono ?_
    rintro e' w4 ⟨x2, rfl, hO, hb⟩
    obtain ⟨u, v, rfl, _, hM2, hR2⟩ := hO.is
    obtain ⟨u1, u2, rfl, _⟩ := id hM2.open
    obtain ⟨u3, u4, rfl, _⟩ := id hR2.open
    have hb' : Below w4.heap.size w4 (w4.alloc (.cells #[.string c.nm, .slice u1 c.ms.length u2, .slice u3 c.rs.length u4, .int .i64 c.wk] 33)) := bA (bR _) _
    have DB := Lib.hid ((B.out.keep hb).keep hb')
    have X := Lib.hid (Bx.of (BoxL.new w4 [.string c.nm, .slice u1 c.ms.length u2, .slice u3 c.rs.length u4, .int .i64 c.wk] 33) (hM2.keep hb') (hR2.keep hb'))
    have H4 := Lib.hid ((H3.out.keep hb).keep hb')
    clear c0 c1 c2 c3 c4 d0 d1 d2 d3 e0 e1 e2 e3 e4 hO hM2 hR2 hb hb' H3 B
    obtain ⟨⟨c0, c1, c2, c3, c4, _, _⟩, ⟨d0, d1, d2, d3⟩, ⟨e0, e1, e2, e3, e4, _, _⟩, _⟩ := H4.out
    go_wp2_with fail
    generalize w4.alloc (.cells #[.string c.nm, .slice u1 c.ms.length u2, .slice u3 c.rs.length u4, .int .i64 c.wk] 33) = W4 at *
    generalize w4.heap.size = bx at *
    refine (toCalendar_any _ e _ ⟨_, _, rfl, HSE.out, H4.out.2.2.1.2.2.2.2.2.1, H4.out.2.2.1.2.2.2.2.2.2⟩ HE.out).mono ?_
    rintro e' w5 ⟨x2, rfl, hO, hb⟩
    obtain ⟨u, v, rfl, _, hM2, hR2⟩ := hO.is
    obtain ⟨u5, u6, rfl, _⟩ := id hM2.open
    obtain ⟨u7, u8, rfl, _⟩ := id hR2.open
    have hb' : Below w5.heap.size w5 (w5.alloc (.cells #[.string e.nm, .slice u5 e.ms.length u6, .slice u7 e.rs.length u8, .int .i64 e.wk] 33)) := bA (bR _) _
    have DB := Lib.hid ((DB.out.keep hb).keep hb')
    have H5 := Lib.hid (show Sb w bl bx w5.heap.size c e (.slice u1 c.ms.length u2) (.slice u3 c.rs.length u4) (.slice u5 e.ms.length u6) (.slice u7 e.rs.length u8) (.slice p1 c.ms.length p2) (.slice p3 c.rs.length p4) (.slice p5 e.ms.length p6) (.slice p7 e.rs.length p8) a0 a1 a2 (w5.alloc (.cells #[.string e.nm, .slice u5 e.ms.length u6, .slice u7 e.rs.length u8, .int .i64 e.wk] 33)) from ⟨(X.out.keep hb).keep hb', Bx.of (BoxL.new w5 [.string e.nm, .slice u5 e.ms.length u6, .slice u7 e.rs.length u8, .int .i64 e.wk] 33) (hM2.keep hb') (hR2.keep hb'), (H4.out.keep hb).keep hb'⟩)
    clear c0 c1 c2 c3 c4 d0 d1 d2 d3 e0 e1 e2 e3 e4 hO hM2 hR2 hb hb' H4 X
    go_wp2_with fail
    generalize w5.alloc (.cells #[.string e.nm, .slice u5 e.ms.length u6, .slice u7 e.rs.length u8, .int .i64 e.wk] 33) = W5 at *
    generalize w5.heap.size = bz at *
    have H5 := Lib.hid (H5.out.keep (bR W5).drew)
    have DB := Lib.hid (DB.out.keep (bR W5).drew)
    have N := Lib.hid (bR W5.drew)
    refine wp_region_held_drew (S := Sb w bl bx bz c e (.slice u1 c.ms.length u2) (.slice u3 c.rs.length u4) (.slice u5 e.ms.length u6) (.slice u7 e.rs.length u8) (.slice p1 c.ms.length p2) (.slice p3 c.rs.length p4) (.slice p5 e.ms.length p6) (.slice p7 e.rs.length p8) a0 a1 a2) (by kernel_rfl) H5.out (fun hHeld => ?_)
    generalize W5.drew = Wd at *
    refine wpAnyH_take (i := 0) (oi := { dst := some 42, op := Op.load 33 (Operand.tmp 12), type := 33, pos := "exact.go:6245", after := #[], guard := none }) (v := ?_) rfl (by kernel_rfl) (by kernel_rfl) (by kernel_rfl) (fun _ _ _ h => h) (Or.inl ⟨by rfl, ?_⟩) (by assumption) ?_
    rotate_left 1
    · ((intro w hSw; obtain ⟨⟨l0, l1, l2, l3, l4, l5, l6⟩, ⟨m0, m1, m2, m3, m4, m5, m6⟩, ⟨s0, s1, s2, s3, s4, s5, s6⟩, ⟨t0, t1, t2, t3⟩, ⟨v0, v1, v2, v3, v4, v5, v6⟩, t4⟩ := hSw; go_simp; try with_reducible rfl))
    (try simp only [Act.put, List.setIfInBounds_toArray, List.set_cons_zero, List.set_cons_succ])
    refine wpAnyH_take (i := 1) (oi := { dst := some 43, op := Op.load 27 (Operand.tmp 5), type := 27, pos := "exact.go:6245", after := #[], guard := none }) (v := ?_) rfl (by kernel_rfl) (by kernel_rfl) (by kernel_rfl) (fun _ _ _ h => h) (Or.inl ⟨by rfl, ?_⟩) (by assumption) ?_
    rotate_left 1
    · ((intro w hSw; obtain ⟨⟨l0, l1, l2, l3, l4, l5, l6⟩, ⟨m0, m1, m2, m3, m4, m5, m6⟩, ⟨s0, s1, s2, s3, s4, s5, s6⟩, ⟨t0, t1, t2, t3⟩, ⟨v0, v1, v2, v3, v4, v5, v6⟩, t4⟩ := hSw; go_simp; try with_reducible rfl))
    (try simp only [Act.put, List.setIfInBounds_toArray, List.set_cons_zero, List.set_cons_succ])
    refine wpAnyH_take (i := 3) (oi := { dst := some 45, op := Op.load 33 (Operand.tmp 13), type := 33, pos := "exact.go:6245", after := #[], guard := none }) (v := ?_) rfl (by kernel_rfl) (by kernel_rfl) (by kernel_rfl) (fun _ _ _ h => h) (Or.inl ⟨by rfl, ?_⟩) (by assumption) ?_
    rotate_left 1
    · ((intro w hSw; obtain ⟨⟨l0, l1, l2, l3, l4, l5, l6⟩, ⟨m0, m1, m2, m3, m4, m5, m6⟩, ⟨s0, s1, s2, s3, s4, s5, s6⟩, ⟨t0, t1, t2, t3⟩, ⟨v0, v1, v2, v3, v4, v5, v6⟩, t4⟩ := hSw; go_simp; try with_reducible rfl))
    (try simp only [Act.put, List.setIfInBounds_toArray, List.set_cons_zero, List.set_cons_succ])
    refine wpAnyH_take (i := 4) (oi := { dst := some 46, op := Op.move (Operand.tmp 3), type := 2, pos := "exact.go:6245", after := #[], guard := none }) (v := ?_) rfl (by kernel_rfl) (by kernel_rfl) (by kernel_rfl) (fun _ _ _ h => h) (Or.inl ⟨by rfl, ?_⟩) (by assumption) ?_
    rotate_left 1
    · ((intro w hSw; obtain ⟨⟨l0, l1, l2, l3, l4, l5, l6⟩, ⟨m0, m1, m2, m3, m4, m5, m6⟩, ⟨s0, s1, s2, s3, s4, s5, s6⟩, ⟨t0, t1, t2, t3⟩, ⟨v0, v1, v2, v3, v4, v5, v6⟩, t4⟩ := hSw; go_simp; try with_reducible rfl))
    (try simp only [Act.put, List.setIfInBounds_toArray, List.set_cons_zero, List.set_cons_succ])
    refine wpAnyH_ready (rs := [2, 9]) (by kernel_rfl) (by simp) ?_
    refine AllReadyH.cons (o := { dst := some 44, op := Op.call { callee := Callee.value (Operand.func 14), args := #[Operand.tmp 43], argTypes := #[27] }, type := 35, pos := "exact.go:6245", after := #[{ on := 1, ground := Ground.data }], guard := none }) rfl (fun K hK => ?_) (AllReadyH.cons (o := { dst := some 14, op := Op.alloc 35, type := 0, pos := "exact.go:6245", after := #[], guard := none }) rfl (fun K hK => ?_) AllReadyH.nil)
    case' refine_2 =>
      go_simp
      have B := Lib.hid (BoxL.new Wd [.int .i64 0, .int .i64 0, .int .i64 0] 35)
      have N0 := N.out.size
      have hb := bA (bR Wd) (.cells #[.int .i64 0, .int .i64 0, .int .i64 0] 35)
      replace N := Lib.hid (bT N.out hb)
      refine hK.out _ _ (Sb.keep hb hHeld) (fun hN => ?_)
      clear hb
      clear hK K hHeld
      replace hHeld := hN
      clear hN
      generalize Wd.alloc (.cells #[.int .i64 0, .int .i64 0, .int .i64 0] 35) = v2 at *
      generalize hbd : Wd.heap.size = bg at B ⊢
      have G := Lib.hid (show Wd.heap.size ≤ bg by rw [← hbd]; exact N0)
      clear hbd N0
      (try simp only [Act.put, List.setIfInBounds_toArray, List.set_cons_zero, List.set_cons_succ])
      refine wpAnyH_ready (rs := [2]) (by kernel_rfl) (by simp) ?_
      refine AllReadyH.cons (o := { dst := some 44, op := Op.call { callee := Callee.value (Operand.func 14), args := #[Operand.tmp 43], argTypes := #[27] }, type := 35, pos := "exact.go:6245", after := #[{ on := 1, ground := Ground.data }], guard := none }) rfl (fun K hK => ?_) AllReadyH.nil
      go_simp
      go_at_call 14
      refine (toDateV_any _ _ _ _).mono ?_
      rintro e' v4 ⟨rfl, hb⟩
      replace N := Lib.hid (bT N.out hb)
      replace B := Lib.hid (B.out.keep hb)
      refine hK.out _ _ (Sb.keep hb hHeld) (fun hN => ?_)
      clear hb
      clear hK K hHeld
      replace hHeld := hN
      clear hN
      (try simp only [Act.put, List.setIfInBounds_toArray, List.set_cons_zero, List.set_cons_succ])
      refine wpAnyH_ready (rs := [5]) (by kernel_rfl) (by simp) ?_
      refine AllReadyH.cons (o := { dst := some 47, op := Op.call { callee := Callee.value (Operand.func 29), args := #[Operand.tmp 42, Operand.tmp 44, Operand.tmp 45, Operand.tmp 46], argTypes := #[33, 35, 33, 2] }, type := 41, pos := "exact.go:6245", after := #[{ on := 0, ground := Ground.data }, { on := 2, ground := Ground.data }, { on := 3, ground := Ground.data }, { on := 4, ground := Ground.data }, { on := 2, ground := Ground.chain }], guard := none }) rfl (fun K hK => ?_) AllReadyH.nil
      go_simp
      go_at_call 29
      refine (CI.out _ _ _ ⟨_, _, rfl, HSZ.out, hHeld.1.2.2.2.2.2.1, hHeld.1.2.2.2.2.2.2⟩ ⟨_, _, rfl, HSE.out, hHeld.2.1.2.2.2.2.2.1, hHeld.2.1.2.2.2.2.2.2⟩).mono ?_
      rintro e' v6 ⟨rfl, hb⟩
      replace N := Lib.hid (bT N.out hb)
      replace B := Lib.hid (B.out.keep hb)
      refine hK.out _ _ (Sb.keep hb hHeld) (fun hN => ?_)
      clear hb
      clear hK K hHeld
      replace hHeld := hN
      clear hN
      (try simp only [Act.put, List.setIfInBounds_toArray, List.set_cons_zero, List.set_cons_succ])
      refine wpAnyH_take (i := 6) (oi := { dst := some 41, op := Op.move (Operand.tmp 47), type := 41, pos := "exact.go:6245", after := #[{ on := 5, ground := Ground.data }], guard := none }) (v := ?_) rfl (by kernel_rfl) (by kernel_rfl) (by kernel_rfl) (fun _ _ _ h => h) (Or.inl ⟨by rfl, ?_⟩) (by assumption) ?_
      rotate_left 1
      · ((intro w hSw; obtain ⟨⟨l0, l1, l2, l3, l4, l5, l6⟩, ⟨m0, m1, m2, m3, m4, m5, m6⟩, ⟨s0, s1, s2, s3, s4, s5, s6⟩, ⟨t0, t1, t2, t3⟩, ⟨v0, v1, v2, v3, v4, v5, v6⟩, t4⟩ := hSw; go_simp; try with_reducible rfl))
      (try simp only [Act.put, List.setIfInBounds_toArray, List.set_cons_zero, List.set_cons_succ])
      refine wpAnyH_take (i := 7) (oi := { dst := some 48, op := Op.extract (Operand.tmp 41) 0, type := 35, pos := "exact.go:6245", after := #[{ on := 6, ground := Ground.data }], guard := none }) (v := ?_) rfl (by kernel_rfl) (by kernel_rfl) (by kernel_rfl) (fun _ _ _ h => h) (Or.inl ⟨by rfl, ?_⟩) (by assumption) ?_
      rotate_left 1
      · ((intro w hSw; obtain ⟨⟨l0, l1, l2, l3, l4, l5, l6⟩, ⟨m0, m1, m2, m3, m4, m5, m6⟩, ⟨s0, s1, s2, s3, s4, s5, s6⟩, ⟨t0, t1, t2, t3⟩, ⟨v0, v1, v2, v3, v4, v5, v6⟩, t4⟩ := hSw; go_simp; try with_reducible rfl))
      (try simp only [Act.put, List.setIfInBounds_toArray, List.set_cons_zero, List.set_cons_succ])
      refine wpAnyH_take (i := 8) (oi := { dst := some 49, op := Op.extract (Operand.tmp 41) 1, type := 2, pos := "exact.go:6245", after := #[{ on := 6, ground := Ground.data }, { on := 10, ground := Ground.gcOnly Departure.lateStores }], guard := none }) (v := ?_) rfl (by kernel_rfl) (by kernel_rfl) (by kernel_rfl) (fun _ _ _ h => h) (Or.inl ⟨by rfl, ?_⟩) (by assumption) ?_
      rotate_left 1
      · ((intro w hSw; obtain ⟨⟨l0, l1, l2, l3, l4, l5, l6⟩, ⟨m0, m1, m2, m3, m4, m5, m6⟩, ⟨s0, s1, s2, s3, s4, s5, s6⟩, ⟨t0, t1, t2, t3⟩, ⟨v0, v1, v2, v3, v4, v5, v6⟩, t4⟩ := hSw; go_simp; try with_reducible rfl))
      (try simp only [Act.put, List.setIfInBounds_toArray, List.set_cons_zero, List.set_cons_succ])
      obtain ⟨y0, y1, y2, _⟩ := B.out.c3
      obtain ⟨y3, y4, y5⟩ := B.out.f3q
      refine wpAnyH_ready (rs := [10]) (by kernel_rfl) (by simp) ?_
      refine AllReadyH.cons (o := { dst := none, op := Op.store 35 (Operand.tmp 14) (Operand.tmp 48), type := 0, pos := "exact.go:6245", after := #[{ on := 9, ground := Ground.data }, { on := 7, ground := Ground.data }, { on := 5, ground := Ground.chain }, { on := 0, ground := Ground.phase }, { on := 1, ground := Ground.phase }, { on := 2, ground := Ground.phase }, { on := 3, ground := Ground.phase }, { on := 4, ground := Ground.phase }, { on := 5, ground := Ground.phase }, { on := 6, ground := Ground.phase }, { on := 7, ground := Ground.phase }, { on := 8, ground := Ground.textOnly Departure.lateStores }, { on := 9, ground := Ground.phase }], guard := none }) rfl (fun K hK => ?_) AllReadyH.nil
      go_simp
      clear y0 y1 y2 y3 y4 y5
      replace B := Lib.hid (BoxL.setQ (i := 2) (v := .int .i64 z2) (BoxL.setQ (i := 1) (v := .int .i64 z1) (BoxL.setQ (i := 0) (v := .int .i64 z0) B.out rfl) rfl) rfl)
      replace N := Lib.hid (((N.out.setCell (p := ⟨bg, 0, none⟩) G.out (.int .i64 z0)).setCell (p := ⟨bg, 1, none⟩) G.out (.int .i64 z1)).setCell (p := ⟨bg, 2, none⟩) G.out (.int .i64 z2))
      refine hK.out _ _ (Sb.keep N.out H5.out) (fun hN => ?_)
      clear hK K hHeld
      replace hHeld := hN
      clear hN
      generalize ((v6.setCell ⟨bg, 0, none⟩ (.int .i64 z0)).setCell ⟨bg, 1, none⟩ (.int .i64 z1)).setCell ⟨bg, 2, none⟩ (.int .i64 z2) = v8 at *
      (try simp only [Act.put, List.setIfInBounds_toArray, List.set_cons_zero, List.set_cons_succ])
      refine wpAnyH_take (i := 11) (oi := { dst := some 15, op := Op.assign (Operand.tmp 49), type := 2, pos := "exact.go:6245", after := #[{ on := 8, ground := Ground.data }, { on := 10, ground := Ground.chain }, { on := 0, ground := Ground.phase }, { on := 1, ground := Ground.phase }, { on := 2, ground := Ground.phase }, { on := 3, ground := Ground.phase }, { on := 4, ground := Ground.phase }, { on := 5, ground := Ground.phase }, { on := 6, ground := Ground.phase }, { on := 7, ground := Ground.phase }, { on := 8, ground := Ground.phase }, { on := 9, ground := Ground.phase }, { on := 10, ground := Ground.phase }], guard := none }) (v := ?_) rfl (by kernel_rfl) (by kernel_rfl) (by kernel_rfl) (fun _ _ _ h => h) (Or.inl ⟨by rfl, ?_⟩) (by assumption) ?_
      rotate_left 1
      · ((intro w hSw; obtain ⟨⟨l0, l1, l2, l3, l4, l5, l6⟩, ⟨m0, m1, m2, m3, m4, m5, m6⟩, ⟨s0, s1, s2, s3, s4, s5, s6⟩, ⟨t0, t1, t2, t3⟩, ⟨v0, v1, v2, v3, v4, v5, v6⟩, t4⟩ := hSw; go_simp; try with_reducible rfl))
      (try simp only [Act.put, List.setIfInBounds_toArray, List.set_cons_zero, List.set_cons_succ])
      refine wpAnyH_done (by kernel_rfl) ?_ _
    case' refine_1 =>
      go_simp
      go_at_call 14
      refine (toDateV_any _ _ _ _).mono ?_
      rintro e' v9 ⟨rfl, hb⟩
      replace N := Lib.hid (bT N.out hb)
      refine hK.out _ _ (Sb.keep hb hHeld) (fun hN => ?_)
      clear hb
      clear hK K hHeld
      replace hHeld := hN
      clear hN
      (try simp only [Act.put, List.setIfInBounds_toArray, List.set_cons_zero, List.set_cons_succ])
      refine wpAnyH_ready (rs := [5, 9]) (by kernel_rfl) (by simp) ?_
      refine AllReadyH.cons (o := { dst := some 47, op := Op.call { callee := Callee.value (Operand.func 29), args := #[Operand.tmp 42, Operand.tmp 44, Operand.tmp 45, Operand.tmp 46], argTypes := #[33, 35, 33, 2] }, type := 41, pos := "exact.go:6245", after := #[{ on := 0, ground := Ground.data }, { on := 2, ground := Ground.data }, { on := 3, ground := Ground.data }, { on := 4, ground := Ground.data }, { on := 2, ground := Ground.chain }], guard := none }) rfl (fun K hK => ?_) (AllReadyH.cons (o := { dst := some 14, op := Op.alloc 35, type := 0, pos := "exact.go:6245", after := #[], guard := none }) rfl (fun K hK => ?_) AllReadyH.nil)
      case' refine_2 =>
        go_simp
        have B := Lib.hid (BoxL.new v9 [.int .i64 0, .int .i64 0, .int .i64 0] 35)
        have N0 := N.out.size
        have hb := bA (bR v9) (.cells #[.int .i64 0, .int .i64 0, .int .i64 0] 35)
        replace N := Lib.hid (bT N.out hb)
        refine hK.out _ _ (Sb.keep hb hHeld) (fun hN => ?_)
        clear hb
        clear hK K hHeld
        replace hHeld := hN
        clear hN
        generalize v9.alloc (.cells #[.int .i64 0, .int .i64 0, .int .i64 0] 35) = v11 at *
        generalize hbd : v9.heap.size = bg at B ⊢
        have G := Lib.hid (show Wd.heap.size ≤ bg by rw [← hbd]; exact N0)
        clear hbd N0
        (try simp only [Act.put, List.setIfInBounds_toArray, List.set_cons_zero, List.set_cons_succ])
        refine wpAnyH_ready (rs := [5]) (by kernel_rfl) (by simp) ?_
        refine AllReadyH.cons (o := { dst := some 47, op := Op.call { callee := Callee.value (Operand.func 29), args := #[Operand.tmp 42, Operand.tmp 44, Operand.tmp 45, Operand.tmp 46], argTypes := #[33, 35, 33, 2] }, type := 41, pos := "exact.go:6245", after := #[{ on := 0, ground := Ground.data }, { on := 2, ground := Ground.data }, { on := 3, ground := Ground.data }, { on := 4, ground := Ground.data }, { on := 2, ground := Ground.chain }], guard := none }) rfl (fun K hK => ?_) AllReadyH.nil
        go_simp
        go_at_call 29
        refine (CI.out _ _ _ ⟨_, _, rfl, HSZ.out, hHeld.1.2.2.2.2.2.1, hHeld.1.2.2.2.2.2.2⟩ ⟨_, _, rfl, HSE.out, hHeld.2.1.2.2.2.2.2.1, hHeld.2.1.2.2.2.2.2.2⟩).mono ?_
        rintro e' v13 ⟨rfl, hb⟩
        replace N := Lib.hid (bT N.out hb)
        replace B := Lib.hid (B.out.keep hb)
        refine hK.out _ _ (Sb.keep hb hHeld) (fun hN => ?_)
        clear hb
        clear hK K hHeld
        replace hHeld := hN
        clear hN
        (try simp only [Act.put, List.setIfInBounds_toArray, List.set_cons_zero, List.set_cons_succ])
        refine wpAnyH_take (i := 6) (oi := { dst := some 41, op := Op.move (Operand.tmp 47), type := 41, pos := "exact.go:6245", after := #[{ on := 5, ground := Ground.data }], guard := none }) (v := ?_) rfl (by kernel_rfl) (by kernel_rfl) (by kernel_rfl) (fun _ _ _ h => h) (Or.inl ⟨by rfl, ?_⟩) (by assumption) ?_
        rotate_left 1
        · ((intro w hSw; obtain ⟨⟨l0, l1, l2, l3, l4, l5, l6⟩, ⟨m0, m1, m2, m3, m4, m5, m6⟩, ⟨s0, s1, s2, s3, s4, s5, s6⟩, ⟨t0, t1, t2, t3⟩, ⟨v0, v1, v2, v3, v4, v5, v6⟩, t4⟩ := hSw; go_simp; try with_reducible rfl))
        (try simp only [Act.put, List.setIfInBounds_toArray, List.set_cons_zero, List.set_cons_succ])
        refine wpAnyH_take (i := 7) (oi := { dst := some 48, op := Op.extract (Operand.tmp 41) 0, type := 35, pos := "exact.go:6245", after := #[{ on := 6, ground := Ground.data }], guard := none }) (v := ?_) rfl (by kernel_rfl) (by kernel_rfl) (by kernel_rfl) (fun _ _ _ h => h) (Or.inl ⟨by rfl, ?_⟩) (by assumption) ?_
        rotate_left 1
        · ((intro w hSw; obtain ⟨⟨l0, l1, l2, l3, l4, l5, l6⟩, ⟨m0, m1, m2, m3, m4, m5, m6⟩, ⟨s0, s1, s2, s3, s4, s5, s6⟩, ⟨t0, t1, t2, t3⟩, ⟨v0, v1, v2, v3, v4, v5, v6⟩, t4⟩ := hSw; go_simp; try with_reducible rfl))
        (try simp only [Act.put, List.setIfInBounds_toArray, List.set_cons_zero, List.set_cons_succ])
        refine wpAnyH_take (i := 8) (oi := { dst := some 49, op := Op.extract (Operand.tmp 41) 1, type := 2, pos := "exact.go:6245", after := #[{ on := 6, ground := Ground.data }, { on := 10, ground := Ground.gcOnly Departure.lateStores }], guard := none }) (v := ?_) rfl (by kernel_rfl) (by kernel_rfl) (by kernel_rfl) (fun _ _ _ h => h) (Or.inl ⟨by rfl, ?_⟩) (by assumption) ?_
        rotate_left 1
        · ((intro w hSw; obtain ⟨⟨l0, l1, l2, l3, l4, l5, l6⟩, ⟨m0, m1, m2, m3, m4, m5, m6⟩, ⟨s0, s1, s2, s3, s4, s5, s6⟩, ⟨t0, t1, t2, t3⟩, ⟨v0, v1, v2, v3, v4, v5, v6⟩, t4⟩ := hSw; go_simp; try with_reducible rfl))
        (try simp only [Act.put, List.setIfInBounds_toArray, List.set_cons_zero, List.set_cons_succ])
        obtain ⟨y0, y1, y2, _⟩ := B.out.c3
        obtain ⟨y3, y4, y5⟩ := B.out.f3q
        refine wpAnyH_ready (rs := [10]) (by kernel_rfl) (by simp) ?_
        refine AllReadyH.cons (o := { dst := none, op := Op.store 35 (Operand.tmp 14) (Operand.tmp 48), type := 0, pos := "exact.go:6245", after := #[{ on := 9, ground := Ground.data }, { on := 7, ground := Ground.data }, { on := 5, ground := Ground.chain }, { on := 0, ground := Ground.phase }, { on := 1, ground := Ground.phase }, { on := 2, ground := Ground.phase }, { on := 3, ground := Ground.phase }, { on := 4, ground := Ground.phase }, { on := 5, ground := Ground.phase }, { on := 6, ground := Ground.phase }, { on := 7, ground := Ground.phase }, { on := 8, ground := Ground.textOnly Departure.lateStores }, { on := 9, ground := Ground.phase }], guard := none }) rfl (fun K hK => ?_) AllReadyH.nil
        go_simp
        clear y0 y1 y2 y3 y4 y5
        replace B := Lib.hid (BoxL.setQ (i := 2) (v := .int .i64 z2) (BoxL.setQ (i := 1) (v := .int .i64 z1) (BoxL.setQ (i := 0) (v := .int .i64 z0) B.out rfl) rfl) rfl)
        replace N := Lib.hid (((N.out.setCell (p := ⟨bg, 0, none⟩) G.out (.int .i64 z0)).setCell (p := ⟨bg, 1, none⟩) G.out (.int .i64 z1)).setCell (p := ⟨bg, 2, none⟩) G.out (.int .i64 z2))
        refine hK.out _ _ (Sb.keep N.out H5.out) (fun hN => ?_)
        clear hK K hHeld
        replace hHeld := hN
        clear hN
        generalize ((v13.setCell ⟨bg, 0, none⟩ (.int .i64 z0)).setCell ⟨bg, 1, none⟩ (.int .i64 z1)).setCell ⟨bg, 2, none⟩ (.int .i64 z2) = v15 at *
        (try simp only [Act.put, List.setIfInBounds_toArray, List.set_cons_zero, List.set_cons_succ])
        refine wpAnyH_take (i := 11) (oi := { dst := some 15, op := Op.assign (Operand.tmp 49), type := 2, pos := "exact.go:6245", after := #[{ on := 8, ground := Ground.data }, { on := 10, ground := Ground.chain }, { on := 0, ground := Ground.phase }, { on := 1, ground := Ground.phase }, { on := 2, ground := Ground.phase }, { on := 3, ground := Ground.phase }, { on := 4, ground := Ground.phase }, { on := 5, ground := Ground.phase }, { on := 6, ground := Ground.phase }, { on := 7, ground := Ground.phase }, { on := 8, ground := Ground.phase }, { on := 9, ground := Ground.phase }, { on := 10, ground := Ground.phase }], guard := none }) (v := ?_) rfl (by kernel_rfl) (by kernel_rfl) (by kernel_rfl) (fun _ _ _ h => h) (Or.inl ⟨by rfl, ?_⟩) (by assumption) ?_
        rotate_left 1
        · ((intro w hSw; obtain ⟨⟨l0, l1, l2, l3, l4, l5, l6⟩, ⟨m0, m1, m2, m3, m4, m5, m6⟩, ⟨s0, s1, s2, s3, s4, s5, s6⟩, ⟨t0, t1, t2, t3⟩, ⟨v0, v1, v2, v3, v4, v5, v6⟩, t4⟩ := hSw; go_simp; try with_reducible rfl))
        (try simp only [Act.put, List.setIfInBounds_toArray, List.set_cons_zero, List.set_cons_succ])
        refine wpAnyH_done (by kernel_rfl) ?_ _
      case' refine_1 =>
        go_simp
        go_at_call 29
        refine (CI.out _ _ _ ⟨_, _, rfl, HSZ.out, hHeld.1.2.2.2.2.2.1, hHeld.1.2.2.2.2.2.2⟩ ⟨_, _, rfl, HSE.out, hHeld.2.1.2.2.2.2.2.1, hHeld.2.1.2.2.2.2.2.2⟩).mono ?_
        rintro e' v16 ⟨rfl, hb⟩
        replace N := Lib.hid (bT N.out hb)
        refine hK.out _ _ (Sb.keep hb hHeld) (fun hN => ?_)
        clear hb
        clear hK K hHeld
        replace hHeld := hN
        clear hN
        (try simp only [Act.put, List.setIfInBounds_toArray, List.set_cons_zero, List.set_cons_succ])
        refine wpAnyH_take (i := 6) (oi := { dst := some 41, op := Op.move (Operand.tmp 47), type := 41, pos := "exact.go:6245", after := #[{ on := 5, ground := Ground.data }], guard := none }) (v := ?_) rfl (by kernel_rfl) (by kernel_rfl) (by kernel_rfl) (fun _ _ _ h => h) (Or.inl ⟨by rfl, ?_⟩) (by assumption) ?_
        rotate_left 1
        · ((intro w hSw; obtain ⟨⟨l0, l1, l2, l3, l4, l5, l6⟩, ⟨m0, m1, m2, m3, m4, m5, m6⟩, ⟨s0, s1, s2, s3, s4, s5, s6⟩, ⟨t0, t1, t2, t3⟩, ⟨v0, v1, v2, v3, v4, v5, v6⟩, t4⟩ := hSw; go_simp; try with_reducible rfl))
        (try simp only [Act.put, List.setIfInBounds_toArray, List.set_cons_zero, List.set_cons_succ])
        refine wpAnyH_take (i := 7) (oi := { dst := some 48, op := Op.extract (Operand.tmp 41) 0, type := 35, pos := "exact.go:6245", after := #[{ on := 6, ground := Ground.data }], guard := none }) (v := ?_) rfl (by kernel_rfl) (by kernel_rfl) (by kernel_rfl) (fun _ _ _ h => h) (Or.inl ⟨by rfl, ?_⟩) (by assumption) ?_
        rotate_left 1
        · ((intro w hSw; obtain ⟨⟨l0, l1, l2, l3, l4, l5, l6⟩, ⟨m0, m1, m2, m3, m4, m5, m6⟩, ⟨s0, s1, s2, s3, s4, s5, s6⟩, ⟨t0, t1, t2, t3⟩, ⟨v0, v1, v2, v3, v4, v5, v6⟩, t4⟩ := hSw; go_simp; try with_reducible rfl))
        (try simp only [Act.put, List.setIfInBounds_toArray, List.set_cons_zero, List.set_cons_succ])
        refine wpAnyH_take (i := 8) (oi := { dst := some 49, op := Op.extract (Operand.tmp 41) 1, type := 2, pos := "exact.go:6245", after := #[{ on := 6, ground := Ground.data }, { on := 10, ground := Ground.gcOnly Departure.lateStores }], guard := none }) (v := ?_) rfl (by kernel_rfl) (by kernel_rfl) (by kernel_rfl) (fun _ _ _ h => h) (Or.inl ⟨by rfl, ?_⟩) (by assumption) ?_
        rotate_left 1
        · ((intro w hSw; obtain ⟨⟨l0, l1, l2, l3, l4, l5, l6⟩, ⟨m0, m1, m2, m3, m4, m5, m6⟩, ⟨s0, s1, s2, s3, s4, s5, s6⟩, ⟨t0, t1, t2, t3⟩, ⟨v0, v1, v2, v3, v4, v5, v6⟩, t4⟩ := hSw; go_simp; try with_reducible rfl))
        (try simp only [Act.put, List.setIfInBounds_toArray, List.set_cons_zero, List.set_cons_succ])
        refine wpAnyH_ready (rs := [9]) (by kernel_rfl) (by simp) ?_
        refine AllReadyH.cons (o := { dst := some 14, op := Op.alloc 35, type := 0, pos := "exact.go:6245", after := #[], guard := none }) rfl (fun K hK => ?_) AllReadyH.nil
        go_simp
        have B := Lib.hid (BoxL.new v16 [.int .i64 0, .int .i64 0, .int .i64 0] 35)
        have N0 := N.out.size
        have hb := bA (bR v16) (.cells #[.int .i64 0, .int .i64 0, .int .i64 0] 35)
        replace N := Lib.hid (bT N.out hb)
        refine hK.out _ _ (Sb.keep hb hHeld) (fun hN => ?_)
        clear hb
        clear hK K hHeld
        replace hHeld := hN
        clear hN
        generalize v16.alloc (.cells #[.int .i64 0, .int .i64 0, .int .i64 0] 35) = v18 at *
        generalize hbd : v16.heap.size = bg at B ⊢
        have G := Lib.hid (show Wd.heap.size ≤ bg by rw [← hbd]; exact N0)
        clear hbd N0
        (try simp only [Act.put, List.setIfInBounds_toArray, List.set_cons_zero, List.set_cons_succ])
        obtain ⟨y0, y1, y2, _⟩ := B.out.c3
        obtain ⟨y3, y4, y5⟩ := B.out.f3q
        refine wpAnyH_ready (rs := [10]) (by kernel_rfl) (by simp) ?_
        refine AllReadyH.cons (o := { dst := none, op := Op.store 35 (Operand.tmp 14) (Operand.tmp 48), type := 0, pos := "exact.go:6245", after := #[{ on := 9, ground := Ground.data }, { on := 7, ground := Ground.data }, { on := 5, ground := Ground.chain }, { on := 0, ground := Ground.phase }, { on := 1, ground := Ground.phase }, { on := 2, ground := Ground.phase }, { on := 3, ground := Ground.phase }, { on := 4, ground := Ground.phase }, { on := 5, ground := Ground.phase }, { on := 6, ground := Ground.phase }, { on := 7, ground := Ground.phase }, { on := 8, ground := Ground.textOnly Departure.lateStores }, { on := 9, ground := Ground.phase }], guard := none }) rfl (fun K hK => ?_) AllReadyH.nil
        go_simp
        clear y0 y1 y2 y3 y4 y5
        replace B := Lib.hid (BoxL.setQ (i := 2) (v := .int .i64 z2) (BoxL.setQ (i := 1) (v := .int .i64 z1) (BoxL.setQ (i := 0) (v := .int .i64 z0) B.out rfl) rfl) rfl)
        replace N := Lib.hid (((N.out.setCell (p := ⟨bg, 0, none⟩) G.out (.int .i64 z0)).setCell (p := ⟨bg, 1, none⟩) G.out (.int .i64 z1)).setCell (p := ⟨bg, 2, none⟩) G.out (.int .i64 z2))
        refine hK.out _ _ (Sb.keep N.out H5.out) (fun hN => ?_)
        clear hK K hHeld
        replace hHeld := hN
        clear hN
        generalize ((v18.setCell ⟨bg, 0, none⟩ (.int .i64 z0)).setCell ⟨bg, 1, none⟩ (.int .i64 z1)).setCell ⟨bg, 2, none⟩ (.int .i64 z2) = v20 at *
        (try simp only [Act.put, List.setIfInBounds_toArray, List.set_cons_zero, List.set_cons_succ])
        refine wpAnyH_take (i := 11) (oi := { dst := some 15, op := Op.assign (Operand.tmp 49), type := 2, pos := "exact.go:6245", after := #[{ on := 8, ground := Ground.data }, { on := 10, ground := Ground.chain }, { on := 0, ground := Ground.phase }, { on := 1, ground := Ground.phase }, { on := 2, ground := Ground.phase }, { on := 3, ground := Ground.phase }, { on := 4, ground := Ground.phase }, { on := 5, ground := Ground.phase }, { on := 6, ground := Ground.phase }, { on := 7, ground := Ground.phase }, { on := 8, ground := Ground.phase }, { on := 9, ground := Ground.phase }, { on := 10, ground := Ground.phase }], guard := none }) (v := ?_) rfl (by kernel_rfl) (by kernel_rfl) (by kernel_rfl) (fun _ _ _ h => h) (Or.inl ⟨by rfl, ?_⟩) (by assumption) ?_
        rotate_left 1
        · ((intro w hSw; obtain ⟨⟨l0, l1, l2, l3, l4, l5, l6⟩, ⟨m0, m1, m2, m3, m4, m5, m6⟩, ⟨s0, s1, s2, s3, s4, s5, s6⟩, ⟨t0, t1, t2, t3⟩, ⟨v0, v1, v2, v3, v4, v5, v6⟩, t4⟩ := hSw; go_simp; try with_reducible rfl))
        (try simp only [Act.put, List.setIfInBounds_toArray, List.set_cons_zero, List.set_cons_succ])
        refine wpAnyH_done (by kernel_rfl) ?_ _
    all_goals
      have H6 := Lib.hid hHeld
      have DB := Lib.hid (DB.out.keep N.out)
      obtain ⟨e0, e1, e2, _⟩ := DB.out.c3
      obtain ⟨g0, g1, g2, _⟩ := B.out.c3
      clear hHeld N G H5 CS CI
      go_wp2_with fail
      refine (eqDate_same z0 z1 z2 _).mono ?_
      rintro e' w6 ⟨rfl, hb⟩
      have H7 := Lib.hid (H6.out.keep hb)
      clear e0 e1 e2 g0 g1 g2 hb B DB H6
      go_wp2_with fail
      have H8 := Lib.hid (H7.out.keep (bR w6).drew)
      have N := Lib.hid (bR w6.drew)
      clear H7
      refine wp_region_held_drew (S := Sb w bl bx bz c e (.slice u1 c.ms.length u2) (.slice u3 c.rs.length u4) (.slice u5 e.ms.length u6) (.slice u7 e.rs.length u8) (.slice p1 c.ms.length p2) (.slice p3 c.rs.length p4) (.slice p5 e.ms.length p6) (.slice p7 e.rs.length p8) a0 a1 a2) (by kernel_rfl) H8.out (fun hHeld => ?_)
      generalize w6.drew = Wd at *
      refine wpAnyH_take (i := 0) (oi := { dst := some 59, op := Op.load 33 (Operand.tmp 12), type := 33, pos := "exact.go:6249", after := #[], guard := none }) (v := ?_) rfl (by kernel_rfl) (by kernel_rfl) (by kernel_rfl) (fun _ _ _ h => h) (Or.inl ⟨by rfl, ?_⟩) (by assumption) ?_
      rotate_left 1
      · ((intro w hSw; obtain ⟨⟨l0, l1, l2, l3, l4, l5, l6⟩, ⟨m0, m1, m2, m3, m4, m5, m6⟩, ⟨s0, s1, s2, s3, s4, s5, s6⟩, ⟨t0, t1, t2, t3⟩, ⟨v0, v1, v2, v3, v4, v5, v6⟩, t4⟩ := hSw; go_simp; try with_reducible rfl))
      (try simp only [Act.put, List.setIfInBounds_toArray, List.set_cons_zero, List.set_cons_succ])
      refine wpAnyH_take (i := 1) (oi := { dst := some 60, op := Op.load 25 (Operand.tmp 4), type := 25, pos := "exact.go:6249", after := #[], guard := none }) (v := ?_) rfl (by kernel_rfl) (by kernel_rfl) (by kernel_rfl) (fun _ _ _ h => h) (Or.inl ⟨by rfl, ?_⟩) (by assumption) ?_
      rotate_left 1
      · ((intro w hSw; obtain ⟨⟨l0, l1, l2, l3, l4, l5, l6⟩, ⟨m0, m1, m2, m3, m4, m5, m6⟩, ⟨s0, s1, s2, s3, s4, s5, s6⟩, ⟨t0, t1, t2, t3⟩, ⟨v0, v1, v2, v3, v4, v5, v6⟩, t4⟩ := hSw; go_simp; try with_reducible rfl))
      (try simp only [Act.put, List.setIfInBounds_toArray, List.set_cons_zero, List.set_cons_succ])
      refine wpAnyH_ready (rs := [2]) (by kernel_rfl) (by simp) ?_
      refine AllReadyH.cons (o := { dst := some 61, op := Op.call { callee := Callee.value (Operand.func 13), args := #[Operand.tmp 60], argTypes := #[25] }, type := 33, pos := "exact.go:6249", after := #[{ on := 1, ground := Ground.data }], guard := none }) rfl (fun K hK => ?_) AllReadyH.nil
      go_simp
      go_at_call 13
      refine (toCalendar_any _ c _ ⟨_, _, rfl, HSZ.out, hHeld.2.2.1.2.2.2.2.2.1, hHeld.2.2.1.2.2.2.2.2.2⟩ HL.out).mono ?_
      rintro e' v2 ⟨x3, rfl, hA, hb⟩
      replace N := Lib.hid (bT N.out hb)
      have I := Lib.hid hA.is
      clear hA
      refine hK.out _ _ (Sb.keep hb hHeld) (fun hN => ?_)
      clear hb
      clear hK K hHeld
      replace hHeld := hN
      clear hN
      (try simp only [Act.put, List.setIfInBounds_toArray, List.set_cons_zero, List.set_cons_succ])
      refine wpAnyH_ready (rs := [3]) (by kernel_rfl) (by simp) ?_
      refine AllReadyH.cons (o := { dst := some 62, op := Op.call { callee := Callee.value (Operand.func 16), args := #[Operand.tmp 59, Operand.tmp 61], argTypes := #[33, 33] }, type := 4, pos := "exact.go:6249", after := #[{ on := 0, ground := Ground.data }, { on := 2, ground := Ground.data }, { on := 2, ground := Ground.chain }], guard := none }) rfl (fun K hK => ?_) AllReadyH.nil
      go_simp
      go_at_call 16
      refine (eqCalendar_same c _ _ _ ⟨_, _, rfl, HSZ.out, hHeld.1.2.2.2.2.2.1, hHeld.1.2.2.2.2.2.2⟩ I.out HL.out).mono ?_
      rintro e' v4 ⟨rfl, hb⟩
      replace N := Lib.hid (bT N.out hb)
      refine hK.out _ _ (Sb.keep hb hHeld) (fun hN => ?_)
      clear hb
      clear hK K hHeld
      replace hHeld := hN
      clear hN
      (try simp only [Act.put, List.setIfInBounds_toArray, List.set_cons_zero, List.set_cons_succ])
      refine wpAnyH_take (i := 4) (oi := { dst := some 63, op := Op.unOp UnOp.not 4 (Operand.tmp 62), type := 4, pos := "exact.go:6249", after := #[{ on := 3, ground := Ground.data }], guard := none }) (v := ?_) rfl (by kernel_rfl) (by kernel_rfl) (by kernel_rfl) (fun _ _ _ h => h) (Or.inl ⟨by rfl, ?_⟩) (by assumption) ?_
      rotate_left 1
      · ((intro w hSw; obtain ⟨⟨l0, l1, l2, l3, l4, l5, l6⟩, ⟨m0, m1, m2, m3, m4, m5, m6⟩, ⟨s0, s1, s2, s3, s4, s5, s6⟩, ⟨t0, t1, t2, t3⟩, ⟨v0, v1, v2, v3, v4, v5, v6⟩, t4⟩ := hSw; go_simp; try with_reducible rfl))
      (try simp only [Act.put, List.setIfInBounds_toArray, List.set_cons_zero, List.set_cons_succ])
      refine wpAnyH_done (by kernel_rfl) ?_ _
      have H7 := Lib.hid hHeld
      clear hHeld N H8 I
      go_wp2_with fail
      have H8 := Lib.hid (H7.out.keep (bR v4).drew)
      have N := Lib.hid (bR v4.drew)
      clear H7
      refine wp_region_held_drew (S := Sb w bl bx bz c e (.slice u1 c.ms.length u2) (.slice u3 c.rs.length u4) (.slice u5 e.ms.length u6) (.slice u7 e.rs.length u8) (.slice p1 c.ms.length p2) (.slice p3 c.rs.length p4) (.slice p5 e.ms.length p6) (.slice p7 e.rs.length p8) a0 a1 a2) (by kernel_rfl) H8.out (fun hHeld => ?_)
      generalize v4.drew = Wd at *
      refine wpAnyH_take (i := 0) (oi := { dst := some 64, op := Op.load 33 (Operand.tmp 13), type := 33, pos := "exact.go:6252", after := #[], guard := none }) (v := ?_) rfl (by kernel_rfl) (by kernel_rfl) (by kernel_rfl) (fun _ _ _ h => h) (Or.inl ⟨by rfl, ?_⟩) (by assumption) ?_
      rotate_left 1
      · ((intro w hSw; obtain ⟨⟨l0, l1, l2, l3, l4, l5, l6⟩, ⟨m0, m1, m2, m3, m4, m5, m6⟩, ⟨s0, s1, s2, s3, s4, s5, s6⟩, ⟨t0, t1, t2, t3⟩, ⟨v0, v1, v2, v3, v4, v5, v6⟩, t4⟩ := hSw; go_simp; try with_reducible rfl))
      (try simp only [Act.put, List.setIfInBounds_toArray, List.set_cons_zero, List.set_cons_succ])
      refine wpAnyH_take (i := 1) (oi := { dst := some 65, op := Op.load 25 (Operand.tmp 6), type := 25, pos := "exact.go:6252", after := #[], guard := none }) (v := ?_) rfl (by kernel_rfl) (by kernel_rfl) (by kernel_rfl) (fun _ _ _ h => h) (Or.inl ⟨by rfl, ?_⟩) (by assumption) ?_
      rotate_left 1
      · ((intro w hSw; obtain ⟨⟨l0, l1, l2, l3, l4, l5, l6⟩, ⟨m0, m1, m2, m3, m4, m5, m6⟩, ⟨s0, s1, s2, s3, s4, s5, s6⟩, ⟨t0, t1, t2, t3⟩, ⟨v0, v1, v2, v3, v4, v5, v6⟩, t4⟩ := hSw; go_simp; try with_reducible rfl))
      (try simp only [Act.put, List.setIfInBounds_toArray, List.set_cons_zero, List.set_cons_succ])
      refine wpAnyH_ready (rs := [2]) (by kernel_rfl) (by simp) ?_
      refine AllReadyH.cons (o := { dst := some 66, op := Op.call { callee := Callee.value (Operand.func 13), args := #[Operand.tmp 65], argTypes := #[25] }, type := 33, pos := "exact.go:6252", after := #[{ on := 1, ground := Ground.data }], guard := none }) rfl (fun K hK => ?_) AllReadyH.nil
      go_simp
      go_at_call 13
      refine (toCalendar_any _ e _ ⟨_, _, rfl, HSE.out, hHeld.2.2.2.2.1.2.2.2.2.2.1, hHeld.2.2.2.2.1.2.2.2.2.2.2⟩ HE.out).mono ?_
      rintro e' v2 ⟨x3, rfl, hA, hb⟩
      replace N := Lib.hid (bT N.out hb)
      have I := Lib.hid hA.is
      clear hA
      refine hK.out _ _ (Sb.keep hb hHeld) (fun hN => ?_)
      clear hb
      clear hK K hHeld
      replace hHeld := hN
      clear hN
      (try simp only [Act.put, List.setIfInBounds_toArray, List.set_cons_zero, List.set_cons_succ])
      refine wpAnyH_ready (rs := [3]) (by kernel_rfl) (by simp) ?_
      refine AllReadyH.cons (o := { dst := some 67, op := Op.call { callee := Callee.value (Operand.func 16), args := #[Operand.tmp 64, Operand.tmp 66], argTypes := #[33, 33] }, type := 4, pos := "exact.go:6252", after := #[{ on := 0, ground := Ground.data }, { on := 2, ground := Ground.data }, { on := 2, ground := Ground.chain }], guard := none }) rfl (fun K hK => ?_) AllReadyH.nil
      go_simp
      go_at_call 16
      refine (eqCalendar_same e _ _ _ ⟨_, _, rfl, HSE.out, hHeld.2.1.2.2.2.2.2.1, hHeld.2.1.2.2.2.2.2.2⟩ I.out HE.out).mono ?_
      rintro e' v4 ⟨rfl, hb⟩
      replace N := Lib.hid (bT N.out hb)
      refine hK.out _ _ (Sb.keep hb hHeld) (fun hN => ?_)
      clear hb
      clear hK K hHeld
      replace hHeld := hN
      clear hN
      (try simp only [Act.put, List.setIfInBounds_toArray, List.set_cons_zero, List.set_cons_succ])
      refine wpAnyH_take (i := 4) (oi := { dst := some 68, op := Op.unOp UnOp.not 4 (Operand.tmp 67), type := 4, pos := "exact.go:6252", after := #[{ on := 3, ground := Ground.data }], guard := none }) (v := ?_) rfl (by kernel_rfl) (by kernel_rfl) (by kernel_rfl) (fun _ _ _ h => h) (Or.inl ⟨by rfl, ?_⟩) (by assumption) ?_
      rotate_left 1
      · ((intro w hSw; obtain ⟨⟨l0, l1, l2, l3, l4, l5, l6⟩, ⟨m0, m1, m2, m3, m4, m5, m6⟩, ⟨s0, s1, s2, s3, s4, s5, s6⟩, ⟨t0, t1, t2, t3⟩, ⟨v0, v1, v2, v3, v4, v5, v6⟩, t4⟩ := hSw; go_simp; try with_reducible rfl))
      (try simp only [Act.put, List.setIfInBounds_toArray, List.set_cons_zero, List.set_cons_succ])
      refine wpAnyH_done (by kernel_rfl) ?_ _
      have H7 := Lib.hid hHeld
      clear hHeld N H8 I
      go_wp2_with fail
      go_ret
      exact ⟨rfl, H7.out.2.2.2.2.2⟩
end Go.Proofs.Ytbkhejideffflaa

/-
  Days of calendars, the program's side: kindOf, DayOf.
-/
import Derived.Test.YtbkhejideffflaaMpS
import Derived.Test.YtbkhejideffflaaDyT
namespace Go.Proofs.Ytbkhejideffflaa
open Go.RowKit

/-- A calendar and a day lie in the boxes of a call. -/
def CpH (W0 : World) (nb pb : Nat) (c : Cal) (a1 : Option Addr) (n1 : Nat) (a2 : Option Addr) (n2 : Nat) (d0 d1 d2 : Int) (w' : World) : Prop :=
  w'.cell? ⟨nb, 0, none⟩ = some (.string c.nm) ∧ w'.cell? ⟨nb, 1, none⟩ = some (.slice a1 c.ms.length n1) ∧ w'.cell? ⟨nb, 2, none⟩ = some (.slice a2 c.rs.length n2) ∧ w'.cell? ⟨nb, 3, none⟩ = some (.int .i64 c.wk) ∧ nb < w'.heap.size ∧
  w'.cell? ⟨pb, 0, none⟩ = some (.int .i64 d0) ∧ w'.cell? ⟨pb, 1, none⟩ = some (.int .i64 d1) ∧ w'.cell? ⟨pb, 2, none⟩ = some (.int .i64 d2) ∧ pb < w'.heap.size ∧ Below W0.heap.size W0 w'
theorem CpH.keep {W0 : World} {nb pb : Nat} {c : Cal} {a1 : Option Addr} {n1 : Nat} {a2 : Option Addr} {n2 : Nat} {d0 d1 d2 : Int} {w' w2 : World} (hb : Below w'.heap.size w' w2) (h : CpH W0 nb pb c a1 n1 a2 n2 d0 d1 d2 w') : CpH W0 nb pb c a1 n1 a2 n2 d0 d1 d2 w2 := by
  obtain ⟨a0, a1, a2, a3, e1, f0, f1, f2, f3, e4⟩ := h
  exact ⟨(hb.cell (p := ⟨nb, 0, none⟩) e1).trans a0, (hb.cell (p := ⟨nb, 1, none⟩) e1).trans a1, (hb.cell (p := ⟨nb, 2, none⟩) e1).trans a2, (hb.cell (p := ⟨nb, 3, none⟩) e1).trans a3, Nat.lt_of_lt_of_le e1 hb.size,
    (hb.cell (p := ⟨pb, 0, none⟩) f3).trans f0, (hb.cell (p := ⟨pb, 1, none⟩) f3).trans f1, (hb.cell (p := ⟨pb, 2, none⟩) f3).trans f2, Nat.lt_of_lt_of_le f3 hb.size, bT e4 hb⟩
theorem CpH.drew {W0 : World} {nb pb : Nat} {c : Cal} {a1 : Option Addr} {n1 : Nat} {a2 : Option Addr} {n2 : Nat} {d0 d1 d2 : Int} {w' : World} (h : CpH W0 nb pb c a1 n1 a2 n2 d0 d1 d2 w') : CpH W0 nb pb c a1 n1 a2 n2 d0 d1 d2 w'.drew := h.keep (bR _).drew
theorem CpH.new (w : World) (c : Cal) (a1 : Option Addr) (n1 : Nat) (a2 : Option Addr) (n2 : Nat) (d0 d1 d2 : Int) : CpH w w.heap.size (w.heap.size + 1) c a1 n1 a2 n2 d0 d1 d2 ((w.alloc (.cells #[.string c.nm, .slice a1 c.ms.length n1, .slice a2 c.rs.length n2, .int .i64 c.wk] 33)).alloc (.cells #[.int .i64 d0, .int .i64 d1, .int .i64 d2] 35)) := by
  obtain ⟨c0, c1, c2, c3, c4⟩ := ((BoxL.new w [.string c.nm, .slice a1 c.ms.length n1, .slice a2 c.rs.length n2, .int .i64 c.wk] 33).alloc (.cells #[.int .i64 d0, .int .i64 d1, .int .i64 d2] 35)).c4q
  obtain ⟨e0, e1, e2, e3⟩ := (BoxL.at_ (w := w.alloc (.cells #[.string c.nm, .slice a1 c.ms.length n1, .slice a2 c.rs.length n2, .int .i64 c.wk] 33)) (b := w.heap.size + 1) (vs := [.int .i64 d0, .int .i64 d1, .int .i64 d2]) (T := 35) (by simp)).c3
  exact ⟨c0, c1, c2, c3, c4, e0, e1, e2, e3, bA (bA (bR _) _) _⟩
theorem CpH.set {W0 : World} {nb pb : Nat} {c : Cal} {a1 : Option Addr} {n1 : Nat} {a2 : Option Addr} {n2 : Nat} {d0 d1 d2 : Int} {w' : World} (h : CpH W0 nb pb c a1 n1 a2 n2 d0 d1 d2 w') (p : Addr) (u : Value) (h0 : W0.heap.size ≤ p.block) (h1 : p.block ≠ nb) (h2 : p.block ≠ pb) : CpH W0 nb pb c a1 n1 a2 n2 d0 d1 d2 (w'.setCell p u) := by
  obtain ⟨a0, a1, a2, a3, e1, f0, f1, f2, f3, e4⟩ := h
  exact ⟨(World.cell?_setCell_far _ _ _ _ h1).trans a0, (World.cell?_setCell_far _ _ _ _ h1).trans a1, (World.cell?_setCell_far _ _ _ _ h1).trans a2, (World.cell?_setCell_far _ _ _ _ h1).trans a3, by simpa [World.setCell] using e1,
    (World.cell?_setCell_far _ _ _ _ h2).trans f0, (World.cell?_setCell_far _ _ _ _ h2).trans f1, (World.cell?_setCell_far _ _ _ _ h2).trans f2, by simpa [World.setCell] using f3, e4.setCell h0 u⟩
theorem CpH.bel {W0 : World} {nb pb : Nat} {c : Cal} {a1 : Option Addr} {n1 : Nat} {a2 : Option Addr} {n2 : Nat} {d0 d1 d2 : Int} {w' : World} (h : CpH W0 nb pb c a1 n1 a2 n2 d0 d1 d2 w') : Below W0.heap.size W0 w' := h.2.2.2.2.2.2.2.2.2
set_option maxRecDepth 100000 in
set_option maxHeartbeats 8000000 in
theorem kindOf_any (c : Cal) (d0 d1 d2 : Int) (x : Value) (w : World) (h : IsC w x c) (hc : okC c = true) (hy : 0 ≤ d0) :
    Calls Try.prog 46 #[x, .agg #[.int .i64 d0, .int .i64 d1, .int .i64 d2]] w (BelV (.agg #[.int .i64 d1, .bool (lpY c.rs d0)]) w) := by
  have CL := Lib.hid (fun x W (h : IsC W x c) => isLeapV_any c d0 x W h hc hy)
  generalize lpY c.rs d0 = q at *
  obtain ⟨u, v, rfl, hs, hM, hR⟩ := h
  obtain ⟨a1, n1, rfl, l1, _⟩ := hM.open
  obtain ⟨a2, n2, rfl, l2, _⟩ := hR.open
  have HSZ := Lib.hid hs
  have H0 := Lib.hid (CpH.new w c a1 n1 a2 n2 d0 d1 d2)
  have HI := Lib.hid (fun (w2 : World) (hb : Below w.heap.size w w2) => show IsC w2 (.agg #[.string c.nm, .slice a1 c.ms.length n1, .slice a2 c.rs.length n2, .int .i64 c.wk]) c from ⟨_, _, rfl, hs, hM.keep hb, hR.keep hb⟩)
  clear hM hR hs
  obtain ⟨c0, c1, c2, c3, c4, e0, e1, e2, e3, _⟩ := H0.out
  go_enter Try.func46, Try.ntmps46
  go_wp2_with fail
  have H1 := Lib.hid (H0.out.keep (bA (bR ((w.alloc (.cells #[.string c.nm, .slice a1 c.ms.length n1, .slice a2 c.rs.length n2, .int .i64 c.wk] 33)).alloc (.cells #[.int .i64 d0, .int .i64 d1, .int .i64 d2] 35))) (.cells #[.int .i64 0, .bool false] 73)))
  have R0 := Lib.hid (BoxL.at_ (w := (w.alloc (.cells #[.string c.nm, .slice a1 c.ms.length n1, .slice a2 c.rs.length n2, .int .i64 c.wk] 33)).alloc (.cells #[.int .i64 d0, .int .i64 d1, .int .i64 d2] 35)) (b := w.heap.size + 1 + 1) (vs := [.int .i64 0, .bool false]) (T := 73) (by simp))
  clear c0 c1 c2 c3 c4 e0 e1 e2 e3 H0
  generalize ((w.alloc (.cells #[.string c.nm, .slice a1 c.ms.length n1, .slice a2 c.rs.length n2, .int .i64 c.wk] 33)).alloc (.cells #[.int .i64 d0, .int .i64 d1, .int .i64 d2] 35)).alloc (.cells #[.int .i64 0, .bool false] 73) = W1 at *
  have R1 := Lib.hid (R0.out.keep (bR W1).drew)
  refine wp_region_held_drew (S := CpH w w.heap.size (w.heap.size + 1) c a1 n1 a2 n2 d0 d1 d2) (by kernel_rfl) H1.out.drew (fun hHeld => ?_)
  clear H1 R0
  generalize W1.drew = Wd at *
  refine wpAnyH_take (i := 0) (oi := { dst := some 5, op := Op.fieldAddr 35 (Operand.tmp 3) 1, type := 0, pos := "l16_dates.go:146", after := #[], guard := none }) (v := ?_) rfl (by kernel_rfl) (by kernel_rfl) (by kernel_rfl) (fun _ _ _ h => h) (Or.inl ⟨by rfl, ?_⟩) (by assumption) ?_
  rotate_left 1
  · ((intro w hSw; obtain ⟨s0, s1, s2, s3, s4, s5, s6, s7, s8, s9⟩ := hSw; go_simp; try with_reducible rfl))
  (try simp only [Act.put, List.setIfInBounds_toArray, List.set_cons_zero, List.set_cons_succ])
  refine wpAnyH_take (i := 1) (oi := { dst := some 6, op := Op.load 2 (Operand.tmp 5), type := 2, pos := "l16_dates.go:146", after := #[{ on := 0, ground := Ground.data }], guard := none }) (v := ?_) rfl (by kernel_rfl) (by kernel_rfl) (by kernel_rfl) (fun _ _ _ h => h) (Or.inl ⟨by rfl, ?_⟩) (by assumption) ?_
  rotate_left 1
  · ((intro w hSw; obtain ⟨s0, s1, s2, s3, s4, s5, s6, s7, s8, s9⟩ := hSw; go_simp; try with_reducible rfl))
  (try simp only [Act.put, List.setIfInBounds_toArray, List.set_cons_zero, List.set_cons_succ])
  refine wpAnyH_take (i := 2) (oi := { dst := some 7, op := Op.load 33 (Operand.tmp 2), type := 33, pos := "l16_dates.go:146", after := #[], guard := none }) (v := ?_) rfl (by kernel_rfl) (by kernel_rfl) (by kernel_rfl) (fun _ _ _ h => h) (Or.inl ⟨by rfl, ?_⟩) (by assumption) ?_
  rotate_left 1
  · ((intro w hSw; obtain ⟨s0, s1, s2, s3, s4, s5, s6, s7, s8, s9⟩ := hSw; go_simp; try with_reducible rfl))
  (try simp only [Act.put, List.setIfInBounds_toArray, List.set_cons_zero, List.set_cons_succ])
  refine wpAnyH_take (i := 3) (oi := { dst := some 8, op := Op.fieldAddr 35 (Operand.tmp 3) 0, type := 0, pos := "l16_dates.go:146", after := #[], guard := none }) (v := ?_) rfl (by kernel_rfl) (by kernel_rfl) (by kernel_rfl) (fun _ _ _ h => h) (Or.inl ⟨by rfl, ?_⟩) (by assumption) ?_
  rotate_left 1
  · ((intro w hSw; obtain ⟨s0, s1, s2, s3, s4, s5, s6, s7, s8, s9⟩ := hSw; go_simp; try with_reducible rfl))
  (try simp only [Act.put, List.setIfInBounds_toArray, List.set_cons_zero, List.set_cons_succ])
  refine wpAnyH_take (i := 4) (oi := { dst := some 9, op := Op.load 2 (Operand.tmp 8), type := 2, pos := "l16_dates.go:146", after := #[{ on := 3, ground := Ground.data }], guard := none }) (v := ?_) rfl (by kernel_rfl) (by kernel_rfl) (by kernel_rfl) (fun _ _ _ h => h) (Or.inl ⟨by rfl, ?_⟩) (by assumption) ?_
  rotate_left 1
  · ((intro w hSw; obtain ⟨s0, s1, s2, s3, s4, s5, s6, s7, s8, s9⟩ := hSw; go_simp; try with_reducible rfl))
  (try simp only [Act.put, List.setIfInBounds_toArray, List.set_cons_zero, List.set_cons_succ])
  refine wpAnyH_ready (rs := [5]) (by kernel_rfl) (by simp) ?_
  refine AllReadyH.cons (o := { dst := some 10, op := Op.call { callee := Callee.value (Operand.func 69), args := #[Operand.tmp 7, Operand.tmp 9], argTypes := #[33, 2] }, type := 4, pos := "l16_dates.go:146", after := #[{ on := 2, ground := Ground.data }, { on := 4, ground := Ground.data }], guard := none }) rfl (fun K hK => ?_) AllReadyH.nil
  go_simp
  go_at_call 69
  refine (CL.out _ _ (HI.out _ hHeld.bel)).mono ?_
  rintro e w2 ⟨rfl, hb⟩
  have R2 := Lib.hid (R1.out.keep hb)
  refine hK.out _ _ (CpH.keep hb hHeld) (fun hHeld2 => ?_)
  clear hK K hHeld hb
  (try simp only [Act.put, List.setIfInBounds_toArray, List.set_cons_zero, List.set_cons_succ])
  refine wpAnyH_take (i := 6) (oi := { dst := some 11, op := Op.build 73 #[(0, Operand.tmp 6), (1, Operand.tmp 10)], type := 73, pos := "l16_dates.go:146", after := #[{ on := 1, ground := Ground.data }, { on := 5, ground := Ground.data }], guard := none }) (v := ?_) rfl (by kernel_rfl) (by kernel_rfl) (by kernel_rfl) (fun _ _ _ h => h) (Or.inl ⟨by rfl, ?_⟩) (by assumption) ?_
  rotate_left 1
  · ((intro w hSw; obtain ⟨s0, s1, s2, s3, s4, s5, s6, s7, s8, s9⟩ := hSw; go_simp; try with_reducible rfl))
  (try simp only [Act.put, List.setIfInBounds_toArray, List.set_cons_zero, List.set_cons_succ])
  obtain ⟨r0, r1, _⟩ := R2.out.c2
  obtain ⟨f0, f1⟩ := R2.out.f2
  have R3 := Lib.hid (BoxL.setQ (i := 1) (v := .bool q) (BoxL.setQ (i := 0) (v := .int .i64 d1) R2.out rfl) rfl)
  refine wpAnyH_ready (rs := [7]) (by kernel_rfl) (by simp) ?_
  refine AllReadyH.cons (o := { dst := none, op := Op.store 73 (Operand.tmp 4) (Operand.tmp 11), type := 0, pos := "l16_dates.go:146", after := #[{ on := 6, ground := Ground.data }, { on := 5, ground := Ground.chain }, { on := 0, ground := Ground.phase }, { on := 1, ground := Ground.phase }, { on := 2, ground := Ground.phase }, { on := 3, ground := Ground.phase }, { on := 4, ground := Ground.phase }, { on := 5, ground := Ground.phase }, { on := 6, ground := Ground.phase }], guard := none }) rfl (fun K hK => ?_) AllReadyH.nil
  go_simp
  refine hK.out _ _ (CpH.set (CpH.set hHeld2 _ _ (by simp; omega) (by simp; omega) (by simp)) _ _ (by simp; omega) (by simp; omega) (by simp)) (fun hHeld3 => ?_)
  clear hK K hHeld2 r0 r1 f0 f1 R1 R2
  (try simp only [Act.put, List.setIfInBounds_toArray, List.set_cons_zero, List.set_cons_succ])
  refine wpAnyH_done (by kernel_rfl) ?_ _
  have HB := hHeld3.bel
  obtain ⟨r0, r1, _⟩ := R3.out.c2
  obtain ⟨f0, f1⟩ := R3.out.f2
  go_wp2_with fail
  exact bodyPost_ret (v := .agg #[.int .i64 d1, .bool q]) (by simp [results, Try.results46, r0, r1, go_sem]) rfl ⟨rfl, HB⟩
set_option maxRecDepth 100000 in
set_option maxHeartbeats 8000000 in
theorem DayOfI_any (c : Cal) (d0 d1 d2 : Int) (x : Value) (w : World) (h : IsC w x c) (hb1 : -9223372036854775808 ≤ d1 ∧ d1 ≤ 9223372036854775807) :
    Calls Try.prog 18 #[x, .agg #[.int .i64 d0, .int .i64 d1, .int .i64 d2]] w (TwoR2 (doE c d0 d1 d2).1 (doE c d0 d1 d2).2 w) := by
  obtain ⟨u, v, rfl, hs, hM, hR⟩ := h
  obtain ⟨a1, n1, rfl, l1, _⟩ := hM.open
  obtain ⟨a2, n2, rfl, l2, _⟩ := hR.open
  have HSZ := Lib.hid hs
  have H0 := Lib.hid (CpH.new w c a1 n1 a2 n2 d0 d1 d2)
  have HI := Lib.hid (fun (w2 : World) (hb : Below w.heap.size w w2) => show IsC w2 (.agg #[.string c.nm, .slice a1 c.ms.length n1, .slice a2 c.rs.length n2, .int .i64 c.wk]) c from ⟨_, _, rfl, hs, hM.keep hb, hR.keep hb⟩)
  clear hM hR hs
  obtain ⟨c0, c1, c2, c3, c4, e0, e1, e2, e3, _⟩ := H0.out
  go_enter Try.func18, Try.ntmps18
  go_wp2_with fail
  generalize (w.alloc (.cells #[.string c.nm, .slice a1 c.ms.length n1, .slice a2 c.rs.length n2, .int .i64 c.wk] 33)).alloc (.cells #[.int .i64 d0, .int .i64 d1, .int .i64 d2] 35) = W0 at *
  refine (DaysInMonthI_any c d0 d1 _ _ (HI.out _ H0.out.bel) hb1).mono ?_
  rintro e w1 ⟨rfl, hb⟩
  have H1 := Lib.hid (H0.out.keep hb)
  clear c0 c1 c2 c3 c4 e0 e1 e2 e3 H0 hb
  obtain ⟨c0, c1, c2, c3, c4, e0, e1, e2, e3, _⟩ := H1.out
  generalize hA : (dmE c d0 d1).1 = A
  generalize hB : (dmE c d0 d1).2 = B
  cases h1 : okC c
  · have HN := Lib.hid (doE_1 (a0 := d0) (a1 := d1) (a2 := d2) h1)
    obtain rfl : B = 1 := by rw [← hB, dmE_1 h1]
    clear hA hB
    go_wp2_with fail
    go_ret2
    exact ⟨by rw [HN.out]; rfl, H1.out.bel⟩
  cases h2 : inB d0 0 9999
  · have HN := Lib.hid (doE_2 (a2 := d2) h1 (okD_1 (a1 := d1) h2))
    obtain rfl : B = 2 := by rw [← hB, dmE_2 h1 h2]
    clear hA hB
    go_wp2_with fail
    go_ret2
    exact ⟨by rw [HN.out]; rfl, H1.out.bel⟩
  cases h3 : inB d1 1 (c.ms.length : Int)
  · have HN := Lib.hid (doE_2 (a2 := d2) h1 (okD_2 (a0 := d0) h3))
    obtain rfl : B = 2 := by rw [← hB, dmE_3 h1 h3]
    clear hA hB
    go_wp2_with fail
    go_ret2
    exact ⟨by rw [HN.out]; rfl, H1.out.bel⟩
  obtain rfl : B = 0 := by rw [← hB, dmE_0 h1 h2 h3]
  obtain rfl : A = dyM (moAt c.ms (d1 - 1).toNat) (lpY c.rs d0) := by rw [← hA, dmE_0 h1 h2 h3]
  clear hA hB
  have HQ := okD_3 (a2 := d2) h2 h3
  have HL := Lib.hid (fun (h : inB d2 1 (dyM (moAt c.ms (d1 - 1).toNat) (lpY c.rs d0)) = true) => dyN_bd (a0 := d0) (a1 := d1) (a2 := d2) h1 (HQ.trans h))
  generalize dyM (moAt c.ms (d1 - 1).toNat) (lpY c.rs d0) = A at *
  go_wp2_with fail
  refine (isBetween_any _ _ _ _).mono ?_
  rintro e w9 ⟨rfl, rfl⟩
  cases h4 : inB d2 1 A
  · have HN := Lib.hid (doE_2 (a2 := d2) h1 (HQ.trans h4))
    go_wp2_with fail
    go_ret2
    exact ⟨by rw [HN.out]; rfl, H1.out.bel⟩
  have HN := Lib.hid (doE_0 (a2 := d2) h1 (HQ.trans h4))
  obtain ⟨g1, g2, g3, g4, _⟩ := HL.out h4
  have b2 := inB_true.1 h2
  have b3 := inB_true.1 h3
  obtain ⟨y, rfl⟩ := Int.eq_ofNat_of_zero_le b2.1
  obtain ⟨k, hk⟩ := Int.eq_ofNat_of_zero_le (show 0 ≤ d1 - 1 by omega)
  obtain rfl : d1 = (k : Int) + 1 := by omega
  have q1 : ((y : Int)).toNat = y := by omega
  have q2 : ((k : Int) + 1 - 1).toNat = k := by omega
  unfold dyN at HN
  rw [q1, q2] at HN
  rw [q1] at g1
  rw [q2] at g2
  clear HL HQ h2 h3 h4 hk q1 q2 g4
  have h20 := (okMo_parts (okC_parts h1).2.2.1).2.1
  have CB := Lib.hid (fun x W (h : IsC W x c) => daysBefore_any c y x W h h1 (by omega))
  have CM := Lib.hid (fun x W (h : IsC W x c) => monthStarts_any c x W h (okC_parts h1).2.2.1)
  have CK := Lib.hid (fun x W (h : IsC W x c) => kindOf_any c (y : Int) ((k : Int) + 1) d2 x W h h1 (by omega))
  have CX := Lib.hid (fun (W : World) (b : Nat) (q : Bool) (h : MpH W b c.ms c.ms.length 0) => mp_look (x := k) (q := q) h (by omega) (by unfold dnK; omega))
  generalize lpY c.rs (y : Int) = q at *
  generalize cyK c.ms c.rs y = A' at *
  have CX2 := Lib.hid (fun (W : World) (b : Nat) (h : MpH W b c.ms c.ms.length 0) => CX.out W b q h)
  clear CX
  generalize smD c.ms q k = B' at *
  go_wp2_with fail
  refine wp_region_held_drew (S := CpH w w.heap.size (w.heap.size + 1) c a1 n1 a2 n2 (y : Int) ((k : Int) + 1) d2) (by kernel_rfl) H1.out.drew (fun hHeld => ?_)
  clear c0 c1 c2 c3 c4 e0 e1 e2 e3 H1
  generalize w1.drew = Wd at *
  refine wpAnyH_take (i := 0) (oi := { dst := some 27, op := Op.load 33 (Operand.tmp 2), type := 33, pos := "l16_dates.go:39", after := #[], guard := none }) (v := ?_) rfl (by kernel_rfl) (by kernel_rfl) (by kernel_rfl) (fun _ _ _ h => h) (Or.inl ⟨by rfl, ?_⟩) (by assumption) ?_
  rotate_left 1
  · ((intro w hSw; obtain ⟨s0, s1, s2, s3, s4, s5, s6, s7, s8, s9⟩ := hSw; go_simp; try with_reducible rfl))
  (try simp only [Act.put, List.setIfInBounds_toArray, List.set_cons_zero, List.set_cons_succ])
  refine wpAnyH_take (i := 1) (oi := { dst := some 28, op := Op.fieldAddr 35 (Operand.tmp 3) 0, type := 0, pos := "l16_dates.go:39", after := #[], guard := none }) (v := ?_) rfl (by kernel_rfl) (by kernel_rfl) (by kernel_rfl) (fun _ _ _ h => h) (Or.inl ⟨by rfl, ?_⟩) (by assumption) ?_
  rotate_left 1
  · ((intro w hSw; obtain ⟨s0, s1, s2, s3, s4, s5, s6, s7, s8, s9⟩ := hSw; go_simp; try with_reducible rfl))
  (try simp only [Act.put, List.setIfInBounds_toArray, List.set_cons_zero, List.set_cons_succ])
  refine wpAnyH_take (i := 2) (oi := { dst := some 29, op := Op.load 2 (Operand.tmp 28), type := 2, pos := "l16_dates.go:39", after := #[{ on := 1, ground := Ground.data }], guard := none }) (v := ?_) rfl (by kernel_rfl) (by kernel_rfl) (by kernel_rfl) (fun _ _ _ h => h) (Or.inl ⟨by rfl, ?_⟩) (by assumption) ?_
  rotate_left 1
  · ((intro w hSw; obtain ⟨s0, s1, s2, s3, s4, s5, s6, s7, s8, s9⟩ := hSw; go_simp; try with_reducible rfl))
  (try simp only [Act.put, List.setIfInBounds_toArray, List.set_cons_zero, List.set_cons_succ])
  refine wpAnyH_take (i := 4) (oi := { dst := some 31, op := Op.load 33 (Operand.tmp 2), type := 33, pos := "l16_dates.go:39", after := #[], guard := none }) (v := ?_) rfl (by kernel_rfl) (by kernel_rfl) (by kernel_rfl) (fun _ _ _ h => h) (Or.inl ⟨by rfl, ?_⟩) (by assumption) ?_
  rotate_left 1
  · ((intro w hSw; obtain ⟨s0, s1, s2, s3, s4, s5, s6, s7, s8, s9⟩ := hSw; go_simp; try with_reducible rfl))
  (try simp only [Act.put, List.setIfInBounds_toArray, List.set_cons_zero, List.set_cons_succ])
  refine wpAnyH_take (i := 6) (oi := { dst := some 33, op := Op.load 33 (Operand.tmp 2), type := 33, pos := "l16_dates.go:39", after := #[], guard := none }) (v := ?_) rfl (by kernel_rfl) (by kernel_rfl) (by kernel_rfl) (fun _ _ _ h => h) (Or.inl ⟨by rfl, ?_⟩) (by assumption) ?_
  rotate_left 1
  · ((intro w hSw; obtain ⟨s0, s1, s2, s3, s4, s5, s6, s7, s8, s9⟩ := hSw; go_simp; try with_reducible rfl))
  (try simp only [Act.put, List.setIfInBounds_toArray, List.set_cons_zero, List.set_cons_succ])
  refine wpAnyH_take (i := 7) (oi := { dst := some 34, op := Op.load 35 (Operand.tmp 3), type := 35, pos := "l16_dates.go:39", after := #[], guard := none }) (v := ?_) rfl (by kernel_rfl) (by kernel_rfl) (by kernel_rfl) (fun _ _ _ h => h) (Or.inl ⟨by rfl, ?_⟩) (by assumption) ?_
  rotate_left 1
  · ((intro w hSw; obtain ⟨s0, s1, s2, s3, s4, s5, s6, s7, s8, s9⟩ := hSw; go_simp; try with_reducible rfl))
  (try simp only [Act.put, List.setIfInBounds_toArray, List.set_cons_zero, List.set_cons_succ])
  refine wpAnyH_take (i := 11) (oi := { dst := some 38, op := Op.fieldAddr 35 (Operand.tmp 3) 2, type := 0, pos := "l16_dates.go:39", after := #[], guard := none }) (v := ?_) rfl (by kernel_rfl) (by kernel_rfl) (by kernel_rfl) (fun _ _ _ h => h) (Or.inl ⟨by rfl, ?_⟩) (by assumption) ?_
  rotate_left 1
  · ((intro w hSw; obtain ⟨s0, s1, s2, s3, s4, s5, s6, s7, s8, s9⟩ := hSw; go_simp; try with_reducible rfl))
  (try simp only [Act.put, List.setIfInBounds_toArray, List.set_cons_zero, List.set_cons_succ])
  refine wpAnyH_take (i := 12) (oi := { dst := some 39, op := Op.load 2 (Operand.tmp 38), type := 2, pos := "l16_dates.go:39", after := #[{ on := 11, ground := Ground.data }], guard := none }) (v := ?_) rfl (by kernel_rfl) (by kernel_rfl) (by kernel_rfl) (fun _ _ _ h => h) (Or.inl ⟨by rfl, ?_⟩) (by assumption) ?_
  rotate_left 1
  · ((intro w hSw; obtain ⟨s0, s1, s2, s3, s4, s5, s6, s7, s8, s9⟩ := hSw; go_simp; try with_reducible rfl))
  (try simp only [Act.put, List.setIfInBounds_toArray, List.set_cons_zero, List.set_cons_succ])
  refine wpAnyH_ready (rs := [3]) (by kernel_rfl) (by simp) ?_
  refine AllReadyH.cons (o := { dst := some 30, op := Op.call { callee := Callee.value (Operand.func 44), args := #[Operand.tmp 27, Operand.tmp 29], argTypes := #[33, 2] }, type := 2, pos := "l16_dates.go:39", after := #[{ on := 0, ground := Ground.data }, { on := 2, ground := Ground.data }], guard := none }) rfl (fun K hK => ?_) AllReadyH.nil
  go_simp
  go_at_call 44
  refine (CB.out _ _ (HI.out _ hHeld.bel)).mono ?_
  rintro e w2 ⟨rfl, hb⟩
  refine hK.out _ _ (CpH.keep hb hHeld) (fun hHeld2 => ?_)
  clear hK K hHeld hb
  (try simp only [Act.put, List.setIfInBounds_toArray, List.set_cons_zero, List.set_cons_succ])
  refine wpAnyH_ready (rs := [5]) (by kernel_rfl) (by simp) ?_
  refine AllReadyH.cons (o := { dst := some 32, op := Op.call { callee := Callee.value (Operand.func 45), args := #[Operand.tmp 31], argTypes := #[33] }, type := 70, pos := "l16_dates.go:39", after := #[{ on := 4, ground := Ground.data }, { on := 3, ground := Ground.chain }], guard := none }) rfl (fun K hK => ?_) AllReadyH.nil
  go_simp
  go_at_call 45
  refine (CM.out _ _ (HI.out _ hHeld2.bel)).mono ?_
  rintro e w3 ⟨b, rfl, _, hmp, hb⟩
  have K3 := Lib.hid hmp
  clear hmp
  refine hK.out _ _ (CpH.keep hb hHeld2) (fun hHeld3 => ?_)
  clear hK K hHeld2 hb
  (try simp only [Act.put, List.setIfInBounds_toArray, List.set_cons_zero, List.set_cons_succ])
  refine wpAnyH_ready (rs := [8]) (by kernel_rfl) (by simp) ?_
  refine AllReadyH.cons (o := { dst := some 35, op := Op.call { callee := Callee.value (Operand.func 46), args := #[Operand.tmp 33, Operand.tmp 34], argTypes := #[33, 35] }, type := 73, pos := "l16_dates.go:39", after := #[{ on := 6, ground := Ground.data }, { on := 7, ground := Ground.data }, { on := 5, ground := Ground.chain }], guard := none }) rfl (fun K hK => ?_) AllReadyH.nil
  go_simp
  go_at_call 46
  refine (CK.out _ _ (HI.out _ hHeld3.bel)).mono ?_
  rintro e w4 ⟨rfl, hb⟩
  have K4 := Lib.hid (K3.out.keep hb)
  refine hK.out _ _ (CpH.keep hb hHeld3) (fun hHeld4 => ?_)
  clear hK K hHeld3 hb
  (try simp only [Act.put, List.setIfInBounds_toArray, List.set_cons_zero, List.set_cons_succ])
  refine wpAnyH_ready (rs := [9]) (by kernel_rfl) (by simp) ?_
  refine AllReadyH.cons (o := { dst := some 36, op := Op.lookup 70 (Operand.tmp 32) (Operand.tmp 35) false, type := 2, pos := "l16_dates.go:39", after := #[{ on := 5, ground := Ground.data }, { on := 8, ground := Ground.data }], guard := none }) rfl (fun K hK => ?_) AllReadyH.nil
  go_simp
  have hmx := CX2.out _ _ K4.out
  unfold kiV at hmx
  go_simp
  refine hK.out _ _ hHeld4 (fun hHeld5 => ?_)
  clear hK K hHeld4 hmx
  (try simp only [Act.put, List.setIfInBounds_toArray, List.set_cons_zero, List.set_cons_succ])
  refine wpAnyH_take (i := 10) (oi := { dst := some 37, op := Op.binOp BinOp.add 2 (Operand.tmp 30) (Operand.tmp 36) 2, type := 2, pos := "l16_dates.go:39", after := #[{ on := 3, ground := Ground.data }, { on := 9, ground := Ground.data }], guard := none }) (v := ?_) rfl (by kernel_rfl) (by kernel_rfl) (by kernel_rfl) (fun _ _ _ h => h) (Or.inl ⟨by rfl, ?_⟩) (by assumption) ?_
  rotate_left 1
  · ((intro w hSw; obtain ⟨s0, s1, s2, s3, s4, s5, s6, s7, s8, s9⟩ := hSw; go_simp; try with_reducible rfl))
  (try simp only [Act.put, List.setIfInBounds_toArray, List.set_cons_zero, List.set_cons_succ])
  refine wpAnyH_take (i := 13) (oi := { dst := some 40, op := Op.binOp BinOp.add 2 (Operand.tmp 37) (Operand.tmp 39) 2, type := 2, pos := "l16_dates.go:39", after := #[{ on := 10, ground := Ground.data }, { on := 12, ground := Ground.data }], guard := none }) (v := ?_) rfl (by kernel_rfl) (by kernel_rfl) (by kernel_rfl) (fun _ _ _ h => h) (Or.inl ⟨by rfl, ?_⟩) (by assumption) ?_
  rotate_left 1
  · ((intro w hSw; obtain ⟨s0, s1, s2, s3, s4, s5, s6, s7, s8, s9⟩ := hSw; go_simp; try with_reducible rfl))
  (try simp only [Act.put, List.setIfInBounds_toArray, List.set_cons_zero, List.set_cons_succ])
  refine wpAnyH_take (i := 14) (oi := { dst := some 41, op := Op.binOp BinOp.sub 2 (Operand.tmp 40) (Operand.const (Value.int IntKind.i64 1)) 2, type := 2, pos := "l16_dates.go:39", after := #[{ on := 13, ground := Ground.data }], guard := none }) (v := ?_) rfl (by kernel_rfl) (by kernel_rfl) (by kernel_rfl) (fun _ _ _ h => h) (Or.inl ⟨by rfl, ?_⟩) (by assumption) ?_
  rotate_left 1
  · ((intro w hSw; obtain ⟨s0, s1, s2, s3, s4, s5, s6, s7, s8, s9⟩ := hSw; go_simp; try with_reducible rfl))
  (try simp only [Act.put, List.setIfInBounds_toArray, List.set_cons_zero, List.set_cons_succ])
  refine wpAnyH_take (i := 15) (oi := { dst := some 4, op := Op.assign (Operand.tmp 41), type := 2, pos := "l16_dates.go:39", after := #[{ on := 14, ground := Ground.data }, { on := 8, ground := Ground.chain }, { on := 0, ground := Ground.phase }, { on := 1, ground := Ground.phase }, { on := 2, ground := Ground.phase }, { on := 3, ground := Ground.phase }, { on := 4, ground := Ground.phase }, { on := 5, ground := Ground.phase }, { on := 6, ground := Ground.phase }, { on := 7, ground := Ground.phase }, { on := 8, ground := Ground.phase }, { on := 9, ground := Ground.phase }, { on := 10, ground := Ground.phase }, { on := 11, ground := Ground.phase }, { on := 12, ground := Ground.phase }, { on := 13, ground := Ground.phase }, { on := 14, ground := Ground.phase }], guard := none }) (v := ?_) rfl (by kernel_rfl) (by kernel_rfl) (by kernel_rfl) (fun _ _ _ h => h) (Or.inl ⟨by rfl, ?_⟩) (by assumption) ?_
  rotate_left 1
  · ((intro w hSw; obtain ⟨s0, s1, s2, s3, s4, s5, s6, s7, s8, s9⟩ := hSw; go_simp; try with_reducible rfl))
  (try simp only [Act.put, List.setIfInBounds_toArray, List.set_cons_zero, List.set_cons_succ])
  refine wpAnyH_take (i := 16) (oi := { dst := some 5, op := Op.assign (Operand.const (Value.int IntKind.i64 0)), type := 2, pos := "l16_dates.go:39", after := #[{ on := 15, ground := Ground.chain }, { on := 0, ground := Ground.phase }, { on := 1, ground := Ground.phase }, { on := 2, ground := Ground.phase }, { on := 3, ground := Ground.phase }, { on := 4, ground := Ground.phase }, { on := 5, ground := Ground.phase }, { on := 6, ground := Ground.phase }, { on := 7, ground := Ground.phase }, { on := 8, ground := Ground.phase }, { on := 9, ground := Ground.phase }, { on := 10, ground := Ground.phase }, { on := 11, ground := Ground.phase }, { on := 12, ground := Ground.phase }, { on := 13, ground := Ground.phase }, { on := 14, ground := Ground.phase }, { on := 15, ground := Ground.phase }], guard := none }) (v := ?_) rfl (by kernel_rfl) (by kernel_rfl) (by kernel_rfl) (fun _ _ _ h => h) (Or.inl ⟨by rfl, ?_⟩) (by assumption) ?_
  rotate_left 1
  · ((intro w hSw; obtain ⟨s0, s1, s2, s3, s4, s5, s6, s7, s8, s9⟩ := hSw; go_simp; try with_reducible rfl))
  (try simp only [Act.put, List.setIfInBounds_toArray, List.set_cons_zero, List.set_cons_succ])
  refine wpAnyH_done (by kernel_rfl) ?_ _
  have HB := Lib.hid hHeld5.bel
  have hw : IntKind.i64.wrap (IntKind.i64.wrap (IntKind.i64.wrap (A' + B') + d2) - 1) = A' + B' + d2 - 1 := by rw [IntWalk.i64_in (A' + B') (by omega), IntWalk.i64_in (A' + B' + d2) (by omega), IntWalk.i64_in (A' + B' + d2 - 1) (by omega)]
  go_wp2_with fail
  go_ret2
  exact ⟨by rw [HN.out]; show Ending.returned (.tuple #[.int .i64 _, .int .i64 0]) = _; rw [hw], HB.out⟩
end Go.Proofs.Ytbkhejideffflaa

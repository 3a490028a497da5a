/-
  The contract of impl.Calendar.monthStarts: a map from months to the days before them.
-/
import Derived.Test.YtbkhejideffflaaMpK
namespace Go.Proofs.Ytbkhejideffflaa
open Go.RowKit

def BelV (v : Value) (w : World) (e : Ending) (w' : World) : Prop := e = .returned v ∧ Below w.heap.size w w'
theorem next_any2 (m : Int) (q : Bool) (w : World) (h1 : -1000000 ≤ m) (h2 : m ≤ 1000000) :
    Calls Try.prog 74 #[.agg #[.int .i64 m, .bool q]] w (BelV (.agg #[.int .i64 (m + 1), .bool q]) w) := by
  go_enter Try.func74, Try.ntmps74
  go_wp2_with fail
  exact bodyPost_ret (v := .agg #[.int .i64 (m + 1), .bool q]) (by simp [results, Try.results74, go_sem]) rfl ⟨rfl, bA (bA (bR _) _) _⟩
/-- What stands in the loops. -/
def MsH (w : World) (c : Cal) (a1 : Option Addr) (n1 : Nat) (v : Value) (i j : Nat) (W : World) : Prop :=
  BoxL W w.heap.size [.string c.nm, .slice a1 c.ms.length n1, v, .int .i64 c.wk] ∧ MpH W (w.heap.size + 1) c.ms i j ∧ Below w.heap.size w W
theorem MsH.keep {w : World} {c : Cal} {a1 : Option Addr} {n1 : Nat} {v : Value} {i j : Nat} {W W' : World} (h : MsH w c a1 n1 v i j W) (hb : Below W.heap.size W W') : MsH w c a1 n1 v i j W' := ⟨h.1.keep hb, h.2.1.keep hb, bT h.2.2 hb⟩
/-- A block stands while another one turns. -/
theorem BoxL.grMp {W W' : World} {b m : Nat} {vs : List Value} (h : BoxL W b vs) (hg : W.grownBy W' (some m)) (hn : b ≠ m) : BoxL W' b vs := by
  have e := hg.block b h.lt (fun e => hn (Option.some.inj e))
  exact ⟨fun i u x => (World.cell?_of_block e).trans (h.c i u x), fun i u x => (World.frozen?_of_block e).trans (h.f i u x), Nat.lt_of_lt_of_le h.lt hg.size⟩
/-- What stands in the inmost round. -/
def MqS (w : World) (kb pb : Nat) (m0 : ByteArray) (m1 m2 z : Int) (q : Bool) (c : Cal) (a1 : Option Addr) (n1 : Nat) (v : Value) (i : Nat) (w' : World) : Prop :=
  w'.cell? ⟨kb, 0, none⟩ = some (.int .i64 z) ∧ w'.cell? ⟨kb, 1, none⟩ = some (.bool q) ∧ w'.cell? ⟨pb, 0, none⟩ = some (.string m0) ∧ w'.cell? ⟨pb, 1, none⟩ = some (.int .i64 m1) ∧ w'.cell? ⟨pb, 2, none⟩ = some (.int .i64 m2) ∧ kb < w'.heap.size ∧ pb < w'.heap.size ∧
  (BoxL w' w.heap.size [.string c.nm, .slice a1 c.ms.length n1, v, .int .i64 c.wk] ∧ (∃ i0 j0, MpH w' (w.heap.size + 1) c.ms i0 j0 ∧ i0 ≤ 1000 ∧ (i = 0 ∨ dnK i0 j0 i q)) ∧ Below w.heap.size w w')
theorem MqS.keep {w : World} {kb pb : Nat} {m0 : ByteArray} {m1 m2 z : Int} {q : Bool} {c : Cal} {a1 : Option Addr} {n1 : Nat} {v : Value} {i : Nat} {w' w2 : World} (hb : Below w'.heap.size w' w2) (h : MqS w kb pb m0 m1 m2 z q c a1 n1 v i w') : MqS w kb pb m0 m1 m2 z q c a1 n1 v i w2 := by
  obtain ⟨c0, c1, d0, d1, d2, e1, e2, e3, ⟨i0, j0, f1, f2, f3⟩, f4⟩ := h
  exact ⟨(hb.cell (p := ⟨kb, 0, none⟩) e1).trans c0, (hb.cell (p := ⟨kb, 1, none⟩) e1).trans c1, (hb.cell (p := ⟨pb, 0, none⟩) e2).trans d0, (hb.cell (p := ⟨pb, 1, none⟩) e2).trans d1, (hb.cell (p := ⟨pb, 2, none⟩) e2).trans d2, Nat.lt_of_lt_of_le e1 hb.size, Nat.lt_of_lt_of_le e2 hb.size, e3.keep hb, ⟨i0, j0, f1.keep hb, f2, f3⟩, bT f4 hb⟩
theorem MqS.drew {w : World} {kb pb : Nat} {m0 : ByteArray} {m1 m2 z : Int} {q : Bool} {c : Cal} {a1 : Option Addr} {n1 : Nat} {v : Value} {i : Nat} {w' : World} (h : MqS w kb pb m0 m1 m2 z q c a1 n1 v i w') : MqS w kb pb m0 m1 m2 z q c a1 n1 v i w'.drew := h.keep (bR _).drew
theorem MqS.of {w : World} {kb pb : Nat} {m0 : ByteArray} {m1 m2 z : Int} {q : Bool} {c : Cal} {a1 : Option Addr} {n1 : Nat} {v : Value} {i i0 j0 : Nat} {w' : World} (h1 : BoxL w' kb [.int .i64 z, .bool q]) (h2 : BoxL w' pb [.string m0, .int .i64 m1, .int .i64 m2]) (h3 : MsH w c a1 n1 v i0 j0 w') (hi : i0 ≤ 1000) (hx : i = 0 ∨ dnK i0 j0 i q) : MqS w kb pb m0 m1 m2 z q c a1 n1 v i w' := by
  obtain ⟨d0, d1, d2, d3⟩ := h2.c3
  exact ⟨h1.c 0 _ rfl, h1.c 1 _ rfl, d0, d1, d2, h1.lt, d3, h3.1, ⟨i0, j0, h3.2.1, hi, hx⟩, h3.2.2⟩
def MapRet (w : World) (ms : List Mo) (e : Ending) (w' : World) : Prop := ∃ b, e = .returned (.map (some b)) ∧ w.heap.size ≤ b ∧ MpH w' b ms ms.length 0 ∧ Below w.heap.size w w'
set_option maxRecDepth 100000 in
set_option maxHeartbeats 8000000 in
theorem monthStarts_any (c : Cal) (x : Value) (w : World) (h : IsC w x c) (ho : okMo c.ms = true) :
    Calls Try.prog 45 #[x] w (MapRet w c.ms) := by
  obtain ⟨u, v, rfl, hs, hM, hR⟩ := h
  obtain ⟨a1, n1, rfl, _, hc⟩ := hM.open
  obtain ⟨a2, n2, rfl, _⟩ := hR.open
  have HC := Lib.hid hc
  have h20 := (okMo_parts ho).2.1
  have HO := Lib.hid ho
  have hmm := @run_makeMap Try.prog
  have hx0 : ∀ W, (Instr.index 106 (.agg #[.bool false, .bool true]) (.int .i64 0)).run Try.prog W = .ok (.bool false) W := fun W => by kernel_rfl
  have hx1 : ∀ W, (Instr.index 106 (.agg #[.bool false, .bool true]) (.int .i64 1)).run Try.prog W = .ok (.bool true) W := fun W => by kernel_rfl
  clear hM hR hs hc ho
  have H0 := Lib.hid (show MsH w c a1 n1 (.slice a2 c.rs.length n2) 0 0 ((w.alloc (.cells #[.string c.nm, .slice a1 c.ms.length n1, .slice a2 c.rs.length n2, .int .i64 c.wk] 33)).alloc (.map #[] 0)) from
    ⟨(BoxL.new w [.string c.nm, .slice a1 c.ms.length n1, .slice a2 c.rs.length n2, .int .i64 c.wk] 33).alloc _, ⟨#[], 0, by have := (MapKept.heap_alloc (w.alloc (.cells #[.string c.nm, .slice a1 c.ms.length n1, .slice a2 c.rs.length n2, .int .i64 c.wk] 33)) (.map #[] 0)).1; simpa using this, by simp, fun e he => absurd he (by simp), fun m q hd => absurd hd (by unfold dnK; omega)⟩, bA (bA (bR _) _) _⟩)
  obtain ⟨c0, c1, c2, c3, c4⟩ := H0.out.1.c4q
  go_enter Try.func45, Try.ntmps45
  go_wp2_with fail
  generalize (w.alloc (.cells #[.string c.nm, .slice a1 c.ms.length n1, .slice a2 c.rs.length n2, .int .i64 c.wk] 33)).alloc (.map #[] 0) = W0 at *
  clear c0 c1 c2 c3 c4 hmm
  go_loopw [13] (fun i wr => ∃ (k : Nat), k ≤ c.ms.length ∧ i = .int .i64 k ∧ MsH w c a1 n1 (.slice a2 c.rs.length n2) k 0 wr) (fun i _ => c.ms.length - (intOf i).toNat)
  case atStart => exact ⟨0, by omega, rfl, H0.out⟩
  case round =>
    obtain ⟨k, hk, rfl, hH⟩ := hrel
    have H1 := Lib.hid hH
    clear hH H0
    by_cases hlt : k < c.ms.length
    · obtain ⟨g, o, rfl, hg, hx⟩ := HC.out (by omega)
      obtain ⟨d0, d1, d2, _⟩ := (hx.keep hg H1.out.2.2) k hlt
      have CT := Lib.hid (fun W => leapDays_any (moAt c.ms k) W)
      have CF := Lib.hid (fun W => commonDays_any (moAt c.ms k) W)
      have HS := Lib.hid (fun b => smD_succ c.ms b k)
      have HB := Lib.hid (fun b => smD_bd HO.out b (k := k) (by omega))
      have HD := Lib.hid (fun b => dyM_bd HO.out (k := k) hlt b)
      unfold moV at CT CF
      clear hx hg HC
      generalize moAt c.ms k = mo at *
      generalize mo.nm = m0 at *
      generalize mo.d = m1 at *
      generalize mo.l = m2 at *
      go_wp2_with fail
      have HPB := Lib.hid (show wr.heap.size ≠ w.heap.size + 1 by have := H1.out.2.1.lt; omega)
      have Q0 := Lib.hid (BoxL.new wr [.string m0, .int .i64 m1, .int .i64 m2] 93)
      have H2 := Lib.hid (H1.out.keep (bA (bR wr) (.cells #[.string m0, .int .i64 m1, .int .i64 m2] 93)))
      clear H1 d0 d1 d2
      generalize wr.alloc (.cells #[.string m0, .int .i64 m1, .int .i64 m2] 93) = W1 at *
      generalize wr.heap.size = pb at *
      go_loopw [19] (fun i wr => ∃ (z : Int), (z = 0 ∨ z = 1 ∨ z = 2) ∧ i = .int .i64 z ∧ BoxL wr pb [.string m0, .int .i64 m1, .int .i64 m2] ∧ ∃ i' j', ((z = 0 ∧ i' = k ∧ j' = 0) ∨ (z = 1 ∧ i' = k ∧ j' = 1) ∨ (z = 2 ∧ i' = k + 1 ∧ j' = 0)) ∧ MsH w c (some ⟨g, o, none⟩) n1 (.slice a2 c.rs.length n2) i' j' wr) (fun i _ => 2 - (intOf i).toNat)
      case atStart => exact ⟨0, by simp, rfl, Q0.out, k, 0, by simp, H2.out⟩
      case round =>
        obtain ⟨z, hz, rfl, hq, i', j', hij, hH⟩ := hrel
        have H3 := Lib.hid hH
        have Q3 := Lib.hid hq
        clear hH hq H2 Q0
        rcases hz with rfl | rfl | rfl
        · obtain ⟨rfl, rfl⟩ : i' = k ∧ j' = 0 := by omega
          clear hij
          go_wp2_with fail
          have CE := Lib.hid CF.out
          have b1 := HB.out false
          have b2 := HD.out false
          have HSQ := Lib.hid (HS.out false)
          have v0 : IntKind.i64.wrap (smD c.ms false i' + dyM mo false) = smD c.ms false i' + dyM mo false := IntWalk.i64_in _ (by omega)
          have v1 : IntKind.i64.wrap ((i' : Int) + 1) = (i' : Int) + 1 := IntWalk.i64_in _ (by omega)
          have PL := Lib.hid (show pb ≠ w.heap.size + 1 ∧ True from ⟨HPB.out, trivial⟩)
          have KL := Lib.hid (show wr.heap.size ≠ w.heap.size + 1 by have := H3.out.2.1.lt; omega)
          have E4 := Lib.hid (H3.out.keep (bA (bR wr) (.cells #[.int .i64 ((i' : Int) + 1), .bool false] 73)))
          have P4 := Lib.hid (Q3.out.alloc (.cells #[.int .i64 ((i' : Int) + 1), .bool false] 73))
          have K4 := Lib.hid (BoxL.new wr [.int .i64 ((i' : Int) + 1), .bool false] 73)
          clear HB HD CT CF HO H3 Q3
          generalize wr.alloc (.cells #[.int .i64 ((i' : Int) + 1), .bool false] 73) = WK at *
          generalize wr.heap.size = kb at *
          have HS0 : MqS w kb pb m0 m1 m2 ((i' : Int) + 1) false c (some ⟨g, o, none⟩) n1 (.slice a2 c.rs.length n2) i' WK := MqS.of K4.out P4.out E4.out (by omega) (by unfold dnK; omega)
          have E0 := Lib.hid (E4.out.keep (bR WK).drew)
          have P0 := Lib.hid (P4.out.keep (bR WK).drew)
          have K0 := Lib.hid (K4.out.keep (bR WK).drew)
          clear E4 P4 K4
          refine wp_region_held_drew (S := MqS w kb pb m0 m1 m2 ((i' : Int) + 1) false c (some ⟨g, o, none⟩) n1 (.slice a2 c.rs.length n2) i') (by kernel_rfl) HS0.drew (fun hHeld => ?_)
          clear HS0
          generalize WK.drew = Wd at *
          refine wpAnyH_take (i := 0) (oi := { dst := some 26, op := Op.move (Operand.tmp 3), type := 70, pos := "l16_dates.go:155", after := #[], guard := none }) (v := ?_) rfl (by kernel_rfl) (by kernel_rfl) (by kernel_rfl) (fun _ _ _ h => h) (Or.inl ⟨by rfl, ?_⟩) (by assumption) ?_
          rotate_left 1
          · ((intro w hSw; obtain ⟨s1, s2, s3, s4, s5, s6, s7, s8⟩ := hSw; go_simp; try with_reducible rfl))
          (try simp only [Act.put, List.setIfInBounds_toArray, List.set_cons_zero, List.set_cons_succ])
          refine wpAnyH_take (i := 1) (oi := { dst := some 27, op := Op.load 73 (Operand.tmp 8), type := 73, pos := "l16_dates.go:155", after := #[], guard := none }) (v := ?_) rfl (by kernel_rfl) (by kernel_rfl) (by kernel_rfl) (fun _ _ _ h => h) (Or.inl ⟨by rfl, ?_⟩) (by assumption) ?_
          rotate_left 1
          · ((intro w hSw; obtain ⟨s1, s2, s3, s4, s5, s6, s7, s8⟩ := hSw; go_simp; try with_reducible rfl))
          (try simp only [Act.put, List.setIfInBounds_toArray, List.set_cons_zero, List.set_cons_succ])
          refine wpAnyH_take (i := 3) (oi := { dst := some 29, op := Op.move (Operand.tmp 3), type := 70, pos := "l16_dates.go:155", after := #[], guard := none }) (v := ?_) rfl (by kernel_rfl) (by kernel_rfl) (by kernel_rfl) (fun _ _ _ h => h) (Or.inl ⟨by rfl, ?_⟩) (by assumption) ?_
          rotate_left 1
          · ((intro w hSw; obtain ⟨s1, s2, s3, s4, s5, s6, s7, s8⟩ := hSw; go_simp; try with_reducible rfl))
          (try simp only [Act.put, List.setIfInBounds_toArray, List.set_cons_zero, List.set_cons_succ])
          refine wpAnyH_take (i := 4) (oi := { dst := some 30, op := Op.load 73 (Operand.tmp 8), type := 73, pos := "l16_dates.go:155", after := #[], guard := none }) (v := ?_) rfl (by kernel_rfl) (by kernel_rfl) (by kernel_rfl) (fun _ _ _ h => h) (Or.inl ⟨by rfl, ?_⟩) (by assumption) ?_
          rotate_left 1
          · ((intro w hSw; obtain ⟨s1, s2, s3, s4, s5, s6, s7, s8⟩ := hSw; go_simp; try with_reducible rfl))
          (try simp only [Act.put, List.setIfInBounds_toArray, List.set_cons_zero, List.set_cons_succ])
          refine wpAnyH_take (i := 5) (oi := { dst := some 31, op := Op.lookup 70 (Operand.tmp 29) (Operand.tmp 30) false, type := 2, pos := "l16_dates.go:155", after := #[{ on := 3, ground := Ground.data }, { on := 4, ground := Ground.data }], guard := none }) (v := ?_) rfl (by kernel_rfl) (by kernel_rfl) (by kernel_rfl) (fun _ _ _ h => h) (Or.inl ⟨by rfl, ?_⟩) (by assumption) ?_
          rotate_left 1
          · (intro w hSw; obtain ⟨s1, s2, s3, s4, s5, s6, s7, s8⟩ := hSw; obtain ⟨_, ⟨i0, j0, hmp, hi0, hx⟩, _⟩ := s8; have hl := mp_look hmp hi0 hx; unfold kiV at hl; go_simp; try with_reducible rfl)
          (try simp only [Act.put, List.setIfInBounds_toArray, List.set_cons_zero, List.set_cons_succ])
          refine wpAnyH_take (i := 6) (oi := { dst := some 32, op := Op.move (Operand.tmp 7), type := 4, pos := "l16_dates.go:155", after := #[], guard := none }) (v := ?_) rfl (by kernel_rfl) (by kernel_rfl) (by kernel_rfl) (fun _ _ _ h => h) (Or.inl ⟨by rfl, ?_⟩) (by assumption) ?_
          rotate_left 1
          · ((intro w hSw; obtain ⟨s1, s2, s3, s4, s5, s6, s7, s8⟩ := hSw; go_simp; try with_reducible rfl))
          (try simp only [Act.put, List.setIfInBounds_toArray, List.set_cons_zero, List.set_cons_succ])
          refine wpAnyH_take (i := 8) (oi := { dst := some 34, op := Op.load 93 (Operand.tmp 5), type := 93, pos := "l16_dates.go:155", after := #[], guard := none }) (v := ?_) rfl (by kernel_rfl) (by kernel_rfl) (by kernel_rfl) (fun _ _ _ h => h) (Or.inl ⟨by rfl, ?_⟩) (by assumption) ?_
          rotate_left 1
          · ((intro w hSw; obtain ⟨s1, s2, s3, s4, s5, s6, s7, s8⟩ := hSw; go_simp; try with_reducible rfl))
          (try simp only [Act.put, List.setIfInBounds_toArray, List.set_cons_zero, List.set_cons_succ])
          refine wpAnyH_ready (rs := [2]) (by kernel_rfl) (by simp) ?_
          refine AllReadyH.cons (o := { dst := some 28, op := Op.call { callee := Callee.value (Operand.func 74), args := #[Operand.tmp 27], argTypes := #[73] }, type := 73, pos := "l16_dates.go:155", after := #[{ on := 1, ground := Ground.data }], guard := none }) rfl (fun K hK => ?_) AllReadyH.nil
          go_simp
          go_at_call 74
          refine (next_any2 _ _ _ (by omega) (by omega)).mono ?_
          rintro e w1 ⟨rfl, hb⟩
          have E1 := Lib.hid (E0.out.keep hb)
          have P1 := Lib.hid (P0.out.keep hb)
          have K1 := Lib.hid (K0.out.keep hb)
          refine hK.out _ _ (MqS.keep hb hHeld) (fun hHeld2 => ?_)
          clear hK K hHeld hb
          (try simp only [Act.put, List.setIfInBounds_toArray, List.set_cons_zero, List.set_cons_succ])
          refine wpAnyH_ready (rs := [7]) (by kernel_rfl) (by simp) ?_
          refine AllReadyH.cons (o := { dst := some 33, op := Op.call { callee := Callee.value (Operand.func 68), args := #[Operand.tmp 32], argTypes := #[4] }, type := 102, pos := "l16_dates.go:155", after := #[{ on := 6, ground := Ground.data }, { on := 2, ground := Ground.chain }], guard := none }) rfl (fun K hK => ?_) AllReadyH.nil
          go_simp
          go_at_call 68
          refine (daysWhereF_any _).mono ?_
          rintro e w2 ⟨rfl, rfl⟩
          refine hK.out _ _ hHeld2 (fun hHeld3 => ?_)
          clear hK K hHeld2
          (try simp only [Act.put, List.setIfInBounds_toArray, List.set_cons_zero, List.set_cons_succ])
          refine wpAnyH_ready (rs := [9]) (by kernel_rfl) (by simp) ?_
          refine AllReadyH.cons (o := { dst := some 35, op := Op.call { callee := Callee.value (Operand.tmp 33), args := #[Operand.tmp 34], argTypes := #[93] }, type := 2, pos := "l16_dates.go:155", after := #[{ on := 7, ground := Ground.data }, { on := 8, ground := Ground.data }, { on := 7, ground := Ground.chain }], guard := none }) rfl (fun K hK => ?_) AllReadyH.nil
          go_simp
          go_at_call 73
          refine (CE.out _).mono ?_
          rintro e w3 ⟨rfl, hb⟩
          have E2 := Lib.hid (E1.out.keep hb)
          have P2 := Lib.hid (P1.out.keep hb)
          have K2 := Lib.hid (K1.out.keep hb)
          refine hK.out _ _ (MqS.keep hb hHeld3) (fun hHeld4 => ?_)
          clear hK K hHeld3 hb
          (try simp only [Act.put, List.setIfInBounds_toArray, List.set_cons_zero, List.set_cons_succ])
          refine wpAnyH_take (i := 10) (oi := { dst := some 36, op := Op.binOp BinOp.add 2 (Operand.tmp 31) (Operand.tmp 35) 2, type := 2, pos := "l16_dates.go:155", after := #[{ on := 5, ground := Ground.data }, { on := 9, ground := Ground.data }], guard := none }) (v := ?_) rfl (by kernel_rfl) (by kernel_rfl) (by kernel_rfl) (fun _ _ _ h => h) (Or.inl ⟨by rfl, ?_⟩) (by assumption) ?_
          rotate_left 1
          · ((intro w hSw; obtain ⟨s1, s2, s3, s4, s5, s6, s7, s8⟩ := hSw; go_simp; try with_reducible rfl))
          (try simp only [Act.put, List.setIfInBounds_toArray, List.set_cons_zero, List.set_cons_succ])
          obtain ⟨W', hrun, hm, hgr⟩ := mp_put (q := false) (i' := i') (j' := 1) E2.out.2.1 (by omega) (by simp)
          rw [HSQ.out] at hrun
          unfold kiV at hrun
          refine wpAnyH_ready (rs := [11]) (by kernel_rfl) (by simp) ?_
          refine AllReadyH.cons (o := { dst := none, op := Op.mapUpdate 70 (Operand.tmp 26) (Operand.tmp 28) (Operand.tmp 36), type := 0, pos := "l16_dates.go:155", after := #[{ on := 0, ground := Ground.data }, { on := 2, ground := Ground.data }, { on := 10, ground := Ground.data }, { on := 9, ground := Ground.chain }, { on := 0, ground := Ground.phase }, { on := 1, ground := Ground.phase }, { on := 2, ground := Ground.phase }, { on := 3, ground := Ground.phase }, { on := 4, ground := Ground.phase }, { on := 5, ground := Ground.phase }, { on := 6, ground := Ground.phase }, { on := 7, ground := Ground.phase }, { on := 8, ground := Ground.phase }, { on := 9, ground := Ground.phase }, { on := 10, ground := Ground.phase }], guard := none }) rfl (fun K hK => ?_) AllReadyH.nil
          go_simp
          have E3 := Lib.hid (show MsH w c (some ⟨g, o, none⟩) n1 (.slice a2 c.rs.length n2) i' 1 W' from ⟨E2.out.1.grMp hgr (by omega), hm, E2.out.2.2.grown hgr E2.out.2.2.size (fun r hr => by have := Option.some.inj hr; omega)⟩)
          have P3 := Lib.hid (P2.out.grMp hgr PL.out.1)
          have K3 := Lib.hid (K2.out.grMp hgr KL.out)
          clear hm hgr
          refine hK.out _ _ (MqS.of K3.out P3.out E3.out (by omega) (by unfold dnK; omega)) (fun hHeld5 => ?_)
          clear hK K hHeld5 hHeld4
          (try simp only [Act.put, List.setIfInBounds_toArray, List.set_cons_zero, List.set_cons_succ])
          refine wpAnyH_done (by kernel_rfl) ?_ _
          go_wp2_with fail
          go_roundw
          case rel => exact ⟨1, by simp, rfl, P3.out, i', 1, by omega, E3.out⟩
          case measure => simp [intOf]
        · obtain ⟨rfl, rfl⟩ : i' = k ∧ j' = 1 := by omega
          clear hij
          go_wp2_with fail
          have CE := Lib.hid CT.out
          have b1 := HB.out true
          have b2 := HD.out true
          have HSQ := Lib.hid (HS.out true)
          have v0 : IntKind.i64.wrap (smD c.ms true i' + dyM mo true) = smD c.ms true i' + dyM mo true := IntWalk.i64_in _ (by omega)
          have v1 : IntKind.i64.wrap ((i' : Int) + 1) = (i' : Int) + 1 := IntWalk.i64_in _ (by omega)
          have PL := Lib.hid (show pb ≠ w.heap.size + 1 ∧ True from ⟨HPB.out, trivial⟩)
          have KL := Lib.hid (show wr.heap.size ≠ w.heap.size + 1 by have := H3.out.2.1.lt; omega)
          have E4 := Lib.hid (H3.out.keep (bA (bR wr) (.cells #[.int .i64 ((i' : Int) + 1), .bool true] 73)))
          have P4 := Lib.hid (Q3.out.alloc (.cells #[.int .i64 ((i' : Int) + 1), .bool true] 73))
          have K4 := Lib.hid (BoxL.new wr [.int .i64 ((i' : Int) + 1), .bool true] 73)
          clear HB HD CT CF HO H3 Q3
          generalize wr.alloc (.cells #[.int .i64 ((i' : Int) + 1), .bool true] 73) = WK at *
          generalize wr.heap.size = kb at *
          have HS0 : MqS w kb pb m0 m1 m2 ((i' : Int) + 1) true c (some ⟨g, o, none⟩) n1 (.slice a2 c.rs.length n2) i' WK := MqS.of K4.out P4.out E4.out (by omega) (by unfold dnK; omega)
          have E0 := Lib.hid (E4.out.keep (bR WK).drew)
          have P0 := Lib.hid (P4.out.keep (bR WK).drew)
          have K0 := Lib.hid (K4.out.keep (bR WK).drew)
          clear E4 P4 K4
          refine wp_region_held_drew (S := MqS w kb pb m0 m1 m2 ((i' : Int) + 1) true c (some ⟨g, o, none⟩) n1 (.slice a2 c.rs.length n2) i') (by kernel_rfl) HS0.drew (fun hHeld => ?_)
          clear HS0
          generalize WK.drew = Wd at *
          refine wpAnyH_take (i := 0) (oi := { dst := some 26, op := Op.move (Operand.tmp 3), type := 70, pos := "l16_dates.go:155", after := #[], guard := none }) (v := ?_) rfl (by kernel_rfl) (by kernel_rfl) (by kernel_rfl) (fun _ _ _ h => h) (Or.inl ⟨by rfl, ?_⟩) (by assumption) ?_
          rotate_left 1
          · ((intro w hSw; obtain ⟨s1, s2, s3, s4, s5, s6, s7, s8⟩ := hSw; go_simp; try with_reducible rfl))
          (try simp only [Act.put, List.setIfInBounds_toArray, List.set_cons_zero, List.set_cons_succ])
          refine wpAnyH_take (i := 1) (oi := { dst := some 27, op := Op.load 73 (Operand.tmp 8), type := 73, pos := "l16_dates.go:155", after := #[], guard := none }) (v := ?_) rfl (by kernel_rfl) (by kernel_rfl) (by kernel_rfl) (fun _ _ _ h => h) (Or.inl ⟨by rfl, ?_⟩) (by assumption) ?_
          rotate_left 1
          · ((intro w hSw; obtain ⟨s1, s2, s3, s4, s5, s6, s7, s8⟩ := hSw; go_simp; try with_reducible rfl))
          (try simp only [Act.put, List.setIfInBounds_toArray, List.set_cons_zero, List.set_cons_succ])
          refine wpAnyH_take (i := 3) (oi := { dst := some 29, op := Op.move (Operand.tmp 3), type := 70, pos := "l16_dates.go:155", after := #[], guard := none }) (v := ?_) rfl (by kernel_rfl) (by kernel_rfl) (by kernel_rfl) (fun _ _ _ h => h) (Or.inl ⟨by rfl, ?_⟩) (by assumption) ?_
          rotate_left 1
          · ((intro w hSw; obtain ⟨s1, s2, s3, s4, s5, s6, s7, s8⟩ := hSw; go_simp; try with_reducible rfl))
          (try simp only [Act.put, List.setIfInBounds_toArray, List.set_cons_zero, List.set_cons_succ])
          refine wpAnyH_take (i := 4) (oi := { dst := some 30, op := Op.load 73 (Operand.tmp 8), type := 73, pos := "l16_dates.go:155", after := #[], guard := none }) (v := ?_) rfl (by kernel_rfl) (by kernel_rfl) (by kernel_rfl) (fun _ _ _ h => h) (Or.inl ⟨by rfl, ?_⟩) (by assumption) ?_
          rotate_left 1
          · ((intro w hSw; obtain ⟨s1, s2, s3, s4, s5, s6, s7, s8⟩ := hSw; go_simp; try with_reducible rfl))
          (try simp only [Act.put, List.setIfInBounds_toArray, List.set_cons_zero, List.set_cons_succ])
          refine wpAnyH_take (i := 5) (oi := { dst := some 31, op := Op.lookup 70 (Operand.tmp 29) (Operand.tmp 30) false, type := 2, pos := "l16_dates.go:155", after := #[{ on := 3, ground := Ground.data }, { on := 4, ground := Ground.data }], guard := none }) (v := ?_) rfl (by kernel_rfl) (by kernel_rfl) (by kernel_rfl) (fun _ _ _ h => h) (Or.inl ⟨by rfl, ?_⟩) (by assumption) ?_
          rotate_left 1
          · (intro w hSw; obtain ⟨s1, s2, s3, s4, s5, s6, s7, s8⟩ := hSw; obtain ⟨_, ⟨i0, j0, hmp, hi0, hx⟩, _⟩ := s8; have hl := mp_look hmp hi0 hx; unfold kiV at hl; go_simp; try with_reducible rfl)
          (try simp only [Act.put, List.setIfInBounds_toArray, List.set_cons_zero, List.set_cons_succ])
          refine wpAnyH_take (i := 6) (oi := { dst := some 32, op := Op.move (Operand.tmp 7), type := 4, pos := "l16_dates.go:155", after := #[], guard := none }) (v := ?_) rfl (by kernel_rfl) (by kernel_rfl) (by kernel_rfl) (fun _ _ _ h => h) (Or.inl ⟨by rfl, ?_⟩) (by assumption) ?_
          rotate_left 1
          · ((intro w hSw; obtain ⟨s1, s2, s3, s4, s5, s6, s7, s8⟩ := hSw; go_simp; try with_reducible rfl))
          (try simp only [Act.put, List.setIfInBounds_toArray, List.set_cons_zero, List.set_cons_succ])
          refine wpAnyH_take (i := 8) (oi := { dst := some 34, op := Op.load 93 (Operand.tmp 5), type := 93, pos := "l16_dates.go:155", after := #[], guard := none }) (v := ?_) rfl (by kernel_rfl) (by kernel_rfl) (by kernel_rfl) (fun _ _ _ h => h) (Or.inl ⟨by rfl, ?_⟩) (by assumption) ?_
          rotate_left 1
          · ((intro w hSw; obtain ⟨s1, s2, s3, s4, s5, s6, s7, s8⟩ := hSw; go_simp; try with_reducible rfl))
          (try simp only [Act.put, List.setIfInBounds_toArray, List.set_cons_zero, List.set_cons_succ])
          refine wpAnyH_ready (rs := [2]) (by kernel_rfl) (by simp) ?_
          refine AllReadyH.cons (o := { dst := some 28, op := Op.call { callee := Callee.value (Operand.func 74), args := #[Operand.tmp 27], argTypes := #[73] }, type := 73, pos := "l16_dates.go:155", after := #[{ on := 1, ground := Ground.data }], guard := none }) rfl (fun K hK => ?_) AllReadyH.nil
          go_simp
          go_at_call 74
          refine (next_any2 _ _ _ (by omega) (by omega)).mono ?_
          rintro e w1 ⟨rfl, hb⟩
          have E1 := Lib.hid (E0.out.keep hb)
          have P1 := Lib.hid (P0.out.keep hb)
          have K1 := Lib.hid (K0.out.keep hb)
          refine hK.out _ _ (MqS.keep hb hHeld) (fun hHeld2 => ?_)
          clear hK K hHeld hb
          (try simp only [Act.put, List.setIfInBounds_toArray, List.set_cons_zero, List.set_cons_succ])
          refine wpAnyH_ready (rs := [7]) (by kernel_rfl) (by simp) ?_
          refine AllReadyH.cons (o := { dst := some 33, op := Op.call { callee := Callee.value (Operand.func 68), args := #[Operand.tmp 32], argTypes := #[4] }, type := 102, pos := "l16_dates.go:155", after := #[{ on := 6, ground := Ground.data }, { on := 2, ground := Ground.chain }], guard := none }) rfl (fun K hK => ?_) AllReadyH.nil
          go_simp
          go_at_call 68
          refine (daysWhereT_any _).mono ?_
          rintro e w2 ⟨rfl, rfl⟩
          refine hK.out _ _ hHeld2 (fun hHeld3 => ?_)
          clear hK K hHeld2
          (try simp only [Act.put, List.setIfInBounds_toArray, List.set_cons_zero, List.set_cons_succ])
          refine wpAnyH_ready (rs := [9]) (by kernel_rfl) (by simp) ?_
          refine AllReadyH.cons (o := { dst := some 35, op := Op.call { callee := Callee.value (Operand.tmp 33), args := #[Operand.tmp 34], argTypes := #[93] }, type := 2, pos := "l16_dates.go:155", after := #[{ on := 7, ground := Ground.data }, { on := 8, ground := Ground.data }, { on := 7, ground := Ground.chain }], guard := none }) rfl (fun K hK => ?_) AllReadyH.nil
          go_simp
          go_at_call 72
          refine (CE.out _).mono ?_
          rintro e w3 ⟨rfl, hb⟩
          have E2 := Lib.hid (E1.out.keep hb)
          have P2 := Lib.hid (P1.out.keep hb)
          have K2 := Lib.hid (K1.out.keep hb)
          refine hK.out _ _ (MqS.keep hb hHeld3) (fun hHeld4 => ?_)
          clear hK K hHeld3 hb
          (try simp only [Act.put, List.setIfInBounds_toArray, List.set_cons_zero, List.set_cons_succ])
          refine wpAnyH_take (i := 10) (oi := { dst := some 36, op := Op.binOp BinOp.add 2 (Operand.tmp 31) (Operand.tmp 35) 2, type := 2, pos := "l16_dates.go:155", after := #[{ on := 5, ground := Ground.data }, { on := 9, ground := Ground.data }], guard := none }) (v := ?_) rfl (by kernel_rfl) (by kernel_rfl) (by kernel_rfl) (fun _ _ _ h => h) (Or.inl ⟨by rfl, ?_⟩) (by assumption) ?_
          rotate_left 1
          · ((intro w hSw; obtain ⟨s1, s2, s3, s4, s5, s6, s7, s8⟩ := hSw; go_simp; try with_reducible rfl))
          (try simp only [Act.put, List.setIfInBounds_toArray, List.set_cons_zero, List.set_cons_succ])
          obtain ⟨W', hrun, hm, hgr⟩ := mp_put (q := true) (i' := (i' + 1)) (j' := 0) E2.out.2.1 (by omega) (by simp)
          rw [HSQ.out] at hrun
          unfold kiV at hrun
          refine wpAnyH_ready (rs := [11]) (by kernel_rfl) (by simp) ?_
          refine AllReadyH.cons (o := { dst := none, op := Op.mapUpdate 70 (Operand.tmp 26) (Operand.tmp 28) (Operand.tmp 36), type := 0, pos := "l16_dates.go:155", after := #[{ on := 0, ground := Ground.data }, { on := 2, ground := Ground.data }, { on := 10, ground := Ground.data }, { on := 9, ground := Ground.chain }, { on := 0, ground := Ground.phase }, { on := 1, ground := Ground.phase }, { on := 2, ground := Ground.phase }, { on := 3, ground := Ground.phase }, { on := 4, ground := Ground.phase }, { on := 5, ground := Ground.phase }, { on := 6, ground := Ground.phase }, { on := 7, ground := Ground.phase }, { on := 8, ground := Ground.phase }, { on := 9, ground := Ground.phase }, { on := 10, ground := Ground.phase }], guard := none }) rfl (fun K hK => ?_) AllReadyH.nil
          go_simp
          have E3 := Lib.hid (show MsH w c (some ⟨g, o, none⟩) n1 (.slice a2 c.rs.length n2) (i' + 1) 0 W' from ⟨E2.out.1.grMp hgr (by omega), hm, E2.out.2.2.grown hgr E2.out.2.2.size (fun r hr => by have := Option.some.inj hr; omega)⟩)
          have P3 := Lib.hid (P2.out.grMp hgr PL.out.1)
          have K3 := Lib.hid (K2.out.grMp hgr KL.out)
          clear hm hgr
          refine hK.out _ _ (MqS.of K3.out P3.out E3.out (by omega) (by unfold dnK; omega)) (fun hHeld5 => ?_)
          clear hK K hHeld5 hHeld4
          (try simp only [Act.put, List.setIfInBounds_toArray, List.set_cons_zero, List.set_cons_succ])
          refine wpAnyH_done (by kernel_rfl) ?_ _
          go_wp2_with fail
          go_roundw
          case rel => exact ⟨2, by simp, rfl, P3.out, (i' + 1), 0, by omega, E3.out⟩
          case measure => simp [intOf]
        · obtain ⟨rfl, rfl⟩ : i' = k + 1 ∧ j' = 0 := by omega
          clear hij
          go_wp2_with fail
          go_roundw
          case rel => exact ⟨k + 1, by omega, by go_num, H3.out⟩
          case measure => simp [intOf]; omega
    · obtain rfl : k = c.ms.length := by omega
      go_wp2_with fail
      go_ret
      exact ⟨w.heap.size + 1, rfl, by omega, H1.out.2.1, H1.out.2.2⟩
end Go.Proofs.Ytbkhejideffflaa

/-
  The contract of impl.Calendar.isLeap: a loop over the rules, from the last one back.
-/
import Derived.Test.YtpbepibklipfpaaDoorCaB
namespace Go.Proofs.YtpbepibklipfpaaDoor
open Go.RowKit Go.Shelf
attribute [local go_sem] Oper.semAt_some

/-- The rules behind place j do not apply. -/
theorem lp_tail {rs : List Ru} {y : Int} {j : Nat} : ∀ {n : Nat}, j ≤ n → (∀ i, j ≤ i → i < n → apR (ruAt rs i) y = false) → lpK rs y n = lpK rs y j
  | 0, h, _ => by obtain rfl : j = 0 := (by omega); rfl
  | n + 1, h, hn => by
    by_cases e : j = n + 1
    · subst e; rfl
    · rw [lpK_no (hn n (by omega) (by omega))]
      exact lp_tail (by omega) (fun i h1 h2 => hn i h1 (by omega))
theorem backRL_split {rs : List Ru} {pre : List (Int × Ru)} {x : Int × Ru} : ∀ {n : Nat}, pre ++ [x] <+: backRL rs n → ∃ k, k < n ∧ x = ((k : Int), ruAt rs k) ∧ pre.length + k + 1 = n ∧ ∀ i, k < i → i < n → ((i : Int), ruAt rs i) ∈ pre := by
  induction pre with
  | nil =>
    intro n h
    cases n with
    | zero => simp [backRL] at h
    | succ n =>
      obtain ⟨t, ht⟩ := h
      simp only [backRL, List.nil_append, List.singleton_append, List.cons.injEq] at ht
      exact ⟨n, by omega, ht.1, by simp, fun i h1 h2 => by omega⟩
  | cons p pre ih =>
    intro n h
    cases n with
    | zero => simp [backRL] at h
    | succ n =>
      obtain ⟨t, ht⟩ := h
      simp only [backRL, List.cons_append, List.cons.injEq] at ht
      obtain ⟨k, h1, h2, h3, h4⟩ := ih (n := n) ⟨t, ht.2⟩
      refine ⟨k, by omega, h2, by simp; omega, fun i h5 h6 => ?_⟩
      by_cases e : i = n
      · subst e; rw [ht.1]; exact List.mem_cons_self
      · exact List.mem_cons_of_mem _ (h4 i h5 (by omega))
theorem lp_hit {rs : List Ru} {y : Int} {pre : List (Int × Ru)} {x : Int × Ru} (h : pre ++ [x] <+: backRL rs rs.length) (hp : ∀ p ∈ pre, apR p.2 y = false) (hx : apR x.2 y = true) : lpY rs y = x.2.b := by
  obtain ⟨k, h1, rfl, _, h3⟩ := backRL_split h
  unfold lpY
  rw [lp_tail (j := k + 1) (by omega) (fun i h4 h5 => hp _ (h3 i (by omega) h5)), lpK_yes hx]
theorem mem_backRL {rs : List Ru} {i : Nat} : ∀ {n : Nat}, i < n → ((i : Int), ruAt rs i) ∈ backRL rs n
  | n + 1, h => by
    by_cases e : i = n
    · subst e; exact List.mem_cons_self
    · exact List.mem_cons_of_mem _ (mem_backRL (by omega))
theorem lp_none {rs : List Ru} {y : Int} (hp : ∀ p ∈ backRL rs rs.length, apR p.2 y = false) : lpY rs y = false := by
  unfold lpY
  rw [lp_tail (j := 0) (by omega) (fun i _ h5 => hp _ (mem_backRL h5))]; rfl
theorem valid_pre {rs : List Ru} (hr : ruK rs rs.length) {pre : List (Int × Ru)} {x : Int × Ru} (h : pre ++ [x] <+: backRL rs rs.length) : ruB x.2 = true := by
  obtain ⟨k, h1, rfl, _⟩ := backRL_split h
  exact hr k h1
/-- What is carried through the loop; what stands when it is left. -/
def LpI (y : Int) (W0 : World) (pre : List (Int × Ru)) (T : Nat → Prop) (W : World) : Prop := Below W0.heap.size W0 W ∧ (∀ k, T k → W0.heap.size ≤ k) ∧ ∀ p ∈ pre, apR p.2 y = false
theorem lpI_ab (y : Int) (W0 : World) : AbP (LpI y W0) := by
  intro s S S' W W' ⟨h1, h2, h3⟩ hm hS
  refine ⟨⟨hm.os.trans h1.os, hm.tape.trans h1.tape, hm.output.trans h1.output, Nat.le_trans h1.size hm.size, fun k hk => (hm.block k (Nat.lt_of_lt_of_le hk h1.size) (fun h => by have := h2 k h; omega)).trans (h1.block k hk)⟩, fun k hk => ?_, h3⟩
  have := h1.size
  rcases (hS k hk).1 with h | h
  · exact h2 k h
  · omega
theorem lpI_turn (y : Int) (W0 : World) (T : Nat → Prop) : TurnsP W0.heap.size (fun s => LpI y W0 s T) := by
  intro s W o o' ⟨h1, h2, h3⟩ ho _
  exact ⟨⟨h1.os, h1.tape, h1.output, by simpa using h1.size, fun k hk => (World.putObj_heap_other (by omega)).trans (h1.block k hk)⟩, h2, h3⟩
/-- The result lies in its cell. -/
def LpX (rs : List Ru) (y : Int) (w : World) (rb n : Nat) (c : Code) (_ : List (Int × Ru)) (T : Nat → Prop) (W : World) : Prop := c = .ret ∧ Below w.heap.size w W ∧ (∀ k, T k → n ≤ k) ∧ rb < n ∧ n ≤ W.heap.size ∧ w.heap.size ≤ n ∧ W.cell? ⟨rb, 0, none⟩ = some (.bool (lpY rs y))
theorem lpX_ab (rs : List Ru) (y : Int) (w : World) (rb n : Nat) (c : Code) : AbP (LpX rs y w rb n c) := by
  intro s S S' W W' ⟨h0, h1, h2, h3, h4, h5, h6⟩ hm hS
  refine ⟨h0, ⟨hm.os.trans h1.os, hm.tape.trans h1.tape, hm.output.trans h1.output, Nat.le_trans h1.size hm.size, fun k hk => (hm.block k (Nat.lt_of_lt_of_le hk h1.size) (fun h => by have := h2 k h; omega)).trans (h1.block k hk)⟩, fun k hk => ?_, h3, Nat.le_trans h4 hm.size, h5, ?_⟩
  · rcases (hS k hk).1 with h | h
    · exact h2 k h
    · omega
  · exact (World.cell?_of_block (hm.block rb (Nat.lt_of_lt_of_le h3 h4) (fun h => by have := h2 rb h; omega))).trans h6
theorem lpX_turn (rs : List Ru) (y : Int) (w : World) (rb n : Nat) (c : Code) (T : Nat → Prop) : TurnsP n (fun s => LpX rs y w rb n c s T) := by
  intro s W o o' ⟨h0, h1, h2, h3, h4, h5, h6⟩ ho _
  exact ⟨h0, ⟨h1.os, h1.tape, h1.output, by simpa using h1.size, fun k hk => (World.putObj_heap_other (by omega)).trans (h1.block k hk)⟩, h2, h3, by simpa using h4, h5, (World.cell?_of_block (World.putObj_heap_other (show rb ≠ n + 1 by omega))).trans h6⟩
theorem BoxL.putq {W : World} {b l : Nat} {vs : List Value} {o' : Obj} (h : BoxL W b vs) (hn : b ≠ l) : BoxL (W.putObj l o') b vs :=
  ⟨fun i u e => (World.cell?_of_block (World.putObj_heap_other hn)).trans (h.c i u e), fun i u e => (World.frozen?_of_block (World.putObj_heap_other hn)).trans (h.f i u e), by simpa using h.lt⟩
def BxR (a : Nat → (Int × Ru) → Act) (x : Int × Ru) (a' : Act) (W : World) : Prop := ∃ c, a' = a c x ∧ BoxL W c [.int .i64 x.2.e, .int .i64 x.2.r, .bool x.2.b]
theorem cell_bookq {W : World} {c l o : Nat} {v : Value} {ob : Obj} (h : W.cell? ⟨c, o, none⟩ = some v) (hl : W.heap[l]? = some ob) (hc : ob.isCells = false) : c ≠ l := by
  intro e
  subst e
  unfold World.cell? at h
  rw [hl] at h
  cases ob <;> simp_all [Obj.isCells]
theorem below_putq {w W : World} {D : Nat} {o : Obj} (h : Below w.heap.size w W) (hD : w.heap.size ≤ D) : Below w.heap.size w (W.putObj D o) :=
  ⟨h.os, h.tape, h.output, by simpa using h.size, fun k hk => (World.putObj_heap_other (by omega)).trans (h.block k hk)⟩
theorem bxR_turn (a : Nat → (Int × Ru) → Act) (L : Nat) (a' : Act) : TurnsP L (fun x => BxR a x a') := by
  intro x W o o' ⟨c, h1, h2⟩ ho hc
  exact ⟨c, h1, h2.putq (cell_bookq (h2.c 0 _ rfl) ho hc)⟩
theorem same2_bel {B : Nat} {W W' : World} (hb : Books B W) (h : Below W.heap.size W W') : Same2 B W W' := by
  obtain ⟨⟨o, h1, _⟩, p, h3, _⟩ := hb
  exact ⟨h.block _ (Array.getElem?_eq_some_iff.1 h1).1, h.block _ (Array.getElem?_eq_some_iff.1 h3).1, h.size⟩
theorem kept_bel {T Fx : Nat → Prop} {W W' : World} (h : Below W.heap.size W W') (hT : ∀ k, T k → k < W.heap.size) (hF : ∀ k, Fx k → k < W.heap.size) : Kept T Fx W W' :=
  ⟨h.os, h.tape, h.output, h.size, fun k hk => h.block k (hT k hk), fun k hk => h.block k (hF k hk)⟩
set_option maxRecDepth 100000 in
set_option maxHeartbeats 8000000 in
theorem isLeap_any (c : Cal) (y : Int) (x : Value) (w : World) (h : IsC w x c) (hr : ruK c.rs c.rs.length) (hl : c.rs.length ≤ 1000) (hy : 0 ≤ y) :
    Calls Tryd.prog 147 #[x, .int .i64 y] w (BoolBel (lpY c.rs y) w) := by
  obtain ⟨u, v, rfl, hs, hM, hR⟩ := h
  obtain ⟨nm, ms, rs, wk⟩ := c
  simp only at hs hM hR hr hl ⊢
  have HR := Lib.hid hr
  have RL := Lib.hid hR.low
  obtain ⟨a1, n1, rfl, _⟩ := hM.open
  obtain ⟨a2, n2, rfl, _⟩ := hR.open
  clear hM hR hr
  refine (callsIn_wide (n := 8)).1 ?_
  refine callsIn_of_wp_marks Tryd.func147 rfl trivial ?_ rfl
  simp only [Tryd.ntmps147, List.size_toArray, List.length_cons, List.length_nil, Nat.reduceAdd, Nat.reduceSub, Array.replicate_succ, Array.replicate_zero, List.push_toArray, List.append_toArray, List.nil_append, List.cons_append]
  gi_wp2_with fail
  refine ⟨trivial, ?_⟩
  refine (callsIn_wide.2 (BackwardR_any _ _ ⟨_, _, _, rfl⟩)).mono ?_
  rintro e w2 ⟨rfl, rfl⟩
  gi_wp2_with fail
  have L0 := Lib.hid (show Below w.heap.size w ((((w.alloc (.cells #[.string nm, .slice a1 ms.length n1, .slice a2 rs.length n2, .int .i64 wk] 34)).alloc (.cells #[.int .i64 y] 2)).alloc (.cells #[.bool false] 4)).alloc (.cells #[.slice a2 rs.length n2] 32)) from bA (bA (bA (bA (bR w) _) _) _) _)
  have S5 := Lib.hid (show ((((w.alloc (.cells #[.string nm, .slice a1 ms.length n1, .slice a2 rs.length n2, .int .i64 wk] 34)).alloc (.cells #[.int .i64 y] 2)).alloc (.cells #[.bool false] 4)).alloc (.cells #[.slice a2 rs.length n2] 32)).heap.size = w.heap.size + 4 by simp)
  have hP := Lib.hid (backRP rs (w.heap.size + 1 + 1 + 1) w.heap.size a2 n2 ((((w.alloc (.cells #[.string nm, .slice a1 ms.length n1, .slice a2 rs.length n2, .int .i64 wk] 34)).alloc (.cells #[.int .i64 y] 2)).alloc (.cells #[.bool false] 4)).alloc (.cells #[.slice a2 rs.length n2] 32)) (by omega) (by simp) (by simp; omega) (by simp [go_sem]) (RL.out.of_kept (fun g hg => L0.out.block g hg)))
  have C1 := Lib.hid (show ((((w.alloc (.cells #[.string nm, .slice a1 ms.length n1, .slice a2 rs.length n2, .int .i64 wk] 34)).alloc (.cells #[.int .i64 y] 2)).alloc (.cells #[.bool false] 4)).alloc (.cells #[.slice a2 rs.length n2] 32)).cell? ⟨w.heap.size + 1, 0, none⟩ = some (.int .i64 y) by simp [go_sem])
  have C2 := Lib.hid (show ((((w.alloc (.cells #[.string nm, .slice a1 ms.length n1, .slice a2 rs.length n2, .int .i64 wk] 34)).alloc (.cells #[.int .i64 y] 2)).alloc (.cells #[.bool false] 4)).alloc (.cells #[.slice a2 rs.length n2] 32)).cell? ⟨w.heap.size + 1 + 1, 0, none⟩ = some (.bool false) ∧ ((((w.alloc (.cells #[.string nm, .slice a1 ms.length n1, .slice a2 rs.length n2, .int .i64 wk] 34)).alloc (.cells #[.int .i64 y] 2)).alloc (.cells #[.bool false] 4)).alloc (.cells #[.slice a2 rs.length n2] 32)).frozen? ⟨w.heap.size + 1 + 1, 0, none⟩ = false from ⟨by simp [go_sem], by simp [go_sem]⟩)
  change Code.wpIn _ _ _ _ _ _ ((((w.alloc (.cells #[.string nm, .slice a1 ms.length n1, .slice a2 rs.length n2, .int .i64 wk] 34)).alloc (.cells #[.int .i64 y] 2)).alloc (.cells #[.bool false] 4)).alloc (.cells #[.slice a2 rs.length n2] 32))
  generalize ((((w.alloc (.cells #[.string nm, .slice a1 ms.length n1, .slice a2 rs.length n2, .int .i64 wk] 34)).alloc (.cells #[.int .i64 y] 2)).alloc (.cells #[.bool false] 4)).alloc (.cells #[.slice a2 rs.length n2] 32)) = W5 at *
  have H0 := Lib.hid (show LpI y W5 [] none1 W5 from ⟨bR _, fun k hk => hk.elim, fun p hp => absurd hp (by simp)⟩)
  refine rf_law 6 rfl rfl (gf := 174) rfl trivial (enters_of Tryd.func174 (by kernel_rfl) rfl) hP.out (fun k hk => by have := S5.out; rcases hk with rfl | hk <;> omega) (bR _) (fun _ => rfl)
    (LpI y W5) (LpX rs y w (w.heap.size + 1 + 1) W5.heap.size) (lpI_ab y W5) (fun c => lpX_ab rs y w _ _ c) (fun T => lpI_turn y W5 T) (fun c T => lpX_turn rs y w _ _ c T) H0.out
    (BxR fun c x => { tmps := #[.agg #[.string nm, .slice a1 ms.length n1, .slice a2 rs.length n2, .int .i64 wk], .int .i64 y, .pointer (some ⟨w.heap.size, 0, none⟩), .pointer (some ⟨w.heap.size + 1, 0, none⟩), .pointer (some ⟨w.heap.size + 1 + 1, 0, none⟩), undef, .pointer (some ⟨c, 0, none⟩), .pointer (some ⟨w.heap.size, 2, none⟩), .slice a2 rs.length n2, .func (.func 174) #[] #[.pointer (some ⟨w.heap.size + 1 + 1 + 1, 0, none⟩)], .int .i64 x.1, .agg #[.int .i64 x.2.e, .int .i64 x.2.r, .bool x.2.b], undef, undef, undef, undef, undef], defers := [] }) (bxR_turn _ _) ?assign ?body ?done ?stop
  case assign =>
    rintro lr pre ⟨p1, ⟨q1, q2, q3⟩⟩ T W K hi' ht hK
    have HI := Lib.hid hi'
    have HTT := Lib.hid ht
    have HK := Lib.hid hK
    clear hi' ht hK
    simp only [encBr]
    gi_wp2_with fail
    exact HK.out _ _ (bA (bR _) _) (lpI_ab y W5 _ _ _ _ _ HI.out (Mov.of_below (bA (bR _) _)) (fun k hk => ⟨.inl hk, by have := (HTT.out k hk).1; simp; omega⟩)) ⟨_, rfl, BoxL.new _ _ _⟩
  case body =>
    rintro lr pre ⟨p1, r⟩ a' T W hsp ⟨i1, i2, i3⟩ ht hbk ⟨c, rfl, x0⟩ hln
    have HT := Lib.hid (fun k hk => (ht k hk).1)
    have HBK := Lib.hid hbk
    have HV := Lib.hid (valid_pre HR.out hsp)
    have HI := Lib.hid i1
    have HI2 := Lib.hid i2
    have HI3 := Lib.hid i3
    have HF := Lib.hid (fun k (hk : k = w.heap.size + 1 + 1 + 1 ∨ k < w.heap.size) => (show k < W.heap.size by have := S5.out; have := HI.out.size; omega))
    have SZ := Lib.hid (show W5.heap.size ≤ W.heap.size from i1.size)
    have HY := Lib.hid (fun h => lp_hit (y := y) hsp i3 h)
    obtain ⟨d0, d1, d2, d3⟩ := x0.c3
    have X0 := Lib.hid x0
    have yc : W.cell? ⟨w.heap.size + 1, 0, none⟩ = some (.int .i64 y) := (i1.cell (p := ⟨w.heap.size + 1, 0, none⟩) (by have := S5.out; show w.heap.size + 1 < _; omega)).trans C1.out
    have rc : W.cell? ⟨w.heap.size + 1 + 1, 0, none⟩ = some (.bool false) := (i1.cell (p := ⟨w.heap.size + 1 + 1, 0, none⟩) (by have := S5.out; show w.heap.size + 1 + 1 < _; omega)).trans C2.out.1
    have rf : W.frozen? ⟨w.heap.size + 1 + 1, 0, none⟩ = false := (i1.frozen (p := ⟨w.heap.size + 1 + 1, 0, none⟩) (by have := S5.out; show w.heap.size + 1 + 1 < _; omega)).trans C2.out.2
    have CA := Lib.hid (fun W => appliesTo_any r y W HV.out hy)
    simp only at HV HY
    clear hsp i1 i2 i3 ht hbk hln x0
    obtain ⟨re, rr, rb⟩ := r
    simp only at d0 d1 d2 CA HY
    cases hap : apR ⟨re, rr, rb⟩ y
    · rw [hap] at CA
      gi_wp2_with fail
      refine ⟨trivial, ?_⟩
      refine (CallsIn.inRound _ (callsIn_wide.2 (CA.out _))).mono ?_
      rintro e W1 ⟨rfl, hb1⟩
      have HB1 := Lib.hid hb1
      clear hb1
      gi_wp2_with fail
      refine ⟨same2_bel HBK.out HB1.out, kept_bel HB1.out HT.out HF.out, ?_⟩
      refine ⟨HI.out.trans (HB1.out.mono SZ.out), HI2.out, fun p hp => ?_⟩
      rcases List.mem_append.1 hp with hp | hp
      · exact HI3.out p hp
      · rw [List.mem_singleton.1 hp]; exact hap
    · have HY' := Lib.hid (HY.out hap)
      rw [hap] at CA
      gi_wp2_with fail
      refine ⟨trivial, ?_⟩
      refine (CallsIn.inRound _ (callsIn_wide.2 (CA.out _))).mono ?_
      rintro e W1 ⟨rfl, hb1⟩
      have HB1 := Lib.hid hb1
      have e2 := (X0.out.keep hb1).c3.2.2.1
      have rc1 := (hb1.cell (p := ⟨w.heap.size + 1 + 1, 0, none⟩) (by have := S5.out; have := SZ.out; show w.heap.size + 1 + 1 < _; omega)).trans rc
      have rf1 := (hb1.frozen (p := ⟨w.heap.size + 1 + 1, 0, none⟩) (by have := S5.out; have := SZ.out; show w.heap.size + 1 + 1 < _; omega)).trans rf
      clear hb1 rc rf
      gi_wp2_with fail
      have hs5 := S5.out
      have hsz := SZ.out
      have hs1 := HB1.out.size
      have B1 : ∀ k, k ≠ w.heap.size + 1 + 1 → (W1.setCell ⟨w.heap.size + 1 + 1, 0, none⟩ (.bool rb)).heap[k]? = W1.heap[k]? := fun k hk => Below.heap_setCell _ _ _ _ hk
      obtain ⟨s1, s2, s3⟩ := same2_bel HBK.out HB1.out
      refine ⟨⟨(B1 _ (by omega)).trans s1, (B1 _ (by omega)).trans s2, by simpa [World.setCell] using s3⟩, ⟨HB1.out.os, HB1.out.tape, HB1.out.output, by simpa [World.setCell] using s3, fun k hk => (B1 _ (by have := HI2.out k hk; omega)).trans (HB1.out.block k (HT.out k hk)), fun k hk => (B1 _ (by omega)).trans (HB1.out.block k (HF.out k hk))⟩, ?_⟩
      refine ⟨rfl, (((L0.out.trans (HI.out.mono (by omega))).trans (HB1.out.mono (by omega))).setCell (show w.heap.size ≤ w.heap.size + 1 + 1 by omega) _), HI2.out, by omega, by simp [World.setCell]; omega, by omega, ?_⟩
      rw [HY'.out]
      simp [go_sem, rc1]
  case done =>
    rintro D xs T W hD rfl ⟨i1, i2, i3⟩ hK
    have HN := Lib.hid (lp_none (rs := rs) (y := y) i3)
    have hs5 := S5.out
    have rc : W.cell? ⟨w.heap.size + 1 + 1, 0, none⟩ = some (.bool false) := (i1.cell (p := ⟨w.heap.size + 1 + 1, 0, none⟩) (by show w.heap.size + 1 + 1 < _; omega)).trans C2.out.1
    have rf : W.frozen? ⟨w.heap.size + 1 + 1, 0, none⟩ = false := (i1.frozen (p := ⟨w.heap.size + 1 + 1, 0, none⟩) (by show w.heap.size + 1 + 1 < _; omega)).trans C2.out.2
    have HI := Lib.hid i1
    have HK := Lib.hid ((Below.heap_setCell W ⟨w.heap.size + 1 + 1, 0, none⟩ (.bool false) D (by rw [hD]; show _ ≠ w.heap.size + 1 + 1; omega)).trans hK)
    clear i1 i2 i3 hK
    gi_wp2_with fail
    refine ⟨by simp, .inl ⟨_, _, rfl, run_takeDeferred HK.out, ?_⟩⟩
    refine ⟨.bool (lpY rs y), ?_, rfl, ?_⟩
    · rw [HN.out]
      have hne : w.heap.size + 1 + 1 ≠ D := by omega
      have rc2 := (World.cell?_of_block (a := ⟨w.heap.size + 1 + 1, 0, none⟩) (World.putObj_heap_other (w := W.setCell ⟨w.heap.size + 1 + 1, 0, none⟩ (.bool false)) (o := .deferred none) (r := D) hne)).trans (show (W.setCell ⟨w.heap.size + 1 + 1, 0, none⟩ (.bool false)).cell? ⟨w.heap.size + 1 + 1, 0, none⟩ = some (.bool false) by simp [go_sem, rc])
      simp [results, Tryd.results147, go_sem, rc2]
    · exact below_putq ((L0.out.trans (HI.out.mono (by omega))).setCell (show w.heap.size ≤ w.heap.size + 1 + 1 by omega) _) (by omega)
  case stop =>
    rintro D c pre T W hD hsp ⟨rfl, i1, i2, i3, i4, i5, i6⟩ hK
    gi_wp2_with fail
    refine ⟨by simp, .inl ⟨_, _, rfl, run_takeDeferred hK, ?_⟩⟩
    refine ⟨.bool (lpY rs y), ?_, rfl, ?_⟩
    · have hne : w.heap.size + 1 + 1 ≠ D := by omega
      have rc2 := (World.cell?_of_block (a := ⟨w.heap.size + 1 + 1, 0, none⟩) (World.putObj_heap_other (w := W) (o := .deferred none) (r := D) hne)).trans i6
      simp [results, Tryd.results147, go_sem, rc2]
    · exact below_putq i1 (by omega)
end Go.Proofs.YtpbepibklipfpaaDoor

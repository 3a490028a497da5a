/-
  The contracts of impl.Ratio.neighbours and impl.NeighboursOf.
-/
import Derived.Test.YtldjplopglpgfaaConvN
import Derived.Test.YtldjplopglpgfaaConvO
import Derived.Test.YtldjplopglpgfaaNearS
namespace Go.Proofs.Ytldjplopglpgfaa
open Go.RowKit Go.Shelf
attribute [local go_sem] Oper.semAt_some

/-- What lies in memory at the head of a round: the ratio, the bound, the two results. -/
structure NgW (w : World) (n d most : Int) (W : World) : Prop where
  r : Box2 W w.heap.size n d
  m : W.cell? ⟨w.heap.size + 1, 0, none⟩ = some (.int .i64 most)
  bel : Below w.heap.size w W
def NgB (w W : World) (a b c f : Int) : Prop := Box2 W (w.heap.size + 1 + 1) a b ∧ Box2 W (w.heap.size + 1 + 1 + 1) c f
def NgI (w : World) (n d most : Int) (pre : List PP) (T : Nat → Prop) (W : World) : Prop :=
  NgW w n d most W ∧ NgB w W 0 0 0 0 ∧ (∀ k, T k → w.heap.size + 5 ≤ k) ∧ w.heap.size + 5 ≤ W.heap.size ∧ ∀ c ∈ pre, c.2.2 ≤ most
def NgX (w : World) (n d most : Int) (T : Nat → Prop) (W : World) : Prop :=
  ∃ a b c f, NbR n d most a b c f ∧ NgW w n d most W ∧ NgB w W a b c f ∧ (∀ k, T k → w.heap.size + 5 ≤ k) ∧ w.heap.size + 5 ≤ W.heap.size
theorem NgW.blk {w W W' : World} {n d most : Int} (h : NgW w n d most W) (hs : W.heap.size ≤ W'.heap.size) (ho : W'.os = W.os) (ht : W'.tape = W.tape) (hp : W'.output = W.output) (hb : ∀ k, k < w.heap.size + 2 → k < W.heap.size → W'.heap[k]? = W.heap[k]?) (h2 : w.heap.size + 2 ≤ W.heap.size) : NgW w n d most W' := by
  obtain ⟨h1, h3, h4⟩ := h
  exact ⟨h1.of_block hs (hb _ (by omega) (by omega)), (World.cell?_of_block (hb _ (by simp) (by simp; omega))).trans h3, ⟨ho.trans h4.os, ht.trans h4.tape, hp.trans h4.output, Nat.le_trans h4.size hs, fun k hk => (hb k (by omega) (by omega)).trans (h4.block k hk)⟩⟩
theorem ng_blk {w W W' : World} {n d most a b c f : Int} (h : NgW w n d most W) (hB : NgB w W a b c f) (hs : W.heap.size ≤ W'.heap.size) (ho : W'.os = W.os) (ht : W'.tape = W.tape) (hp : W'.output = W.output) (hb : ∀ k, k < w.heap.size + 5 → W'.heap[k]? = W.heap[k]?) (h2 : w.heap.size + 5 ≤ W.heap.size) : NgW w n d most W' ∧ NgB w W' a b c f :=
  ⟨h.blk hs ho ht hp (fun k hk _ => hb k (by omega)) (by omega), hB.1.of_block hs (hb _ (by omega)), hB.2.of_block hs (hb _ (by omega))⟩
theorem ngI_ab (w : World) (n d most : Int) : AbP (NgI w n d most) := by
  intro s T T' W W' ⟨h1, h2, h3, h4, h5⟩ hm ht
  obtain ⟨g1, g2⟩ := ng_blk h1 h2 hm.size hm.os hm.tape hm.output (fun k hk => hm.block k (by omega) (fun hT => by have := h3 k hT; omega)) h4
  refine ⟨g1, g2, fun k hk => ?_, Nat.le_trans h4 hm.size, h5⟩
  rcases (ht k hk).1 with h | h
  · exact h3 k h
  · omega
theorem ngX_ab (w : World) (n d most : Int) : AbP (fun (_ : List PP) => NgX w n d most) := by
  intro s T T' W W' ⟨a, b, c, f, h0, h1, h2, h3, h4⟩ hm ht
  obtain ⟨g1, g2⟩ := ng_blk h1 h2 hm.size hm.os hm.tape hm.output (fun k hk => hm.block k (by omega) (fun hT => by have := h3 k hT; omega)) h4
  refine ⟨a, b, c, f, h0, g1, g2, fun k hk => ?_, Nat.le_trans h4 hm.size⟩
  rcases (ht k hk).1 with h | h
  · exact h3 k h
  · omega
theorem ngI_turn {w : World} {L : Nat} (hL : L = w.heap.size + 5) (n d most : Int) (T : Nat → Prop) : TurnsP L (fun s => NgI w n d most s T) := by
  intro s W o o' ⟨h1, h2, h3, h4, h5⟩ ho hc
  obtain ⟨g1, g2⟩ := ng_blk h1 h2 (W' := W.putObj (L + 1) o') (by simp) rfl rfl rfl (fun k hk => World.putObj_heap_other (by omega)) h4
  exact ⟨g1, g2, h3, by simpa using h4, h5⟩
theorem ngX_turn {w : World} {L : Nat} (hL : L = w.heap.size + 5) (n d most : Int) (T : Nat → Prop) : TurnsP L (fun (_ : List PP) => NgX w n d most T) := by
  intro s W o o' ⟨a, b, c, f, h0, h1, h2, h3, h4⟩ ho hc
  obtain ⟨g1, g2⟩ := ng_blk h1 h2 (W' := W.putObj (L + 1) o') (by simp) rfl rfl rfl (fun k hk => World.putObj_heap_other (by omega)) h4
  exact ⟨a, b, c, f, h0, g1, g2, h3, by simpa using h4⟩
/-- Both of a round's variables lie in boxes of their own. -/
def NgAx (w : World) (a : Nat → Nat → PP → Act) (x : PP) (a' : Act) (W : World) : Prop := ∃ u v, a' = a u v x ∧ Box2 W u x.1.1 x.1.2 ∧ Box2 W v x.2.1 x.2.2 ∧ w.heap.size + 5 ≤ u ∧ w.heap.size + 5 ≤ v
theorem ngAx_turn (w : World) (a : Nat → Nat → PP → Act) (L : Nat) (a' : Act) : TurnsP L (fun x => NgAx w a x a') := by
  intro x W o o' ⟨u, v, h1, h2, h3, h4, h5⟩ ho hc
  exact ⟨u, v, h1, h2.of_block (by simp) (World.putObj_heap_other (cell_book h2.c0 ho hc)), h3.of_block (by simp) (World.putObj_heap_other (cell_book h3.c0 ho hc)), h4, h5⟩
def Nb2 (n d most : Int) (w : World) (e : Ending) (w' : World) : Prop := ∃ a b c f : Int, NbR n d most a b c f ∧ e = .returned (.tuple #[.agg #[.int .i64 a, .int .i64 b], .agg #[.int .i64 c, .int .i64 f]]) ∧ Below w.heap.size w w'
/-- The world in which the loop begins. -/
def ngW (w : World) (n d most : Int) : World := ((((w.alloc (.cells #[.int .i64 n, .int .i64 d] 25)).alloc (.cells #[.int .i64 most] 2)).alloc (.cells #[.int .i64 0, .int .i64 0] 25)).alloc (.cells #[.int .i64 0, .int .i64 0] 25)).alloc (.cells #[.int .i64 n, .int .i64 d] 25)
/-- The results are stored. -/
def ngSt (w w1 : World) (a b c f : Int) : World := ((((w1.setCell ⟨w.heap.size + 1 + 1, 0, none⟩ (.int .i64 a)).setCell ⟨w.heap.size + 1 + 1, 1, none⟩ (.int .i64 b)).setCell ⟨w.heap.size + 1 + 1 + 1, 0, none⟩ (.int .i64 c)).setCell ⟨w.heap.size + 1 + 1 + 1, 1, none⟩ (.int .i64 f)).drew
theorem ngSt_block (w w1 : World) (a b c f : Int) {k : Nat} (h1 : k ≠ w.heap.size + 1 + 1) (h2 : k ≠ w.heap.size + 1 + 1 + 1) : (ngSt w w1 a b c f).heap[k]? = w1.heap[k]? := by
  show (World.setCell _ _ _).heap[k]? = _
  rw [Below.heap_setCell _ _ _ _ h2, Below.heap_setCell _ _ _ _ h2, Below.heap_setCell _ _ _ _ h1, Below.heap_setCell _ _ _ _ h1]
theorem ngSt_size (w w1 : World) (a b c f : Int) : (ngSt w w1 a b c f).heap.size = w1.heap.size := by simp [ngSt, World.setCell]
theorem ngSt_box {w w1 : World} (a b c f : Int) {a' b' c' f' : Int} (h : NgB w w1 a' b' c' f') : NgB w (ngSt w w1 a b c f) a b c f := by
  obtain ⟨h1, h2⟩ := h
  exact ⟨(((h1.set a b).other (by omega)).other (by omega)).drew, (((h2.other (by omega)).other (by omega)).set c f).drew⟩
theorem ng_end {w X w1 : World} {n d most a b c f : Int} {T : Nat → Prop} {L : Nat} (g1 : NgW w n d most X) (g2 : NgB w X 0 0 0 0) (g3 : ∀ k, T k → w.heap.size + 5 ≤ k) (g4 : w.heap.size + 5 ≤ X.heap.size) (hL : L = w.heap.size + 5) (hbk : Books L X) (ht : ∀ k, T k → k < X.heap.size) (hb : Below X.heap.size X w1) (hn : NbR n d most a b c f) :
    Same2 L X (ngSt w w1 a b c f) ∧ Kept T none1 X (ngSt w w1 a b c f) ∧ NgX w n d most T (ngSt w w1 a b c f) := by
  obtain ⟨⟨o, e1, _⟩, ⟨p, e2, _⟩⟩ := hbk
  have l1 := (Array.getElem?_eq_some_iff.1 e1).1
  have l2 := (Array.getElem?_eq_some_iff.1 e2).1
  have hs : X.heap.size ≤ (ngSt w w1 a b c f).heap.size := by rw [ngSt_size]; exact hb.size
  have blk : ∀ k, k < X.heap.size → k ≠ w.heap.size + 1 + 1 → k ≠ w.heap.size + 1 + 1 + 1 → (ngSt w w1 a b c f).heap[k]? = X.heap[k]? := fun k hk h1 h2 => (ngSt_block w w1 a b c f h1 h2).trans (hb.block k hk)
  refine ⟨⟨blk _ l1 (by omega) (by omega), blk _ l2 (by omega) (by omega), hs⟩, ⟨hb.os, hb.tape, hb.output, hs, fun k hk => blk k (ht k hk) (by have := g3 k hk; omega) (by have := g3 k hk; omega), fun k hk => hk.elim⟩, a, b, c, f, hn, g1.blk hs hb.os hb.tape hb.output (fun k k1 k2 => blk k k2 (by omega) (by omega)) (by omega), ?_, g3, Nat.le_trans g4 hs⟩
  exact ngSt_box a b c f (show NgB w w1 0 0 0 0 from ⟨g2.1.keep hb, g2.2.keep hb⟩)
theorem ng_put {w X : World} {a b c f : Int} {D : Nat} {o : Obj} (h : NgB w X a b c f) (hb : Below w.heap.size w X) (hD : D = w.heap.size + 5) : Box2 (X.putObj D o) (w.heap.size + 1 + 1) a b ∧ Box2 (X.putObj D o) (w.heap.size + 1 + 1 + 1) c f ∧ Below w.heap.size w (X.putObj D o) :=
  ⟨h.1.of_block (by simp) (World.putObj_heap_other (by omega)), h.2.of_block (by simp) (World.putObj_heap_other (by omega)), hb.grown (grownBy_putObj' X D o) hb.size (fun k e => by cases e; omega)⟩
theorem cmpR_m1 {n d p q : Int} (h1 : okR n d = true) (h2 : okR p q = true) (h : n * q < p * d) : cmpR n d p q = -1 := by rw [← cmpR_yes h1 h2, ← cmpV_lt h]
theorem cmpR_p1 {n d p q : Int} (h1 : okR n d = true) (h2 : okR p q = true) (h : p * d < n * q) : cmpR n d p q = 1 := by rw [← cmpR_yes h1 h2, ← cmpV_gt h]
theorem ng_start (w : World) (n d most : Int) : NgI w n d most [] none1 (ngW w n d most) := by
  refine ⟨⟨?_, ?_, ?_⟩, ⟨?_, ?_⟩, fun k hk => hk.elim, by simp [ngW], fun c hc => by cases hc⟩
  · exact ((((Box2.new w n d 25).alloc _).alloc _).alloc _).alloc _
  · simp [ngW, go_sem]
  · exact bA (bA (bA (bA (bA (bR _) _) _) _) _) _
  · have := ((Box2.new ((w.alloc (.cells #[.int .i64 n, .int .i64 d] 25)).alloc (.cells #[.int .i64 most] 2)) 0 0 25).alloc (.cells #[.int .i64 0, .int .i64 0] 25)).alloc (.cells #[.int .i64 n, .int .i64 d] 25)
    rw [World.size_alloc, World.size_alloc] at this
    exact this
  · have := (Box2.new (((w.alloc (.cells #[.int .i64 n, .int .i64 d] 25)).alloc (.cells #[.int .i64 most] 2)).alloc (.cells #[.int .i64 0, .int .i64 0] 25)) 0 0 25).alloc (.cells #[.int .i64 n, .int .i64 d] 25)
    rw [World.size_alloc, World.size_alloc, World.size_alloc] at this
    exact this
set_option maxRecDepth 100000 in
set_option maxHeartbeats 8000000 in
theorem neighbours_any (n d most : Int) (w : World) (hok : okR n d = true) (hm : 1 ≤ most) (hm2 : most ≤ 1000000000) :
    Calls Try.prog 27 #[.agg #[.int .i64 n, .int .i64 d], .int .i64 most] w (Nb2 n d most w) := by
  have HOK := Lib.hid hok
  obtain ⟨o1, o2, o3, o4⟩ := okR_bd hok
  clear hok
  refine (callsIn_wide (n := 8)).1 ?_
  refine callsIn_of_wp_marks Try.func27 rfl trivial ?_ rfl
  simp only [Try.ntmps27, List.size_toArray, List.length_cons, List.length_nil, Nat.reduceAdd, Nat.reduceSub, Array.replicate_succ, Array.replicate_zero, List.push_toArray, List.append_toArray, List.nil_append, List.cons_append]
  gi_wp2_with fail
  refine ⟨trivial, ?_⟩
  refine (callsIn_wide.2 (convergents_any _ _ _)).mono ?_
  rintro e w2 ⟨rfl, rfl⟩
  gi_wp2_with fail
  have hP := Lib.hid (convP n d (w.heap.size + 4) (ngW w n d most) HOK.out (by simp [ngW]) (by simp [ngW, go_sem]) (by simp [ngW, go_sem]))
  have H0 := Lib.hid (ng_start w n d most)
  have S5 := Lib.hid (show (ngW w n d most).heap.size = w.heap.size + 5 by simp [ngW])
  change Code.wpIn _ _ _ _ _ _ (ngW w n d most)
  generalize ngW w n d most = W5 at *
  refine rf_law 6 rfl rfl (gf := 41) rfl trivial (enters_of Try.func41 (by kernel_rfl) rfl) hP.out (fun _ h => h.elim) (bR _) (fun _ => rfl) (NgI w n d most) (fun c _ T X => c = .ret ∧ NgX w n d most T X) (ngI_ab w n d most) (fun c s T T' X X' h hm ht => ⟨h.1, ngX_ab w n d most s T T' X X' h.2 hm ht⟩)
    (fun T => ngI_turn S5.out n d most T) (fun c T s X o o' h ho hc => ⟨h.1, ngX_turn S5.out n d most T s X o o' h.2 ho hc⟩) H0.out
    (NgAx w fun u v x => { tmps := #[.agg #[.int .i64 n, .int .i64 d], .int .i64 most, .pointer (some ⟨w.heap.size, 0, none⟩), .pointer (some ⟨w.heap.size + 1, 0, none⟩), .pointer (some ⟨w.heap.size + 1 + 1, 0, none⟩), .pointer (some ⟨w.heap.size + 1 + 1 + 1, 0, none⟩), .pointer (some ⟨u, 0, none⟩), .pointer (some ⟨v, 0, none⟩), undef, undef, .agg #[.int .i64 n, .int .i64 d], .func (.func 41) #[] #[.pointer (some ⟨w.heap.size + 1 + 1 + 1 + 1, 0, none⟩)], .agg #[.int .i64 x.1.1, .int .i64 x.1.2], .agg #[.int .i64 x.2.1, .int .i64 x.2.2], undef, undef, undef, undef, undef, undef, undef, undef, undef, undef, undef, undef, undef, undef, undef, undef, undef, undef, undef, undef, undef, undef, undef, undef, undef, undef, undef, undef, undef, undef, undef, undef, undef, undef, undef, undef, undef, undef, undef, undef], defers := [] }) (ngAx_turn _ _ _) ?assign ?body ?done ?stop
  case assign =>
    rintro lr pre ⟨⟨b1, b2⟩, ⟨l1, l2⟩⟩ T X K hi' ht hK
    have HI := Lib.hid hi'
    have HTT := Lib.hid ht
    have HK := Lib.hid hK
    have hs := hi'.2.2.2.1
    clear hi' ht hK
    simp only [encPP]
    gi_wp2_with fail
    obtain ⟨t1, t2, t3⟩ := two_box X b1 b2 l1 l2 25
    exact HK.out _ _ t3 (ngI_ab w n d most _ _ _ _ _ HI.out (Mov.of_below t3) (fun k hk => ⟨.inl hk, by have := (HTT.out k hk).1; simp; omega⟩)) ⟨_, _, rfl, t1, t2, by omega, by omega⟩
  case body =>
    rintro lr pre ⟨⟨b1, b2⟩, ⟨l1, l2⟩⟩ a' T X hsp ⟨g1, g2, g3, g4, g5⟩ ht hbk ⟨u, v, rfl, hu, hv, hu5, hv5⟩ hln
    obtain ⟨tp, t, rest, hts, hpre, hx⟩ := conv_in hsp
    obtain ⟨q1, q2, q3, q4, q5, q6, q7, q8⟩ := st_bd HOK.out hts
    rw [← hx] at q1 q2 q3 q4 q5 q6 q7 q8
    simp only [] at q1 q2 q3 q4 q5 q6 q7 q8
    have G1 := Lib.hid g1
    have G2 := Lib.hid g2
    have G3 := Lib.hid g3
    have G4 := Lib.hid g4
    have G5 := Lib.hid g5
    have HT := Lib.hid ht
    have HBK := Lib.hid hbk
    have HSP := Lib.hid hsp
    have m0 := g1.m
    have HU := Lib.hid hu
    have HV := Lib.hid hv
    obtain ⟨u0, u1, u2, u3, u4⟩ := hu
    obtain ⟨v0, v1, v2, v3, v4⟩ := hv
    clear hts hpre hx g1 g2 g3 g5 ht hbk hsp
    by_cases hle : l2 ≤ most
    · gi_wp2_with fail
      refine ⟨⟨rfl, rfl, Nat.le_refl _⟩, ⟨rfl, rfl, rfl, Nat.le_refl _, fun _ _ => rfl, fun _ _ => rfl⟩, G1.out, G2.out, G3.out, G4.out, fun c hc => ?_⟩
      rcases List.mem_append.1 hc with h | h
      · exact G5.out c h
      · rw [List.mem_singleton.1 h]; exact hle
    · obtain ⟨c1, c2, c3, c4, c5, c6⟩ := conv_nb HOK.out HSP.out hm G5.out (by omega)
      have hz : ¬ b2 = 0 := by omega
      rcases c6 with hnb | hnb
      · obtain ⟨n1, n2⟩ := hnb.bd o1
        unfold takes at *
        have HNB := Lib.hid hnb
        obtain ⟨p1, p2⟩ := NbR.ok HOK.out hm2 (.inr hnb)
        have HC := Lib.hid (cmpR_m1 p1 p2 (by have := hnb.det; omega))
        clear hnb p1 p2
        gi_wp2_with fail
        generalize (l2 - most + b2 - 1) / b2 = k at *
        refine ⟨trivial, ?_⟩
        refine (CallsIn.inRound _ (callsIn_wide.2 (CompareRatioI_any _ _ _ _ _))).mono ?_
        rw [HC.out]
        rintro e w1 ⟨rfl, hb1⟩
        have U1 := Lib.hid ((HU.out.alloc (.cells #[.int .i64 (l1 - k * b1), .int .i64 (l2 - k * b2)] 25)).keep hb1)
        have O1 := Lib.hid ((Box2.new X (l1 - k * b1) (l2 - k * b2) 25).keep hb1)
        have BL := Lib.hid (bT (bA (bR X) (.cells #[.int .i64 (l1 - k * b1), .int .i64 (l2 - k * b2)] 25)) hb1)
        have R1 := Lib.hid (G2.out.1.keep BL.out)
        have R2 := Lib.hid (G2.out.2.keep BL.out)
        have hz1 : ¬ u = w.heap.size + 1 + 1 := by omega
        have hz2 : ¬ u = w.heap.size + 1 + 1 + 1 := by omega
        have hz3 : ¬ X.heap.size = w.heap.size + 1 + 1 := by omega
        have hz4 : ¬ X.heap.size = w.heap.size + 1 + 1 + 1 := by omega
        clear hb1 u0 u1 u2 u3 v0 v1 v2 v3 v4 m0
        obtain ⟨u0, u1, u2, u3, u5⟩ := U1.out
        obtain ⟨x0, x1, x2, x3, x4⟩ := O1.out
        obtain ⟨y0, y1, y2, y3, y4⟩ := R1.out
        obtain ⟨z0, z1, z2, z3, z4⟩ := R2.out
        gi_wp2_with fail
        gi_region
        all_goals
          gi_wp2_with fail
          obtain ⟨e1, e2, e3⟩ := ng_end G1.out G2.out G3.out G4.out S5.out HBK.out (fun k hk => (HT.out k hk).1) BL.out (.inr HNB.out)
          exact ⟨e1, e2, rfl, e3⟩
      · obtain ⟨n1, n2⟩ := hnb.bd o1
        unfold takes at *
        have HNB := Lib.hid hnb
        obtain ⟨p1, p2⟩ := NbR.ok HOK.out hm2 (.inr hnb)
        have HC := Lib.hid (cmpR_p1 p2 p1 (by have := hnb.det; omega))
        clear hnb p1 p2
        gi_wp2_with fail
        generalize (l2 - most + b2 - 1) / b2 = k at *
        refine ⟨trivial, ?_⟩
        refine (CallsIn.inRound _ (callsIn_wide.2 (CompareRatioI_any _ _ _ _ _))).mono ?_
        rw [HC.out]
        rintro e w1 ⟨rfl, hb1⟩
        have U1 := Lib.hid ((HU.out.alloc (.cells #[.int .i64 (l1 - k * b1), .int .i64 (l2 - k * b2)] 25)).keep hb1)
        have O1 := Lib.hid ((Box2.new X (l1 - k * b1) (l2 - k * b2) 25).keep hb1)
        have BL := Lib.hid (bT (bA (bR X) (.cells #[.int .i64 (l1 - k * b1), .int .i64 (l2 - k * b2)] 25)) hb1)
        have R1 := Lib.hid (G2.out.1.keep BL.out)
        have R2 := Lib.hid (G2.out.2.keep BL.out)
        have hz1 : ¬ u = w.heap.size + 1 + 1 := by omega
        have hz2 : ¬ u = w.heap.size + 1 + 1 + 1 := by omega
        have hz3 : ¬ X.heap.size = w.heap.size + 1 + 1 := by omega
        have hz4 : ¬ X.heap.size = w.heap.size + 1 + 1 + 1 := by omega
        clear hb1 u0 u1 u2 u3 v0 v1 v2 v3 v4 m0
        obtain ⟨u0, u1, u2, u3, u5⟩ := U1.out
        obtain ⟨x0, x1, x2, x3, x4⟩ := O1.out
        obtain ⟨y0, y1, y2, y3, y4⟩ := R1.out
        obtain ⟨z0, z1, z2, z3, z4⟩ := R2.out
        gi_wp2_with fail
        gi_region
        all_goals
          gi_wp2_with fail
          obtain ⟨e1, e2, e3⟩ := ng_end G1.out G2.out G3.out G4.out S5.out HBK.out (fun k hk => (HT.out k hk).1) BL.out (.inr HNB.out)
          exact ⟨e1, e2, rfl, e3⟩
  case done =>
    rintro D xs T X hD rfl ⟨g1, g2, g3, g4, g5⟩ hK
    have HNB := Lib.hid (show NbR n d most n d n d from .inl ⟨conv_den HOK.out g5, rfl, rfl, rfl, rfl⟩)
    have BL := Lib.hid (g1.bel)
    have hD' : D = w.heap.size + 5 := by rw [hD, S5.out]
    obtain ⟨u0, u1, u2, u3, u4⟩ := g1.r
    obtain ⟨y0, y1, y2, y3, y4⟩ := g2.1
    obtain ⟨z0, z1, z2, z3, z4⟩ := g2.2
    have FB := Lib.hid (ngSt_box n d n d g2)
    have FK := Lib.hid ((ngSt_block w X n d n d (k := D) (by omega) (by omega)).trans hK)
    have FL := Lib.hid (show Below w.heap.size w (ngSt w X n d n d) from ((((BL.out.setCell (show w.heap.size ≤ w.heap.size + 1 + 1 by omega) _).setCell (show w.heap.size ≤ w.heap.size + 1 + 1 by omega) _).setCell (show w.heap.size ≤ w.heap.size + 1 + 1 + 1 by omega) _).setCell (show w.heap.size ≤ w.heap.size + 1 + 1 + 1 by omega) _).drew)
    clear g1 g2 g3 g5 hK
    gi_wp2_with fail
    gi_region
    all_goals
      gi_wp2_with fail
      change bodyPostM _ _ _ _ _ _ _ (ngSt w X n d n d)
      generalize ngSt w X n d n d = X2 at *
      obtain ⟨p1, p2, p3⟩ := ng_put FB.out FL.out hD'
      refine ⟨by simp, .inl ⟨_, _, rfl, run_takeDeferred FK.out, ?_⟩⟩
      refine ⟨.tuple #[.agg #[.int .i64 n, .int .i64 d], .agg #[.int .i64 n, .int .i64 d]], ?_, n, d, n, d, HNB.out, rfl, p3⟩
      have e0 := p1.c0
      have e1 := p1.c1
      have e2 := p2.c0
      have e3 := p2.c1
      simp [results, Try.results27, go_sem, e0, e1, e2, e3]
  case stop =>
    rintro D c pre T X hD hsp ⟨rfl, a, b, c', f, hnb, g1, g2, g3, g4⟩ hK
    have HNB := Lib.hid hnb
    have BL := Lib.hid (g1.bel)
    have hD' : D = w.heap.size + 5 := by rw [hD, S5.out]
    have GB := Lib.hid g2
    clear g1 g2 g3 hnb hsp
    gi_wp2_with fail
    obtain ⟨p1, p2, p3⟩ := ng_put GB.out BL.out hD'
    refine ⟨by simp, .inl ⟨_, _, rfl, run_takeDeferred hK, ?_⟩⟩
    refine ⟨.tuple #[.agg #[.int .i64 a, .int .i64 b], .agg #[.int .i64 c', .int .i64 f]], ?_, _, _, _, _, HNB.out, rfl, p3⟩
    have e0 := p1.c0
    have e1 := p1.c1
    have e2 := p2.c0
    have e3 := p2.c1
    simp [results, Try.results27, go_sem, e0, e1, e2, e3]
end Go.Proofs.Ytldjplopglpgfaa

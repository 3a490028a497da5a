/-
  The contract of impl.RatioOfTerms: the loop over the terms from the end on.
-/
import Derived.Test.YtldjplopglpgfaaRtI
namespace Go.Proofs.Ytldjplopglpgfaa
open Go.RowKit Go.Shelf
attribute [local go_sem] Oper.semAt_some

theorem bk_next {ts : List Int} {pre : List (Int × Int)} {x : Int × Int} {k n : Nat} (h : backL ts n = pre ++ backL ts k) (hp : pre ++ [x] <+: backL ts n) : ∃ j, k = j + 1 ∧ x = ((j : Int), at0 ts j) := by
  obtain ⟨rest, hr⟩ := hp
  rw [h, List.append_assoc] at hr
  have := List.append_cancel_left hr
  cases k with
  | zero => simp [backL] at this
  | succ j => simp [backL] at this; exact ⟨j, rfl, this.1⟩
theorem rt_steps {X w1 : World} {b : Nat} {u v : Value} (hb : Below ((X.setCell ⟨b, 0, none⟩ u).setCell ⟨b, 1, none⟩ v).heap.size ((X.setCell ⟨b, 0, none⟩ u).setCell ⟨b, 1, none⟩ v) w1) :
    (∀ k, k < X.heap.size → k ≠ b → w1.heap[k]? = X.heap[k]?) ∧ X.heap.size ≤ w1.heap.size ∧ w1.os = X.os ∧ w1.tape = X.tape ∧ w1.output = X.output := by
  have hs : ((X.setCell ⟨b, 0, none⟩ u).setCell ⟨b, 1, none⟩ v).heap.size = X.heap.size := by simp [World.setCell]
  refine ⟨fun k hk hn => ?_, by have := hb.size; omega, hb.os, hb.tape, hb.output⟩
  rw [hb.block k (by omega), Below.heap_setCell _ _ _ _ hn, Below.heap_setCell _ _ _ _ hn]
theorem rt_ret {w X : World} {ts : List Int} {pre : List (Int × Int)} {T : Nat → Prop} (b2 : Box2 X w.heap.size 0 0) (c : Int) (b3 : Box1 X (w.heap.size + 1) c) (own : ∀ j, T j → w.heap.size + 4 ≤ j) (size : w.heap.size + 4 ≤ X.heap.size) (bel : Below w.heap.size w X) (bad : cfR ts = none) :
    RtX w ts .ret pre T (((X.setCell ⟨w.heap.size, 0, none⟩ (.int .i64 0)).setCell ⟨w.heap.size, 1, none⟩ (.int .i64 0)).setCell ⟨w.heap.size + 1, 0, none⟩ (.int .i64 2)) :=
  ⟨rfl, bad, (b2.set 0 0).other (by omega), ((b3.other (by omega)).other (by omega)).set 2, own, by simpa [World.setCell] using size, ((bel.setCell (by simp) _).setCell (by simp) _).setCell (by simp) _⟩
theorem three_others (X : World) (a b c : Addr) (u v t : Value) : KeepsOthers X (((X.setCell a u).setCell b v).setCell c t) := ((KeepsOthers.setCell _ _ _).trans (KeepsOthers.setCell _ _ _)).trans (KeepsOthers.setCell _ _ _)
theorem rt_next {w X w1 : World} {ts : List Int} {pre : List (Int × Int)} {T Fx : Nat → Prop} {j : Nat} {x y : Int} (h : RtI w ts pre T X (j + 1) x y) (ht : ∀ k, T k → k < X.heap.size) (hFx : ∀ k, Fx k → k < w.heap.size + 4 ∧ k ≠ w.heap.size + 1 + 1) (hbk : Books (w.heap.size + 4) X) (htd : ts.drop j = at0 ts j :: ts.drop (j + 1)) (i1 : inT (at0 ts j) = true) (i2 : inT (at0 ts j * x + y) = true) (i3 : inT x = true)
    (hb : Below ((X.setCell ⟨w.heap.size + 1 + 1, 0, none⟩ (.int .i64 (at0 ts j * x + y))).setCell ⟨w.heap.size + 1 + 1, 1, none⟩ (.int .i64 x)).heap.size ((X.setCell ⟨w.heap.size + 1 + 1, 0, none⟩ (.int .i64 (at0 ts j * x + y))).setCell ⟨w.heap.size + 1 + 1, 1, none⟩ (.int .i64 x)) w1) :
    Same2 (w.heap.size + 4) X w1 ∧ Kept T Fx X w1 ∧ RtJ w ts (pre ++ [((j : Int), at0 ts j)]) T w1 := by
  obtain ⟨k1, k2, k3, k4, k5⟩ := rt_steps hb
  have hsz := h.size
  obtain ⟨⟨o, ho, _⟩, o2, ho2, _⟩ := hbk
  have l1 := (Array.getElem?_eq_some_iff.1 ho).1
  have l2 := (Array.getElem?_eq_some_iff.1 ho2).1
  refine ⟨⟨k1 _ l1 (by omega), k1 _ l2 (by omega), k2⟩, ⟨k3, k4, k5, k2, fun k hk => k1 k (ht k hk) (by have := h.own k hk; omega), fun k hk => k1 k (by have := hFx k hk; omega) (hFx k hk).2⟩, j, at0 ts j * x + y, x, by have := h.hk; omega, by rw [h.hpre]; simp [backL], by rw [htd]; exact cfR_cons_yes h.cf i1 i2 i3, (h.r.set _ _).keep hb, h.b2.of_block k2 (k1 _ (by omega) (by omega)), h.b3.of_block k2 (k1 _ (by omega) (by omega)), h.own, by omega, ?_⟩
  exact ⟨k3.trans h.bel.os, k4.trans h.bel.tape, k5.trans h.bel.output, Nat.le_trans h.bel.size k2, fun k hk => (k1 k (by omega) (by omega)).trans (h.bel.block k hk)⟩
theorem rt_kept {w X W1 : World} {T Fx : Nat → Prop} (own : ∀ j, T j → w.heap.size + 4 ≤ j) (hFx : ∀ k, Fx k → k ≠ w.heap.size ∧ k ≠ w.heap.size + 1) (h : Kept T Fx X W1) (u v t : Value) :
    Kept T Fx X (((W1.setCell ⟨w.heap.size, 0, none⟩ u).setCell ⟨w.heap.size, 1, none⟩ v).setCell ⟨w.heap.size + 1, 0, none⟩ t) := by
  have e : ∀ k, k ≠ w.heap.size → k ≠ w.heap.size + 1 → (((W1.setCell ⟨w.heap.size, 0, none⟩ u).setCell ⟨w.heap.size, 1, none⟩ v).setCell ⟨w.heap.size + 1, 0, none⟩ t).heap[k]? = W1.heap[k]? :=
    fun k h1 h2 => (Below.heap_setCell _ _ _ _ h2).trans ((Below.heap_setCell _ _ _ _ h1).trans (Below.heap_setCell _ _ _ _ h1))
  exact ⟨h.os, h.tape, h.output, by simpa [World.setCell] using h.size, fun k hk => (e k (by have := own k hk; omega) (by have := own k hk; omega)).trans (h.mine k hk), fun k hk => (e k (hFx k hk).1 (hFx k hk).2).trans (h.read k hk)⟩
theorem kept_refl (T Fx : Nat → Prop) (X : World) : Kept T Fx X X := ⟨rfl, rfl, rfl, Nat.le_refl _, fun _ _ => rfl, fun _ _ => rfl⟩
theorem ok_next {t x y : Int} (hx : 1 ≤ x) (hx2 : x ≤ 1000000000) (hg : Int.gcd x y = 1) : okR (t * x + y) x = inT (t * x + y) := by
  rw [Bool.eq_iff_iff, okR_true, inT_iff]
  have e : Int.gcd (t * x + y) x = 1 := by rw [Int.gcd_comm, Int.add_comm, Int.gcd_add_mul_right_right]; exact hg
  constructor
  · intro h; exact ⟨h.2.2.1, h.2.2.2.1⟩
  · intro h; exact ⟨hx, hx2, h.1, h.2, e⟩
set_option maxRecDepth 100000 in
set_option maxHeartbeats 8000000 in
theorem rtI_more (ts : List Int) (g : Nat) (w : World) (m c : Nat) (hm : ts.length = m + 1) (hm0 : ¬ c + 1 = 1) (hmc : m ≤ c) (_hc9 : c ≤ 9223372036854775806) (hg : g < w.heap.size) (hc : IntsAt w g ts) (hlen : ts.length ≤ 1000000000000) (hbd : ∀ u ∈ ts, -9223372036854775808 ≤ u ∧ u ≤ 9223372036854775807) :
    Calls Try.prog 8 #[.slice (some ⟨g, 0, none⟩) (m + 1) (c + 1)] w (RtRet w ts) := by
  refine (callsIn_wide (n := 8)).1 ?_
  obtain ⟨f1, f2, f3, f4⟩ := rtW_facts w
  have F1 := Lib.hid f1
  have F2 := Lib.hid f2
  have F3 := Lib.hid f3
  have F4 := Lib.hid f4
  have HC := Lib.hid (hc.keep hg f3)
  have HBD := Lib.hid hbd
  have HA := Lib.hid (any_tail ts (by omega))
  have HM := Lib.hid hm
  have hdl : (ts.drop 1).length = m := by simp; omega
  have HD := Lib.hid hdl
  have hm6 : m ≤ 1000000000000 := by omega
  have HCALL : Calls Try.prog 21 #[.slice (some ⟨g, 1, none⟩) m c, .func (.func 22) #[] #[]] (rtW w) (HasRet (rtW w) (ts.drop 1)) := by
    have := ContainsFunc_any (ts.drop 1) g 1 c (rtW w) (drop_ints HC.out) (by omega)
    rwa [hdl] at this
  have HCL := Lib.hid HCALL
  have hmc1 : m + 1 ≤ c + 1 := by omega
  have hmc2 : (m : Int) + 1 ≤ (c : Int) + 1 := by omega
  have hne : ((m : Int) + 1 == 0) = false := by rw [beq_eq_false_iff_ne]; omega
  clear HCALL hc hbd hm hdl f1 f2 f3 f4
  skip
  refine callsIn_of_wp_marks Try.func8 rfl trivial ?_ rfl
  simp only [Try.ntmps8, List.size_toArray, List.length_cons, List.length_nil, Nat.reduceAdd, Nat.reduceSub, Array.replicate_succ, Array.replicate_zero, List.push_toArray, List.append_toArray, List.nil_append, List.cons_append]
  gi_wp2_with fail
  refine ⟨trivial, ?_⟩
  change CallsIn _ _ _ _ _ (rtW w) _
  refine (callsIn_wide.2 HCL.out).mono ?_
  clear HCL
  rintro e w1 ⟨rfl, rfl⟩
  generalize rtW w = W0 at *
  obtain ⟨r0, r1, r2, r3, r4⟩ := F1.out
  obtain ⟨s0, s1, s2⟩ := F2.out
  cases hany : (ts.drop 1).any fun u => decide (u ≤ 0)
  · have hok : rtOk ts = true := by rw [HA.out, hany]; rfl
    have H := Lib.hid (rt_yes hok)
    have HP := Lib.hid (rtOk_pos hok).2
    clear hok hany
    gi_wp2_with fail
    refine ⟨trivial, ?_⟩
    refine (callsIn_wide.2 (Backward_any _ _ ⟨_, _, _, rfl⟩)).mono ?_
    rintro e w1 ⟨rfl, rfl⟩
    gi_wp2_with fail
    rw [F4.out]
    have f4 := F4.out
    have G1 := Lib.hid ((F1.out.alloc (.cells #[.int .i64 1, .int .i64 0] 25)).alloc (.cells #[.slice (some ⟨g, 0, none⟩) (m + 1) (c + 1)] 28))
    have G2 := Lib.hid ((F2.out.keep (bA (bR _) (.cells #[.int .i64 1, .int .i64 0] 25))).keep (bA (bR _) (.cells #[.slice (some ⟨g, 0, none⟩) (m + 1) (c + 1)] 28)))
    have G3 := Lib.hid (show Box2 ((W0.alloc (.cells #[.int .i64 1, .int .i64 0] 25)).alloc (.cells #[.slice (some ⟨g, 0, none⟩) (m + 1) (c + 1)] 28)) (w.heap.size + 1 + 1) 1 0 by have := (Box2.new W0 1 0 25).alloc (.cells #[.slice (some ⟨g, 0, none⟩) (m + 1) (c + 1)] 28); rwa [f4] at this)
    have G4 := Lib.hid (bA (bA F3.out (.cells #[.int .i64 1, .int .i64 0] 25)) (.cells #[.slice (some ⟨g, 0, none⟩) (m + 1) (c + 1)] 28))
    have G5 := Lib.hid (show ((W0.alloc (.cells #[.int .i64 1, .int .i64 0] 25)).alloc (.cells #[.slice (some ⟨g, 0, none⟩) (m + 1) (c + 1)] 28)).heap.size = w.heap.size + 4 by simp [f4])
    have G6 := Lib.hid (show ((W0.alloc (.cells #[.int .i64 1, .int .i64 0] 25)).alloc (.cells #[.slice (some ⟨g, 0, none⟩) (m + 1) (c + 1)] 28)).cell? ⟨w.heap.size + 1 + 1 + 1, 0, none⟩ = some (.slice (some ⟨g, 0, none⟩) ts.length (c + 1)) by
      have e : w.heap.size + 1 + 1 + 1 = (W0.alloc (.cells #[.int .i64 1, .int .i64 0] 25)).heap.size := by simp [f4]
      rw [e, HM.out]; simp [go_sem])
    have G7 := Lib.hid ((HC.out.keep (by omega) (bA (bR _) (.cells #[.int .i64 1, .int .i64 0] 25))).keep (by simp; omega) (bA (bR _) (.cells #[.slice (some ⟨g, 0, none⟩) (m + 1) (c + 1)] 28)))
    clear r0 r1 r2 r3 r4 s0 s1 s2 F1 F2 F3 F4 HC f4
    generalize (W0.alloc (.cells #[.int .i64 1, .int .i64 0] 25)).alloc (.cells #[.slice (some ⟨g, 0, none⟩) (m + 1) (c + 1)] 28) = W2 at *
    have hsz := G5.out
    have HS := Lib.hid (backP ts (w.heap.size + 1 + 1 + 1) g (c + 1) W2 hlen (by omega) (by omega) G6.out G7.out)
    refine rf_law 6 rfl rfl (gf := 40) rfl trivial (enters_of Try.func40 (by kernel_rfl) rfl) HS.out (fun k hk => by rcases hk with h | h <;> omega) (bR _) (fun _ => rfl) (RtJ w ts) (RtX w ts) (rtJ_ab w ts) (rtX_ab w ts) (fun T => by rw [G5.out]; exact rtJ_turn w ts T) (fun c T => by rw [G5.out]; exact rtX_turn w ts c T)
      ⟨ts.length, 1, 0, Nat.le_refl _, rfl, by rw [List.drop_of_length_le (Nat.le_refl _)]; rfl, G3.out, G1.out, G2.out, fun j hj => hj.elim, by omega, G4.out⟩
      (fun x a' _ => a' = { tmps := #[.slice (some ⟨g, 0, none⟩) (m + 1) (c + 1), undef, .pointer (some ⟨w.heap.size, 0, none⟩), .pointer (some ⟨w.heap.size + 1, 0, none⟩), .pointer (some ⟨w.heap.size + 1 + 1, 0, none⟩), undef, .int .i64 x.2, .slice (some ⟨g, 0, none⟩) (m + 1) (c + 1), .int .i64 ((m : Int) + 1), .bool false, .bool false, .slice (some ⟨g, 0, none⟩) (m + 1) (c + 1), .slice (some ⟨g, 1, none⟩) m c, .bool false, .bool false, undef, .agg #[.int .i64 1, .int .i64 0], .slice (some ⟨g, 0, none⟩) (m + 1) (c + 1), .func (.func 40) #[] #[.pointer (some ⟨w.heap.size + 1 + 1 + 1, 0, none⟩)], .int .i64 x.1, .int .i64 x.2, undef, undef, undef, undef, undef, undef, undef, undef, undef, undef, undef, undef, undef, undef, undef, undef, undef, undef, undef, undef, undef, undef], defers := [] }) (fun _ _ _ _ _ h _ _ => h) ?assign ?body ?done ?stop
    case assign =>
      intro l pre x T X K hi' ht hK
      simp only [encBk]
      gi_wp2
      exact hK _ _ (bR _) hi' rfl
    case body =>
      rintro l pre x a' T X hsp ⟨k, p, q, h⟩ ht hbk rfl _
      obtain ⟨j, rfl, rfl⟩ := bk_next h.hpre hsp
      obtain ⟨i1, i2, i3, i4, i5⟩ := cfR_inv _ _ _ (tail_pos HP.out (by omega)) h.cf
      have hjl : j < ts.length := by have := h.hk; omega
      have htd := drop_cons' hjl
      have HH := Lib.hid h
      have HT := Lib.hid ht
      have HI := Lib.hid i1
      have HTD := Lib.hid htd
      have HBK := Lib.hid (show Books (w.heap.size + 4) X by rw [← G5.out]; exact hbk)
      obtain ⟨bd1, bd2⟩ := HBD.out _ (at0_mem hjl)
      obtain ⟨r0, r1, r2, r3, r4⟩ := h.r
      obtain ⟨s0, s1, s2, s3, s4⟩ := h.b2
      obtain ⟨u0, u1, u2⟩ := h.b3
      clear h ht i1 htd hbk hsp
      dsimp only
      by_cases hlo : at0 ts j < -1000000000
      · have R := Lib.hid (rt_ret (pre := pre ++ [((j : Int), at0 ts j)]) HH.out.b2 0 HH.out.b3 HH.out.own HH.out.size HH.out.bel (cfR_none j ts (by rw [HTD.out]; exact cfR_cons_no1 (by simp [inT]; omega))))
        have KT := Lib.hid (rt_kept (Fx := fun k => k = w.heap.size + 1 + 1 + 1 ∨ k = g) HH.out.own (fun k hk => by rcases hk with h | h <;> omega) (kept_refl T _ X) (.int .i64 0) (.int .i64 0) (.int .i64 2))
        generalize at0 ts j = t at *
        gi_wp2_with fail
        exact ⟨by first | exact same2_of HBK.out (three_others _ _ _ _ _ _ _) | (rw [G5.out]; exact same2_of HBK.out (three_others _ _ _ _ _ _ _)), KT.out, R.out⟩
      · by_cases hhi : 1000000000 < at0 ts j
        · have R := Lib.hid (rt_ret (pre := pre ++ [((j : Int), at0 ts j)]) HH.out.b2 0 HH.out.b3 HH.out.own HH.out.size HH.out.bel (cfR_none j ts (by rw [HTD.out]; exact cfR_cons_no1 (by simp [inT]; omega))))
          have KT := Lib.hid (rt_kept (Fx := fun k => k = w.heap.size + 1 + 1 + 1 ∨ k = g) HH.out.own (fun k hk => by rcases hk with h | h <;> omega) (kept_refl T _ X) (.int .i64 0) (.int .i64 0) (.int .i64 2))
          generalize at0 ts j = t at *
          gi_wp2_with fail
          exact ⟨by first | exact same2_of HBK.out (three_others _ _ _ _ _ _ _) | (rw [G5.out]; exact same2_of HBK.out (three_others _ _ _ _ _ _ _)), KT.out, R.out⟩
        · have ht1 : inT (at0 ts j) = true := inT_of (by omega) (by omega)
          obtain ⟨m1, m2⟩ := mul_bd (show -1000000000 ≤ at0 ts j by omega) (by omega) (show -1000000000 ≤ p by omega) i4
          have HO := Lib.hid (ok_next (t := at0 ts j) i2 i4 HI.out)
          have NX := Lib.hid (fun (h2 : inT (at0 ts j * p + q) = true) w1 => rt_next (Fx := fun k => k = w.heap.size + 1 + 1 + 1 ∨ k = g) (w1 := w1) HH.out (fun k hk => (HT.out k hk).1) (fun k hk => by rcases hk with h | h <;> omega) HBK.out HTD.out ht1 h2 (inT_of (by omega) i4))
          have NB := Lib.hid (fun (h2 : inT (at0 ts j * p + q) = false) => cfR_none j ts (by rw [HTD.out]; exact cfR_cons_no2 HH.out.cf h2))
          generalize at0 ts j = t at *
          gi_wp2_with fail
          refine ⟨trivial, ?_⟩
          refine (CallsIn.inRound l (callsIn_wide.2 (valid_any _ _ _))).mono ?_
          rintro e w1 ⟨rfl, hb1⟩
          rw [HO.out]
          cases h2 : inT (t * p + q)
          · have X2 := (rt_steps hb1)
            have hsX := HH.out.size
            have P1 := HH.out.b2.of_block X2.2.1 (X2.1 _ (by omega) (by omega))
            have P2 := HH.out.b3.of_block X2.2.1 (X2.1 _ (by omega) (by omega))
            have P3 : Below w.heap.size w w1 := ⟨X2.2.2.1.trans HH.out.bel.os, X2.2.2.2.1.trans HH.out.bel.tape, X2.2.2.2.2.trans HH.out.bel.output, Nat.le_trans HH.out.bel.size X2.2.1, fun k hk => (X2.1 k (by omega) (by omega)).trans (HH.out.bel.block k hk)⟩
            have R := Lib.hid (rt_ret (pre := pre ++ [((j : Int), t)]) P1 0 P2 HH.out.own (Nat.le_trans HH.out.size X2.2.1) P3 (NB.out h2))
            have S2 := Lib.hid (show Same2 (w.heap.size + 4) X w1 by
              obtain ⟨⟨o, ho, _⟩, o2, ho2, _⟩ := HBK.out
              exact ⟨X2.1 _ (Array.getElem?_eq_some_iff.1 ho).1 (by omega), X2.1 _ (Array.getElem?_eq_some_iff.1 ho2).1 (by omega), X2.2.1⟩)
            obtain ⟨s0, s1, s2, s3, s4⟩ := P1
            obtain ⟨u0, u1, u2⟩ := P2
            have KT := Lib.hid (rt_kept (Fx := fun k => k = w.heap.size + 1 + 1 + 1 ∨ k = g) HH.out.own (fun k hk => by rcases hk with h | h <;> omega) (show Kept T _ X w1 from ⟨X2.2.2.1, X2.2.2.2.1, X2.2.2.2.2, X2.2.1, fun k hk => X2.1 k (HT.out k hk).1 (by have := HH.out.own k hk; omega), fun k hk => X2.1 k (by rcases hk with h | h <;> omega) (by rcases hk with h | h <;> omega)⟩) (.int .i64 0) (.int .i64 0) (.int .i64 2))
            clear X2 P3 hb1 NX NB h2
            gi_wp2_with fail
            refine ⟨?_, KT.out, R.out⟩
            try rw [G5.out]
            obtain ⟨y1, y2, y3⟩ := S2.out
            exact ⟨(Below.heap_setCell _ _ _ _ (by first | (simp; done) | (simp; omega))).trans ((Below.heap_setCell _ _ _ _ (by first | (simp; done) | (simp; omega))).trans ((Below.heap_setCell _ _ _ _ (by first | (simp; done) | (simp; omega))).trans y1)), (Below.heap_setCell _ _ _ _ (by first | (simp; done) | (simp; omega))).trans ((Below.heap_setCell _ _ _ _ (by first | (simp; done) | (simp; omega))).trans ((Below.heap_setCell _ _ _ _ (by first | (simp; done) | (simp; omega))).trans y2)), by simpa [World.setCell] using y3⟩
          · obtain ⟨n1, n2, n3⟩ := NX.out h2 w1 hb1
            have N1 := Lib.hid n1
            have N2 := Lib.hid n2
            have N3 := Lib.hid n3
            clear n1 n2 n3 NX NB h2 hb1
            gi_wp2_with fail
            exact ⟨by first | exact N1.out | (rw [G5.out]; exact N1.out), N2.out, N3.out⟩
    case done =>
      rintro D xs T X hD rfl ⟨k, p, q, h⟩ hK
      obtain ⟨rfl⟩ : k = 0 := by have := congrArg List.length h.hpre; rw [List.length_append, backL_len, backL_len] at this; omega
      have hcf := h.cf
      rw [List.drop_zero] at hcf
      obtain ⟨a1, a2, a3⟩ := cf_some hcf
      have HE := Lib.hid (show rtA ts = p ∧ rtB ts = q ∧ rtC ts = 0 from ⟨H.out.1.trans a1, H.out.2.1.trans a2, by rw [H.out.2.2, a3]; rfl⟩)
      have HH := Lib.hid h
      obtain ⟨r0, r1, r2, r3, r4⟩ := h.r
      obtain ⟨s0, s1, s2, s3, s4⟩ := h.b2
      obtain ⟨u0, u1, u2⟩ := h.b3
      clear h hcf a1 a2 a3
      have hD' : D = w.heap.size + 4 := by rw [hD, G5.out]
      gi_wp2_with fail
      have KD : (((X.setCell ⟨w.heap.size, 0, none⟩ (.int .i64 p)).setCell ⟨w.heap.size, 1, none⟩ (.int .i64 q)).setCell ⟨w.heap.size + 1, 0, none⟩ (.int .i64 0)).heap[D]? = some (.deferred (some [])) := (Below.heap_setCell _ _ _ _ (by simp; omega)).trans ((Below.heap_setCell _ _ _ _ (by simp; omega)).trans ((Below.heap_setCell _ _ _ _ (by simp; omega)).trans hK))
      have E1 := (HH.out.b2.set p q).other (b' := w.heap.size + 1) (o := 0) (v := .int .i64 0) (by omega)
      have E2 := ((HH.out.b3.other (b' := w.heap.size) (o := 0) (v := .int .i64 p) (by omega)).other (b' := w.heap.size) (o := 1) (v := .int .i64 q) (by omega)).set 0
      have E3 := ((HH.out.bel.setCell (p := ⟨w.heap.size, 0, none⟩) (by simp) (.int .i64 p)).setCell (p := ⟨w.heap.size, 1, none⟩) (by simp) (.int .i64 q)).setCell (p := ⟨w.heap.size + 1, 0, none⟩) (by simp) (.int .i64 0)
      obtain ⟨z1, z2⟩ := rt_put (l := D) (o' := .deferred none) E3 (by omega)
      have E4 := E1.of_block (by simp) (z1 _ (by omega))
      have E5 := E2.of_block (by simp) (z1 _ (by omega))
      refine ⟨by simp, .inl ⟨_, _, rfl, run_takeDeferred KD, ?_⟩⟩
      refine ⟨.tuple #[.agg #[.int .i64 p, .int .i64 q], .int .i64 0], ?_, ret_rc HE.out.1.symm HE.out.2.1.symm HE.out.2.2.symm, z2⟩
      have e0 := E4.c0
      have e1 := E4.c1
      have e2 := E5.c0
      simp [results, Try.results8, go_sem, e0, e1, e2]
    case stop =>
      rintro D c pre T X hD hsp h hK
      obtain rfl := h.ret
      obtain ⟨a1, a2, a3⟩ := cf_none h.bad
      have HE := Lib.hid (show rtA ts = 0 ∧ rtB ts = 0 ∧ rtC ts = 2 from ⟨H.out.1.trans a1, H.out.2.1.trans a2, by rw [H.out.2.2, a3]; rfl⟩)
      have hD' : D = w.heap.size + 4 := by rw [hD, G5.out]
      obtain ⟨z1, z2⟩ := rt_put (l := D) (o' := .deferred none) h.bel (by omega)
      have E4 := h.b2.of_block (by simp) (z1 _ (by omega))
      have E5 := h.b3.of_block (by simp) (z1 _ (by omega))
      have e0 := E4.c0
      have e1 := E4.c1
      have e2 := E5.c0
      clear h E4 E5
      gi_wp2_with fail
      refine ⟨by simp, .inl ⟨_, _, rfl, run_takeDeferred hK, ?_⟩⟩
      refine ⟨.tuple #[.agg #[.int .i64 0, .int .i64 0], .int .i64 2], ?_, ret_rc HE.out.1.symm HE.out.2.1.symm HE.out.2.2.symm, z2⟩
      simp [results, Try.results8, go_sem, e0, e1, e2]
  · have H := Lib.hid (rt_no (ts := ts) (by rw [HA.out, hany]; rfl))
    clear hany
    gi_wp2_with fail
    refine ⟨.tuple #[.agg #[.int .i64 0, .int .i64 0], .int .i64 1], ?_, ret_rc H.out.1.symm H.out.2.1.symm H.out.2.2.symm, ((F3.out.setCell (by simp) _).setCell (by simp) _).setCell (by simp) _⟩
    simp [results, Try.results8, go_sem, r0, r1, s0]
set_option maxRecDepth 100000 in
set_option maxHeartbeats 8000000 in
theorem rtI_one (ts : List Int) (g : Nat) (w : World) (hm : ts.length = 1) (hg : g < w.heap.size) (hc : IntsAt w g ts) (hlen : ts.length ≤ 1000000000000) (hbd : ∀ u ∈ ts, -9223372036854775808 ≤ u ∧ u ≤ 9223372036854775807) :
    Calls Try.prog 8 #[.slice (some ⟨g, 0, none⟩) 1 1] w (RtRet w ts) := by
  refine (callsIn_wide (n := 8)).1 ?_
  obtain ⟨f1, f2, f3, f4⟩ := rtW_facts w
  have F1 := Lib.hid f1
  have F2 := Lib.hid f2
  have F3 := Lib.hid f3
  have F4 := Lib.hid f4
  have HC := Lib.hid (hc.keep hg f3)
  have HBD := Lib.hid hbd
  have HA := Lib.hid (any_tail ts (by omega))
  have HM := Lib.hid hm
  have hdl : (ts.drop 1).length = 0 := by simp; omega
  have HD := Lib.hid hdl
  have HCALL : Calls Try.prog 21 #[.slice (some ⟨g, 0, none⟩) 0 0, .func (.func 22) #[] #[]] (rtW w) (HasRet (rtW w) (ts.drop 1)) := by
    have := ContainsFunc_any (ts.drop 1) g 0 0 (rtW w) (fun i hi => by omega) (by omega)
    rwa [hdl] at this
  have HCL := Lib.hid HCALL
  have hne : ((1 : Int) == 0) = false := by decide
  clear HCALL hc hbd hm hdl f1 f2 f3 f4
  skip
  refine callsIn_of_wp_marks Try.func8 rfl trivial ?_ rfl
  simp only [Try.ntmps8, List.size_toArray, List.length_cons, List.length_nil, Nat.reduceAdd, Nat.reduceSub, Array.replicate_succ, Array.replicate_zero, List.push_toArray, List.append_toArray, List.nil_append, List.cons_append]
  gi_wp2_with fail
  refine ⟨trivial, ?_⟩
  change CallsIn _ _ _ _ _ (rtW w) _
  refine (callsIn_wide.2 HCL.out).mono ?_
  clear HCL
  rintro e w1 ⟨rfl, rfl⟩
  generalize rtW w = W0 at *
  obtain ⟨r0, r1, r2, r3, r4⟩ := F1.out
  obtain ⟨s0, s1, s2⟩ := F2.out
  cases hany : (ts.drop 1).any fun u => decide (u ≤ 0)
  · have hok : rtOk ts = true := by rw [HA.out, hany]; rfl
    have H := Lib.hid (rt_yes hok)
    have HP := Lib.hid (rtOk_pos hok).2
    clear hok hany
    gi_wp2_with fail
    refine ⟨trivial, ?_⟩
    refine (callsIn_wide.2 (Backward_any _ _ ⟨_, _, _, rfl⟩)).mono ?_
    rintro e w1 ⟨rfl, rfl⟩
    gi_wp2_with fail
    rw [F4.out]
    have f4 := F4.out
    have G1 := Lib.hid ((F1.out.alloc (.cells #[.int .i64 1, .int .i64 0] 25)).alloc (.cells #[.slice (some ⟨g, 0, none⟩) 1 1] 28))
    have G2 := Lib.hid ((F2.out.keep (bA (bR _) (.cells #[.int .i64 1, .int .i64 0] 25))).keep (bA (bR _) (.cells #[.slice (some ⟨g, 0, none⟩) 1 1] 28)))
    have G3 := Lib.hid (show Box2 ((W0.alloc (.cells #[.int .i64 1, .int .i64 0] 25)).alloc (.cells #[.slice (some ⟨g, 0, none⟩) 1 1] 28)) (w.heap.size + 1 + 1) 1 0 by have := (Box2.new W0 1 0 25).alloc (.cells #[.slice (some ⟨g, 0, none⟩) 1 1] 28); rwa [f4] at this)
    have G4 := Lib.hid (bA (bA F3.out (.cells #[.int .i64 1, .int .i64 0] 25)) (.cells #[.slice (some ⟨g, 0, none⟩) 1 1] 28))
    have G5 := Lib.hid (show ((W0.alloc (.cells #[.int .i64 1, .int .i64 0] 25)).alloc (.cells #[.slice (some ⟨g, 0, none⟩) 1 1] 28)).heap.size = w.heap.size + 4 by simp [f4])
    have G6 := Lib.hid (show ((W0.alloc (.cells #[.int .i64 1, .int .i64 0] 25)).alloc (.cells #[.slice (some ⟨g, 0, none⟩) 1 1] 28)).cell? ⟨w.heap.size + 1 + 1 + 1, 0, none⟩ = some (.slice (some ⟨g, 0, none⟩) ts.length 1) by
      have e : w.heap.size + 1 + 1 + 1 = (W0.alloc (.cells #[.int .i64 1, .int .i64 0] 25)).heap.size := by simp [f4]
      rw [e, HM.out]; simp [go_sem])
    have G7 := Lib.hid ((HC.out.keep (by omega) (bA (bR _) (.cells #[.int .i64 1, .int .i64 0] 25))).keep (by simp; omega) (bA (bR _) (.cells #[.slice (some ⟨g, 0, none⟩) 1 1] 28)))
    clear r0 r1 r2 r3 r4 s0 s1 s2 F1 F2 F3 F4 HC f4
    generalize (W0.alloc (.cells #[.int .i64 1, .int .i64 0] 25)).alloc (.cells #[.slice (some ⟨g, 0, none⟩) 1 1] 28) = W2 at *
    have hsz := G5.out
    have HS := Lib.hid (backP ts (w.heap.size + 1 + 1 + 1) g 1 W2 hlen (by omega) (by omega) G6.out G7.out)
    refine rf_law 6 rfl rfl (gf := 40) rfl trivial (enters_of Try.func40 (by kernel_rfl) rfl) HS.out (fun k hk => by rcases hk with h | h <;> omega) (bR _) (fun _ => rfl) (RtJ w ts) (RtX w ts) (rtJ_ab w ts) (rtX_ab w ts) (fun T => by rw [G5.out]; exact rtJ_turn w ts T) (fun c T => by rw [G5.out]; exact rtX_turn w ts c T)
      ⟨ts.length, 1, 0, Nat.le_refl _, rfl, by rw [List.drop_of_length_le (Nat.le_refl _)]; rfl, G3.out, G1.out, G2.out, fun j hj => hj.elim, by omega, G4.out⟩
      (fun x a' _ => a' = { tmps := #[.slice (some ⟨g, 0, none⟩) 1 1, undef, .pointer (some ⟨w.heap.size, 0, none⟩), .pointer (some ⟨w.heap.size + 1, 0, none⟩), .pointer (some ⟨w.heap.size + 1 + 1, 0, none⟩), undef, .int .i64 x.2, .slice (some ⟨g, 0, none⟩) 1 1, .int .i64 1, .bool false, .bool false, .slice (some ⟨g, 0, none⟩) 1 1, .slice (some ⟨g, 0, none⟩) 0 0, .bool false, .bool false, undef, .agg #[.int .i64 1, .int .i64 0], .slice (some ⟨g, 0, none⟩) 1 1, .func (.func 40) #[] #[.pointer (some ⟨w.heap.size + 1 + 1 + 1, 0, none⟩)], .int .i64 x.1, .int .i64 x.2, undef, undef, undef, undef, undef, undef, undef, undef, undef, undef, undef, undef, undef, undef, undef, undef, undef, undef, undef, undef, undef, undef], defers := [] }) (fun _ _ _ _ _ h _ _ => h) ?assign ?body ?done ?stop
    case assign =>
      intro l pre x T X K hi' ht hK
      simp only [encBk]
      gi_wp2
      exact hK _ _ (bR _) hi' rfl
    case body =>
      rintro l pre x a' T X hsp ⟨k, p, q, h⟩ ht hbk rfl _
      obtain ⟨j, rfl, rfl⟩ := bk_next h.hpre hsp
      obtain ⟨i1, i2, i3, i4, i5⟩ := cfR_inv _ _ _ (tail_pos HP.out (by omega)) h.cf
      have hjl : j < ts.length := by have := h.hk; omega
      have htd := drop_cons' hjl
      have HH := Lib.hid h
      have HT := Lib.hid ht
      have HI := Lib.hid i1
      have HTD := Lib.hid htd
      have HBK := Lib.hid (show Books (w.heap.size + 4) X by rw [← G5.out]; exact hbk)
      obtain ⟨bd1, bd2⟩ := HBD.out _ (at0_mem hjl)
      obtain ⟨r0, r1, r2, r3, r4⟩ := h.r
      obtain ⟨s0, s1, s2, s3, s4⟩ := h.b2
      obtain ⟨u0, u1, u2⟩ := h.b3
      clear h ht i1 htd hbk hsp
      dsimp only
      by_cases hlo : at0 ts j < -1000000000
      · have R := Lib.hid (rt_ret (pre := pre ++ [((j : Int), at0 ts j)]) HH.out.b2 0 HH.out.b3 HH.out.own HH.out.size HH.out.bel (cfR_none j ts (by rw [HTD.out]; exact cfR_cons_no1 (by simp [inT]; omega))))
        have KT := Lib.hid (rt_kept (Fx := fun k => k = w.heap.size + 1 + 1 + 1 ∨ k = g) HH.out.own (fun k hk => by rcases hk with h | h <;> omega) (kept_refl T _ X) (.int .i64 0) (.int .i64 0) (.int .i64 2))
        generalize at0 ts j = t at *
        gi_wp2_with fail
        exact ⟨by first | exact same2_of HBK.out (three_others _ _ _ _ _ _ _) | (rw [G5.out]; exact same2_of HBK.out (three_others _ _ _ _ _ _ _)), KT.out, R.out⟩
      · by_cases hhi : 1000000000 < at0 ts j
        · have R := Lib.hid (rt_ret (pre := pre ++ [((j : Int), at0 ts j)]) HH.out.b2 0 HH.out.b3 HH.out.own HH.out.size HH.out.bel (cfR_none j ts (by rw [HTD.out]; exact cfR_cons_no1 (by simp [inT]; omega))))
          have KT := Lib.hid (rt_kept (Fx := fun k => k = w.heap.size + 1 + 1 + 1 ∨ k = g) HH.out.own (fun k hk => by rcases hk with h | h <;> omega) (kept_refl T _ X) (.int .i64 0) (.int .i64 0) (.int .i64 2))
          generalize at0 ts j = t at *
          gi_wp2_with fail
          exact ⟨by first | exact same2_of HBK.out (three_others _ _ _ _ _ _ _) | (rw [G5.out]; exact same2_of HBK.out (three_others _ _ _ _ _ _ _)), KT.out, R.out⟩
        · have ht1 : inT (at0 ts j) = true := inT_of (by omega) (by omega)
          obtain ⟨m1, m2⟩ := mul_bd (show -1000000000 ≤ at0 ts j by omega) (by omega) (show -1000000000 ≤ p by omega) i4
          have HO := Lib.hid (ok_next (t := at0 ts j) i2 i4 HI.out)
          have NX := Lib.hid (fun (h2 : inT (at0 ts j * p + q) = true) w1 => rt_next (Fx := fun k => k = w.heap.size + 1 + 1 + 1 ∨ k = g) (w1 := w1) HH.out (fun k hk => (HT.out k hk).1) (fun k hk => by rcases hk with h | h <;> omega) HBK.out HTD.out ht1 h2 (inT_of (by omega) i4))
          have NB := Lib.hid (fun (h2 : inT (at0 ts j * p + q) = false) => cfR_none j ts (by rw [HTD.out]; exact cfR_cons_no2 HH.out.cf h2))
          generalize at0 ts j = t at *
          gi_wp2_with fail
          refine ⟨trivial, ?_⟩
          refine (CallsIn.inRound l (callsIn_wide.2 (valid_any _ _ _))).mono ?_
          rintro e w1 ⟨rfl, hb1⟩
          rw [HO.out]
          cases h2 : inT (t * p + q)
          · have X2 := (rt_steps hb1)
            have hsX := HH.out.size
            have P1 := HH.out.b2.of_block X2.2.1 (X2.1 _ (by omega) (by omega))
            have P2 := HH.out.b3.of_block X2.2.1 (X2.1 _ (by omega) (by omega))
            have P3 : Below w.heap.size w w1 := ⟨X2.2.2.1.trans HH.out.bel.os, X2.2.2.2.1.trans HH.out.bel.tape, X2.2.2.2.2.trans HH.out.bel.output, Nat.le_trans HH.out.bel.size X2.2.1, fun k hk => (X2.1 k (by omega) (by omega)).trans (HH.out.bel.block k hk)⟩
            have R := Lib.hid (rt_ret (pre := pre ++ [((j : Int), t)]) P1 0 P2 HH.out.own (Nat.le_trans HH.out.size X2.2.1) P3 (NB.out h2))
            have S2 := Lib.hid (show Same2 (w.heap.size + 4) X w1 by
              obtain ⟨⟨o, ho, _⟩, o2, ho2, _⟩ := HBK.out
              exact ⟨X2.1 _ (Array.getElem?_eq_some_iff.1 ho).1 (by omega), X2.1 _ (Array.getElem?_eq_some_iff.1 ho2).1 (by omega), X2.2.1⟩)
            obtain ⟨s0, s1, s2, s3, s4⟩ := P1
            obtain ⟨u0, u1, u2⟩ := P2
            have KT := Lib.hid (rt_kept (Fx := fun k => k = w.heap.size + 1 + 1 + 1 ∨ k = g) HH.out.own (fun k hk => by rcases hk with h | h <;> omega) (show Kept T _ X w1 from ⟨X2.2.2.1, X2.2.2.2.1, X2.2.2.2.2, X2.2.1, fun k hk => X2.1 k (HT.out k hk).1 (by have := HH.out.own k hk; omega), fun k hk => X2.1 k (by rcases hk with h | h <;> omega) (by rcases hk with h | h <;> omega)⟩) (.int .i64 0) (.int .i64 0) (.int .i64 2))
            clear X2 P3 hb1 NX NB h2
            gi_wp2_with fail
            refine ⟨?_, KT.out, R.out⟩
            try rw [G5.out]
            obtain ⟨y1, y2, y3⟩ := S2.out
            exact ⟨(Below.heap_setCell _ _ _ _ (by first | (simp; done) | (simp; omega))).trans ((Below.heap_setCell _ _ _ _ (by first | (simp; done) | (simp; omega))).trans ((Below.heap_setCell _ _ _ _ (by first | (simp; done) | (simp; omega))).trans y1)), (Below.heap_setCell _ _ _ _ (by first | (simp; done) | (simp; omega))).trans ((Below.heap_setCell _ _ _ _ (by first | (simp; done) | (simp; omega))).trans ((Below.heap_setCell _ _ _ _ (by first | (simp; done) | (simp; omega))).trans y2)), by simpa [World.setCell] using y3⟩
          · obtain ⟨n1, n2, n3⟩ := NX.out h2 w1 hb1
            have N1 := Lib.hid n1
            have N2 := Lib.hid n2
            have N3 := Lib.hid n3
            clear n1 n2 n3 NX NB h2 hb1
            gi_wp2_with fail
            exact ⟨by first | exact N1.out | (rw [G5.out]; exact N1.out), N2.out, N3.out⟩
    case done =>
      rintro D xs T X hD rfl ⟨k, p, q, h⟩ hK
      obtain ⟨rfl⟩ : k = 0 := by have := congrArg List.length h.hpre; rw [List.length_append, backL_len, backL_len] at this; omega
      have hcf := h.cf
      rw [List.drop_zero] at hcf
      obtain ⟨a1, a2, a3⟩ := cf_some hcf
      have HE := Lib.hid (show rtA ts = p ∧ rtB ts = q ∧ rtC ts = 0 from ⟨H.out.1.trans a1, H.out.2.1.trans a2, by rw [H.out.2.2, a3]; rfl⟩)
      have HH := Lib.hid h
      obtain ⟨r0, r1, r2, r3, r4⟩ := h.r
      obtain ⟨s0, s1, s2, s3, s4⟩ := h.b2
      obtain ⟨u0, u1, u2⟩ := h.b3
      clear h hcf a1 a2 a3
      have hD' : D = w.heap.size + 4 := by rw [hD, G5.out]
      gi_wp2_with fail
      have KD : (((X.setCell ⟨w.heap.size, 0, none⟩ (.int .i64 p)).setCell ⟨w.heap.size, 1, none⟩ (.int .i64 q)).setCell ⟨w.heap.size + 1, 0, none⟩ (.int .i64 0)).heap[D]? = some (.deferred (some [])) := (Below.heap_setCell _ _ _ _ (by simp; omega)).trans ((Below.heap_setCell _ _ _ _ (by simp; omega)).trans ((Below.heap_setCell _ _ _ _ (by simp; omega)).trans hK))
      have E1 := (HH.out.b2.set p q).other (b' := w.heap.size + 1) (o := 0) (v := .int .i64 0) (by omega)
      have E2 := ((HH.out.b3.other (b' := w.heap.size) (o := 0) (v := .int .i64 p) (by omega)).other (b' := w.heap.size) (o := 1) (v := .int .i64 q) (by omega)).set 0
      have E3 := ((HH.out.bel.setCell (p := ⟨w.heap.size, 0, none⟩) (by simp) (.int .i64 p)).setCell (p := ⟨w.heap.size, 1, none⟩) (by simp) (.int .i64 q)).setCell (p := ⟨w.heap.size + 1, 0, none⟩) (by simp) (.int .i64 0)
      obtain ⟨z1, z2⟩ := rt_put (l := D) (o' := .deferred none) E3 (by omega)
      have E4 := E1.of_block (by simp) (z1 _ (by omega))
      have E5 := E2.of_block (by simp) (z1 _ (by omega))
      refine ⟨by simp, .inl ⟨_, _, rfl, run_takeDeferred KD, ?_⟩⟩
      refine ⟨.tuple #[.agg #[.int .i64 p, .int .i64 q], .int .i64 0], ?_, ret_rc HE.out.1.symm HE.out.2.1.symm HE.out.2.2.symm, z2⟩
      have e0 := E4.c0
      have e1 := E4.c1
      have e2 := E5.c0
      simp [results, Try.results8, go_sem, e0, e1, e2]
    case stop =>
      rintro D c pre T X hD hsp h hK
      obtain rfl := h.ret
      obtain ⟨a1, a2, a3⟩ := cf_none h.bad
      have HE := Lib.hid (show rtA ts = 0 ∧ rtB ts = 0 ∧ rtC ts = 2 from ⟨H.out.1.trans a1, H.out.2.1.trans a2, by rw [H.out.2.2, a3]; rfl⟩)
      have hD' : D = w.heap.size + 4 := by rw [hD, G5.out]
      obtain ⟨z1, z2⟩ := rt_put (l := D) (o' := .deferred none) h.bel (by omega)
      have E4 := h.b2.of_block (by simp) (z1 _ (by omega))
      have E5 := h.b3.of_block (by simp) (z1 _ (by omega))
      have e0 := E4.c0
      have e1 := E4.c1
      have e2 := E5.c0
      clear h E4 E5
      gi_wp2_with fail
      refine ⟨by simp, .inl ⟨_, _, rfl, run_takeDeferred hK, ?_⟩⟩
      refine ⟨.tuple #[.agg #[.int .i64 0, .int .i64 0], .int .i64 2], ?_, ret_rc HE.out.1.symm HE.out.2.1.symm HE.out.2.2.symm, z2⟩
      simp [results, Try.results8, go_sem, e0, e1, e2]
  · have H := Lib.hid (rt_no (ts := ts) (by rw [HA.out, hany]; rfl))
    clear hany
    gi_wp2_with fail
    refine ⟨.tuple #[.agg #[.int .i64 0, .int .i64 0], .int .i64 1], ?_, ret_rc H.out.1.symm H.out.2.1.symm H.out.2.2.symm, ((F3.out.setCell (by simp) _).setCell (by simp) _).setCell (by simp) _⟩
    simp [results, Try.results8, go_sem, r0, r1, s0]
theorem RatioOfTermsI_cap (ts : List Int) (g cap : Nat) (w : World) (hg : g < w.heap.size) (hc : IntsAt w g ts) (hlen : ts.length ≤ 1000000000000) (hbd : ∀ u ∈ ts, -9223372036854775808 ≤ u ∧ u ≤ 9223372036854775807) (h0 : ts.length ≠ 0) (h1 : ts.length ≤ cap) (h2 : cap ≤ 9223372036854775807) :
    Calls Try.prog 8 #[.slice (some ⟨g, 0, none⟩) ts.length cap] w (RtRet w ts) := by
  by_cases hq : cap = 1
  · have h3 : ts.length = 1 := by omega
    have := rtI_one ts g w h3 hg hc hlen hbd
    rw [h3, hq]; exact this
  · have := rtI_more ts g w (ts.length - 1) (cap - 1) (by omega) (by omega) (by omega) (by omega) hg hc hlen hbd
    rwa [show ts.length - 1 + 1 = ts.length by omega, show cap - 1 + 1 = cap by omega] at this
theorem RatioOfTermsI_any (ts : List Int) (g : Nat) (w : World) (hg : g < w.heap.size) (hc : IntsAt w g ts) (hlen : ts.length ≤ 1048576) (hbd : ∀ u ∈ ts, -9223372036854775808 ≤ u ∧ u ≤ 9223372036854775807) :
    Calls Try.prog 8 #[.slice (some ⟨g, 0, none⟩) ts.length ts.length] w (RtRet w ts) := by
  by_cases h0 : ts.length = 0
  · obtain rfl : ts = [] := List.eq_nil_of_length_eq_zero h0
    exact rtI_none g w
  · exact RatioOfTermsI_cap ts g ts.length w hg hc (by omega) hbd h0 (Nat.le_refl _) (by omega)
end Go.Proofs.Ytldjplopglpgfaa

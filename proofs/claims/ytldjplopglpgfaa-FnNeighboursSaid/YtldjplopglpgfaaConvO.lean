/-
  The contracts of impl.Ratio.convergents, impl.ConvergentsOf and spec.ConvergentsOf.
-/
import Derived.Test.YtldjplopglpgfaaConvI
import Derived.Test.YtldjplopglpgfaaConv2
import Derived.Test.YtldjplopglpgfaaCollX
import Derived.Test.YtldjplopglpgfaaTermsS
namespace Go.Proofs.Ytldjplopglpgfaa
open Go.RowKit Go.Shelf
attribute [local go_sem] Oper.semAt_some

theorem infoRat : (Try.prog.info? 25).map (fun i => (i.zero, i.size, i.bytes)) = some (some (.agg #[.int .i64 0, .int .i64 0]), 2, 16) := by kernel_rfl
theorem two_src (w : World) (x y : Value) (t : TypeId) : ∀ (j : Nat) (u : Value), [x, y][j]? = some u → (w.alloc (.cells #[x, y] t)).cell? ((⟨w.heap.size, 0, none⟩ : Addr).add j) = some u := by
  intro j u hj
  match j, hj with
  | 0, hj => simp at hj; subst hj; simp [go_sem, Addr.add]
  | 1, hj => simp at hj; subst hj; simp [go_sem, Addr.add]
  | (j + 2), hj => simp at hj
theorem convergents_any (n d : Int) (w : World) :
    Calls Try.prog 24 #[.agg #[.int .i64 n, .int .i64 d]] w fun e w' => e = .returned (.func (.func 41) #[] #[.pointer (some ⟨w.heap.size, 0, none⟩)]) ∧ w.alloc (.cells #[.int .i64 n, .int .i64 d] 25) = w' := by
  go_enter Try.func24, Try.ntmps24
  go_wp2_with fail
  go_ret
  exact ⟨rfl, rfl⟩
/-- What ConvergentsOf returns: the ratios in a row of its own. -/
def CvPost (w : World) (ps : List (Int × Int)) (c : Int) (e : Ending) (w' : World) : Prop := ∃ v, e = .returned (.tuple #[v, .int .i64 c]) ∧ w'.ownsRow w.heap.size 25 2 v ps.length (pairC ps) ∧ Below w.heap.size w w'
def CvsRel (W1 : World) (_g : Nat) (ts : List Int) (v i : Value) (wr : World) : Prop :=
  ∃ (k h cap : Nat), v = .slice (some ⟨h, 0, none⟩) k cap ∧ i = .int .i64 ((k : Int) + 1) ∧ k ≤ ts.length ∧ wr.ownsRow W1.heap.size 25 2 v k (pairC (((convL ts).map Prod.snd).take k)) ∧ Below W1.heap.size W1 wr
theorem rowP_new (w : World) (t : TypeId) : (w.alloc (.cells #[] t)).ownsRow w.heap.size t 2 (.slice (some ⟨w.heap.size, 0, none⟩) 0 0) 0 [] :=
  ⟨rfl, .inr ⟨w.heap.size, 0, #[], rfl, Nat.le_refl _, (MapKept.heap_alloc w _).1, Nat.le_refl _, Nat.zero_le _, rfl, rfl⟩⟩
theorem ints_take {W : World} {g : Nat} {ts : List Int} (h : IntsAt W g ts) (k : Nat) : IntsAt W g (ts.take k) := by
  intro i hi
  have hi' : i < k ∧ i < ts.length := by rw [List.length_take] at hi; omega
  rw [h i hi'.2]
  unfold at0
  rw [List.getElem?_take_of_lt hi'.1]
/-- What the loop of ConvergentsOf collects. -/
def sndC (xs : List PP) : List Value := pairC (xs.map Prod.snd)
theorem sndC_snoc (xs : List PP) (x : PP) : sndC xs ++ [.int .i64 x.2.1, .int .i64 x.2.2] = sndC (xs ++ [x]) := by unfold sndC; rw [List.map_append, List.map_singleton, pairC_snoc]
/-- How a round of ConvergentsOf begins: the convergent lies in a box of its own. -/
def CvAx (a : Nat → PP → Act) (x : PP) (a' : Act) (W : World) : Prop := ∃ c, a' = a c x ∧ Box2 W c x.2.1 x.2.2
theorem cvAx_turn (a : Nat → PP → Act) (L : Nat) (a' : Act) : TurnsP L (fun x => CvAx a x a') := by
  intro x W o o' ⟨c, h1, h2⟩ ho hc
  have hne := cell_book h2.c0 ho hc
  exact ⟨c, h1, h2.of_block (by simp) (World.putObj_heap_other hne)⟩
set_option maxRecDepth 100000 in
set_option maxHeartbeats 8000000 in
theorem ConvergentsOfI_any (n d : Int) (w : World) :
    Calls Try.prog 9 #[.agg #[.int .i64 n, .int .i64 d]] w (CvPost w (cvg n d) (trC n d)) := by
  obtain ⟨i0, hi, hz0, hz1, hz2⟩ := info_parts infoRat
  cases hok : okR n d
  · obtain ⟨_, e2⟩ := tr_no hok
    rw [cvg_no hok, e2]
    clear e2
    go_enter Try.func9, Try.ntmps9
    go_wp2_with fail
    refine (valid_any _ _ _).mono ?_
    rintro e w1 ⟨rfl, hb1⟩
    go_wp2_with fail
    go_ret2
    exact ⟨_, rfl, World.ownsRow_nil _ _ _ _, bT (bA (bR _) _) hb1⟩
  · obtain ⟨_, e2⟩ := tr_yes hok
    rw [cvg_yes hok, e2]
    clear e2
    obtain ⟨o1, o2, o3, o4⟩ := okR_bd hok
    have hlen := terms_len n d (by omega) (by omega)
    have HOK := Lib.hid hok
    have B0 := Box2.new w n d 25
    refine (callsIn_wide (n := 8)).1 ?_
    refine callsIn_of_wp_marks Try.func9 rfl trivial ?_ rfl
    simp only [Try.ntmps9, List.size_toArray, List.length_cons, List.length_nil, Nat.reduceAdd, Nat.reduceSub, Array.replicate_succ, Array.replicate_zero, List.push_toArray, List.append_toArray, List.nil_append, List.cons_append]
    gi_wp2_with fail
    refine ⟨trivial, ?_⟩
    refine (callsIn_wide.2 (valid_any _ _ _)).mono ?_
    rw [HOK.out]
    rintro e w1 ⟨rfl, hb1⟩
    obtain ⟨x0, x1, x2, x3, x4⟩ := B0.keep hb1
    have HB1 := Lib.hid (bT (bA (bR w) (.cells #[.int .i64 n, .int .i64 d] 25)) hb1)
    clear B0 hb1 hok
    gi_wp2_with fail
    refine ⟨trivial, ?_⟩
    refine (callsIn_wide.2 (convergents_any _ _ _)).mono ?_
    rintro e w2 ⟨rfl, rfl⟩
    gi_wp2_with fail
    have hP := Lib.hid (convP n d (w1.heap.size + 1) ((w1.alloc (.cells #[.slice none 0 0] 33)).alloc (.cells #[.int .i64 n, .int .i64 d] 25)) HOK.out (by simp) (by simp [go_sem]) (by simp [go_sem]))
    have H0 := Lib.hid (show CollX 25 2 sndC w1.heap.size w1 [] none1 ((w1.alloc (.cells #[.slice none 0 0] 33)).alloc (.cells #[.int .i64 n, .int .i64 d] 25)) from
      ⟨.slice none 0 0, by simp [go_sem], by simp [go_sem], ⟨World.ownsRow_nil _ _ _ _, fun g hg => by cases hg⟩, by simp; omega, fun k hk => hk.elim, bA (bA (bR _) _) _⟩)
    have S5 := Lib.hid (show ((w1.alloc (.cells #[.slice none 0 0] 33)).alloc (.cells #[.int .i64 n, .int .i64 d] 25)).heap.size = w1.heap.size + 2 by simp)
    change Code.wpIn _ _ _ _ _ _ ((w1.alloc (.cells #[.slice none 0 0] 33)).alloc (.cells #[.int .i64 n, .int .i64 d] 25))
    generalize (w1.alloc (.cells #[.slice none 0 0] 33)).alloc (.cells #[.int .i64 n, .int .i64 d] 25) = W5 at *
    have HLEN := Lib.hid hlen
    clear x0 x1 x2 x3 x4 hlen
    refine rf_law 6 rfl rfl (gf := 41) rfl trivial (enters_of Try.func41 (by kernel_rfl) rfl) hP.out (fun _ h => h.elim) (bR _) (fun _ => rfl) (CollX 25 2 sndC w1.heap.size w1) (fun _ _ _ _ => False) (collx_ab (Nat.le_refl _)) (fun _ _ _ _ _ _ h _ _ => h)
      (fun T => collx_turn (Nat.le_refl _) (by have := S5.out; omega) T) (fun _ _ _ _ _ _ h _ _ => h) H0.out
      (CvAx fun c x => { tmps := #[.agg #[.int .i64 n, .int .i64 d], .pointer (some ⟨w.heap.size, 0, none⟩), .slice none 0 0, .int .i64 0, .pointer (some ⟨w1.heap.size, 0, none⟩), undef, .pointer (some ⟨c, 0, none⟩), .agg #[.int .i64 n, .int .i64 d], .bool true, .bool false, .agg #[.int .i64 n, .int .i64 d], .func (.func 41) #[] #[.pointer (some ⟨w1.heap.size + 1, 0, none⟩)], .agg #[.int .i64 x.1.1, .int .i64 x.1.2], .agg #[.int .i64 x.2.1, .int .i64 x.2.2], undef, undef, undef, undef, undef], defers := [] }) (cvAx_turn _ _) ?assign ?body ?done ?stop
    case assign =>
      rintro lr pre ⟨⟨p1, p2⟩, ⟨q1, q2⟩⟩ T W K hi' ht hK
      have HI := Lib.hid hi'
      have HTT := Lib.hid ht
      have HK := Lib.hid hK
      clear hi' ht hK
      simp only [encPP]
      gi_wp2_with fail
      exact HK.out _ _ (bA (bR _) _) (collx_ab (Nat.le_refl _) _ _ _ _ _ HI.out (Mov.of_below (bA (bR _) _)) (fun k hk => ⟨.inl hk, by have := (HTT.out k hk).1; simp; omega⟩)) ⟨_, rfl, Box2.new _ _ _ _⟩
    case body =>
      rintro lr pre ⟨⟨p1, p2⟩, ⟨q1, q2⟩⟩ a' T W _ ⟨v, c1, c2, c3, c4, c5, c6⟩ ht hbk ⟨c, rfl, x0, x1, x2, x3, x4⟩ hln
      have HC3 := Lib.hid c3
      have HC5 := Lib.hid c5
      have HT := Lib.hid ht
      have HBK := Lib.hid hbk
      have HB := Lib.hid c6
      have hsz := c6.size
      have hl := HLEN.out
      clear c3 c5 c6 ht hbk
      gi_wp2_with (gi_at_builtin; refine wpListIn_append_own_at _ rfl _ _ 33 rfl (w1.heap.size + 1) 25 i0 (.agg #[.int .i64 0, .int .i64 0]) 2 16 Try.underlying33 hi hz0 hz1 hz2 rfl (by decide) _ pre.length (sndC pre) rfl (HC3.out.1.alloc _) ⟨W.heap.size, 0, none⟩ 1 1 [.int .i64 q1, .int .i64 q2] rfl rfl (two_src _ _ _ _) ?c3 ?c4 ?c5 ?c6 ?_)
      case c3 => exact ⟨rfl, rfl⟩
      case c4 => unfold maxLen; omega
      case c5 => omega
      try case c6 => simp; omega
      intro v' W1 hown hg1 _ hat
      have hown2 := hown
      rw [sndC_snoc pre ((p1, p2), (q1, q2))] at hown2
      obtain ⟨g', cap', rfl⟩ := ownsRow_succ hown
      obtain ⟨b1, b2, b3⟩ := boxx_kept c4 HC3.out.1 hg1 c1 c2
      have R := Lib.hid (collx_push (x := (((p1, p2), (q1, q2)) : PP)) (Fx := none1) (Nat.le_refl _) (fun _ h => h.elim) c1 c2 HC3.out c4 HC5.out HB.out (fun k hk => (HT.out k hk).1) hown2 hg1 (by simpa using hat))
      clear hown hown2 hg1 hat
      gi_wp2
      exact ⟨same2_of HBK.out R.out.1, R.out.2.1, R.out.2.2⟩
    case done =>
      rintro D xs T W hD rfl ⟨v, c1, c2, c3, c4, c5, c6⟩ hK
      have hD' : w1.heap.size ≤ D := by have := S5.out; omega
      have HF := Lib.hid (own_lower (B' := w.heap.size) (ownsRow_putObj c3.1 (.deferred none) hK rfl) (by have := HB1.out.size; omega))
      have HG := Lib.hid (bT HB1.out (c6.grown (grownBy_putObj' W D (.deferred none)) c6.size (fun k e => by cases e; exact hD')))
      clear c2 c3 c5 c6
      gi_wp2_with fail
      refine ⟨by simp, .inl ⟨_, _, rfl, run_takeDeferred hK, ?_⟩⟩
      refine ⟨.tuple #[v, .int .i64 0], ?_, v, rfl, ?_, HG.out⟩
      · simp [results, Try.results9, go_sem]
      · have := HF.out
        unfold sndC at this
        rw [List.length_map]
        exact this
    case stop =>
      rintro D c pre T W _ _ h _
      exact h.elim
end Go.Proofs.Ytldjplopglpgfaa

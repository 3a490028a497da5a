/-
  The contract of impl.ReverseTrain.
-/
import Derived.Test.YtcgennkddoajeaaRevS
import Derived.Test.YtcgennkddoajeaaBackP
import Derived.Test.YtcgennkddoajeaaCollY
namespace Go.Proofs.Ytcgennkddoajeaa
open Go.RowKit Go.Shelf
attribute [local go_sem] Oper.semAt_some

/-- What the loop collects. -/
def revC (xs : List (Int × (Int × Int))) : List Value := pairC (xs.map fun x => (x.2.2, x.2.1))
theorem revC_snoc (xs : List (Int × (Int × Int))) (x : Int × (Int × Int)) : revC xs ++ [.int .i64 x.2.2, .int .i64 x.2.1] = revC (xs ++ [x]) := by unfold revC; rw [List.map_append, List.map_singleton, pairC_snoc]
theorem backPL_rev : ∀ (ps : List (Int × Int)) (k : Nat), k ≤ ps.length → (backPL ps k).map (fun x => (x.2.2, x.2.1)) = revT (ps.take k)
  | ps, 0, _ => by simp [backPL, revT]
  | ps, k + 1, h => by
    rw [backPL, List.map_cons, backPL_rev ps k (by omega), pat_take (by omega)]
    simp [revT]
def BxAx (a : Nat → (Int × (Int × Int)) → Act) (x : Int × (Int × Int)) (a' : Act) (W : World) : Prop := ∃ c, a' = a c x ∧ Box2 W c x.2.1 x.2.2
theorem bxAx_turn (a : Nat → (Int × (Int × Int)) → Act) (L : Nat) (a' : Act) : TurnsP L (fun x => BxAx a x a') := by
  intro x W o o' ⟨c, h1, h2⟩ ho hc
  have hne := cell_book h2.c0 ho hc
  exact ⟨c, h1, h2.of_block (by simp) (World.putObj_heap_other hne)⟩
set_option maxRecDepth 100000 in
set_option maxHeartbeats 8000000 in
theorem ReverseTrainI_any (ps : List (Int × Int)) (v : Value) (w : World) (ha : SlP w v ps) (hmax : ps.length ≤ 1000000000000) :
    Calls Try.prog 39 #[v] w (PairsC w (rvL ps) (rvC ps)) := by
  obtain ⟨i0, hi, hz0, hz1, hz2⟩ := info_parts infoPr
  cases h : okT ps
  · rw [(rv_no h).1, (rv_no h).2]
    go_enter Try.func39, Try.ntmps39
    go_wp2_with fail
    refine (isTrain_any ps _ _ ha hmax).mono ?_
    rw [h]
    rintro e w1 ⟨rfl, hb⟩
    go_wp2_with fail
    go_ret2
    exact ⟨_, rfl, World.ownsRow_nil _ _ _ _, hb⟩
  · rw [(rv_yes h).1, (rv_yes h).2]
    have h5 := (okT_iff.1 h).1
    have HV := Lib.hid ha
    have HOK := Lib.hid h
    obtain ⟨ao, cap, rfl, _⟩ := ha
    refine (callsIn_wide (n := 8)).1 ?_
    refine callsIn_of_wp_marks Try.func39 rfl trivial ?_ rfl
    simp only [Try.ntmps39, List.size_toArray, List.length_cons, List.length_nil, Nat.reduceAdd, Nat.reduceSub, Array.replicate_succ, Array.replicate_zero, List.push_toArray, List.append_toArray, List.nil_append, List.cons_append]
    gi_wp2_with fail
    refine ⟨trivial, ?_⟩
    refine (callsIn_wide.2 (isTrain_any ps _ _ HV.out hmax)).mono ?_
    rw [h]
    rintro e w1 ⟨rfl, hb⟩
    have V := Lib.hid (HV.out.keep hb)
    have HB1 := Lib.hid hb
    clear hb h HV
    gi_wp2_with fail
    refine ⟨trivial, ?_⟩
    refine (callsIn_wide.2 (BackwardP_any _ _ ⟨_, _, _, rfl⟩)).mono ?_
    rintro e w2 ⟨rfl, rfl⟩
    gi_wp2_with fail
    have hP := Lib.hid (backPP ps (w1.heap.size + 1) ao cap ((w1.alloc (.cells #[.slice none 0 0] 38)).alloc (.cells #[.slice ao ps.length cap] 38)) (by omega) (by simp) (by simp [go_sem]) ((V.out.keep (bA (bR _) _)).keep (bA (bR _) _)))
    have H0 := Lib.hid (show CollY (w1.heap.size + 2) 43 2 revC w1.heap.size w1 [] none1 ((w1.alloc (.cells #[.slice none 0 0] 38)).alloc (.cells #[.slice ao ps.length cap] 38)) from
      ⟨.slice none 0 0, by simp [go_sem], by simp [go_sem], ⟨World.ownsRow_nil _ _ _ _, fun g hg => by cases hg⟩, by simp; omega, fun k hk => hk.elim, bA (bA (bR _) _) _⟩)
    have S5 := Lib.hid (show ((w1.alloc (.cells #[.slice none 0 0] 38)).alloc (.cells #[.slice ao ps.length cap] 38)).heap.size = w1.heap.size + 2 by simp)
    have HOWN := Lib.hid (fun (k : Nat) (e : (Value.slice ao ps.length cap).ownBlock = some k) (hp : 1 ≤ ps.length) => (show k < w1.heap.size by
      obtain ⟨ao', cap', e', ha'⟩ := V.out
      injection e' with e1 e2 e3
      subst e1 e3
      obtain ⟨g, rfl, hg, hc⟩ := ha' hp
      cases e
      exact hg))
    change Code.wpIn _ _ _ _ _ _ ((w1.alloc (.cells #[.slice none 0 0] 38)).alloc (.cells #[.slice ao ps.length cap] 38))
    generalize ((w1.alloc (.cells #[.slice none 0 0] 38)).alloc (.cells #[.slice ao ps.length cap] 38)) = W5 at *
    have H5 := Lib.hid h5
    clear h5
    refine rf_law 6 rfl rfl (gf := 97) rfl trivial (enters_of Try.func97 (by kernel_rfl) rfl) hP.out (fun k hk => by have := S5.out; rcases hk with rfl | ⟨h1, h2⟩; omega; (have := HOWN.out k h2 h1; omega)) (bR _) (fun _ => rfl) (CollY (w1.heap.size + 2) 43 2 revC w1.heap.size w1) (fun _ _ _ _ => False) (colly_ab (Nat.le_refl _)) (fun _ _ _ _ _ _ h _ _ => h)
      (fun T => colly_turn (Nat.le_refl _) (by have := S5.out; omega) T) (fun _ _ _ _ _ _ h _ _ => h) H0.out
      (BxAx fun c x => { tmps := #[.slice ao ps.length cap, undef, .slice none 0 0, .int .i64 0, .pointer (some ⟨w1.heap.size, 0, none⟩), undef, .pointer (some ⟨c, 0, none⟩), .slice ao ps.length cap, .bool true, .bool false, .slice ao ps.length cap, .func (.func 97) #[] #[.pointer (some ⟨w1.heap.size + 1, 0, none⟩)], .int .i64 x.1, .agg #[.int .i64 x.2.1, .int .i64 x.2.2], undef, undef, undef, undef, undef, undef, undef, undef, undef], defers := [] }) (bxAx_turn _ _) ?assign ?body ?done ?stop
    case assign =>
      rintro lr pre ⟨p1, ⟨q1, q2⟩⟩ T W K hi' ht hK
      have HI := Lib.hid hi'
      have HTT := Lib.hid ht
      have HK := Lib.hid hK
      clear hi' ht hK
      simp only [encBp]
      gi_wp2_with fail
      exact HK.out _ _ (bA (bR _) _) (colly_ab (Nat.le_refl _) _ _ _ _ _ HI.out (Mov.of_below (bA (bR _) _)) (fun k hk => ⟨.inl hk, by have := (HTT.out k hk).1; simp; omega⟩)) ⟨_, rfl, Box2.new _ _ _ _⟩
    case body =>
      rintro lr pre ⟨p1, ⟨q1, q2⟩⟩ a' T W _ ⟨v, c1, c2, c3, c4, c5, c6⟩ ht hbk ⟨c, rfl, x0, x1, x2, x3, x4⟩ hln
      have HC3 := Lib.hid c3
      have HC5 := Lib.hid c5
      have HT := Lib.hid ht
      have HBK := Lib.hid hbk
      have HB := Lib.hid c6
      have hsz := c6.size
      clear c3 c5 c6 ht hbk
      have hW : w1.heap.size + 2 ≤ W.heap.size := by
        rcases HBK.out with ⟨⟨o, ho, _⟩, _⟩
        have := (Array.getElem?_eq_some_iff.1 ho).1
        have := S5.out
        omega
      have h5 := H5.out
      gi_wp2_with (gi_at_builtin; refine wpListIn_append_own_at _ rfl _ _ 38 rfl (w1.heap.size + 2) 43 i0 (.agg #[.int .i64 0, .int .i64 0]) 2 16 Try.underlying38 hi hz0 hz1 hz2 rfl (by decide) _ pre.length (revC pre) rfl (HC3.out.1.alloc _) ⟨W.heap.size, 0, none⟩ 1 1 [.int .i64 q2, .int .i64 q1] rfl rfl (two_new _ _ _ _ _ rfl) ?c3 ?c4 ?c5 ?c6 ?_)
      case c3 => exact ⟨rfl, rfl⟩
      case c4 => unfold maxLen; omega
      case c5 => omega
      case c6 => first | omega | (simp; omega)
      intro v' W1 hown hg1 _ hat
      have hown2 := hown
      rw [revC_snoc pre (p1, (q1, q2))] at hown2
      obtain ⟨g', cap', rfl⟩ := ownsRow_succ hown
      obtain ⟨b1, b2, b3⟩ := boxy_kept (B := w1.heap.size + 2) (by omega) c4 HC3.out.1 hg1 c1 c2
      have R := Lib.hid (colly_push (x := ((p1, (q1, q2)) : Int × (Int × Int))) (Fx := fun k => k = w1.heap.size + 1 ∨ (1 ≤ ps.length ∧ (Value.slice ao ps.length cap).ownBlock = some k)) (B := w1.heap.size + 2) (by omega) (Nat.le_refl _) (fun k hk => by rcases hk with rfl | ⟨h1, h2⟩; omega; (have := HOWN.out k h2 h1; omega)) c1 c2 HC3.out c4 HC5.out HB.out (fun k hk => (HT.out k hk).1) hown2 hg1 (by simpa using hat))
      clear hown hown2 hg1 hat
      gi_wp2
      exact ⟨same2_of HBK.out R.out.1, R.out.2.1, R.out.2.2⟩
    case done =>
      rintro D xs T W hD rfl ⟨v, c1, c2, c3, c4, c5, c6⟩ hK
      have hD' : w1.heap.size ≤ D := by have := S5.out; omega
      have HF := Lib.hid (own_lower (B' := w.heap.size) (ownsRow_putObj c3.1 (.deferred none) hK rfl) (by have := HB1.out.size; omega))
      have HG := Lib.hid (bT HB1.out (c6.grown (grownBy_putObj' W D (.deferred none)) c6.size (fun k e => by cases e; exact hD')))
      clear c2 c3 c5 c6
      gi_wp2_with fail
      refine ⟨by simp, .inl ⟨_, _, rfl, run_takeDeferred hK, ?_⟩⟩
      refine ⟨.tuple #[v, .int .i64 0], ?_, v, rfl, ?_, HG.out⟩
      · simp [results, Try.results39, go_sem]
      · have := HF.out
        unfold revC at this
        rw [backPL_rev ps _ (Nat.le_refl _), List.take_of_length_le (Nat.le_refl _), backPL_len] at this
        rw [revT_len]
        exact this
    case stop =>
      rintro D c pre T W _ _ h _
      exact h.elim
end Go.Proofs.Ytcgennkddoajeaa

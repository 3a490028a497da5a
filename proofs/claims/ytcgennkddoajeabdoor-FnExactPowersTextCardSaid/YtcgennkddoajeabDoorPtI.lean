/-
  The contract of impl.PowersText.
-/
import Derived.Test.YtcgennkddoajeabDoorPtM
import Derived.Test.YtcgennkddoajeabDoorPwI
import Derived.Test.YtcgennkddoajeabDoorCollX
namespace Go.Proofs.YtcgennkddoajeabDoor
open Go.RowKit Go.Shelf
attribute [local go_sem] Oper.semAt_some

theorem infoTx : (Tryd.prog.info? 9).map (fun i => (i.zero, i.size, i.bytes)) = some (some (.string ⟨#[]⟩), 1, 16) := by kernel_rfl
def wC (l : List (Int × Int)) : List Value := jC (wTs l)
theorem wC_snoc (l : List (Int × Int)) (x : Int × Int) : wC (l ++ [x]) = wC l ++ [.string (wT x)] := by simp [wC, jC, wTs]
theorem wC_len (l : List (Int × Int)) : (wC l).length = l.length := by simp [wC, jC, wTs]
theorem ownI_lower2 {W : World} {B B' : Nat} {t : TypeId} {sz n : Nat} {v : Value} {xs : List Value} (h : W.ownsRow B t sz v n xs) (hB : B' ≤ B) : W.ownsRow B' t sz v n xs := by
  refine ⟨h.1, ?_⟩
  rcases h.2 with h0 | ⟨g', cap', cur, h0, hg, r⟩
  · exact .inl h0
  · exact .inr ⟨g', cap', cur, h0, Nat.le_trans hB hg, r⟩
theorem ko_of_bel {W W' : World} (h : Below W.heap.size W W') : KeepsOthers W W' :=
  ⟨h.size, fun k o hk _ => (h.block k (Array.getElem?_eq_some_iff.1 hk).1).trans hk⟩
theorem kept_of_bel {T Fx : Nat → Prop} {W W' : World} (h : Below W.heap.size W W') (hT : ∀ k, T k → k < W.heap.size) (hF : ∀ k, Fx k → k < W.heap.size) : Kept T Fx W W' :=
  ⟨h.os, h.tape, h.output, h.size, fun k hk => h.block k (hT k hk), fun k hk => h.block k (hF k hk)⟩
theorem collx_bel {α : Type} {t : TypeId} {sz : Nat} {f : List α → List Value} {b : Nat} {w : World} {pre : List α} {T : Nat → Prop} {W W' : World} (h : CollX t sz f b w pre T W) (hb : Below W.heap.size W W') : CollX t sz f b w pre T W' := by
  obtain ⟨v, c1, c2, c3, c4, c5, c6⟩ := h
  have e : W'.heap[b]? = W.heap[b]? := hb.block b c4
  exact ⟨v, (World.cell?_of_block e).trans c1, (World.frozen?_of_block e).trans c2, ⟨own_keep c3.1 hb, fun g hg => ⟨(c3.2 g hg).1, Nat.lt_of_lt_of_le (c3.2 g hg).2 hb.size⟩⟩, Nat.lt_of_lt_of_le c4 hb.size, c5, bT c6 hb⟩
set_option maxRecDepth 100000 in
set_option maxHeartbeats 8000000 in
theorem PowersTextI_any (n : Int) (w : World) (hp : Pow10 w) :
    Calls Tryd.prog 5 #[.int .i64 n] w fun e w' => e = .returned (.string (ptB n)) ∧ Below w.heap.size w w' := by
  obtain ⟨i0, hi, hz0, hz1, hz2⟩ := info_parts infoTx
  cases h : inB n 1 1000000000
  · rw [pt_no h]
    go_enter Tryd.func5, Tryd.ntmps5
    go_wp2_with fail
    refine (isTerm_any _ _).mono ?_
    rw [h]
    rintro e w1 ⟨rfl, rfl⟩
    go_wp2_with fail
    go_ret
    exact ⟨rfl, bR _⟩
  · obtain ⟨h1, h2⟩ := inB_true.1 h
    have HI := Lib.hid h
    have HPW := Lib.hid hp
    by_cases hn1 : n = 1
    · have HR := Lib.hid (pt_one h hn1)
      have bn : (n == 1) = true := by rw [hn1]; rfl
      clear h hn1
      go_enter Tryd.func5, Tryd.ntmps5
      go_wp2_with fail
      refine (isTerm_any _ _).mono ?_
      rw [HI.out]
      rintro e w1 ⟨rfl, rfl⟩
      go_wp2_with fail
      go_ret
      exact ⟨ret_txt HR.out.symm, bR _⟩
    · have HR := Lib.hid (pt_more h hn1)
      have bn : (n == 1) = false := by simpa using hn1
      clear h hn1
      refine (callsIn_wide (n := 8)).1 ?_
      refine callsIn_of_wp_marks Tryd.func5 rfl trivial ?_ rfl
      simp only [Tryd.ntmps5, List.size_toArray, List.length_cons, List.length_nil, Nat.reduceAdd, Nat.reduceSub, Array.replicate_succ, Array.replicate_zero, List.push_toArray, List.append_toArray, List.nil_append, List.cons_append]
      gi_wp2_with fail
      refine ⟨trivial, ?_⟩
      refine (callsIn_wide.2 (isTerm_any _ _)).mono ?_
      rw [HI.out]
      rintro e w1 ⟨rfl, rfl⟩
      gi_wp2_with fail
      refine ⟨trivial, ?_⟩
      refine (callsIn_wide.2 (powersOf_any _ _)).mono ?_
      rintro e w2 ⟨rfl, rfl⟩
      gi_wp2_with fail
      have hP := Lib.hid (powersP n (w.heap.size + 1) ((w.alloc (.cells #[.slice none 0 0] 26)).alloc (.cells #[.int .i64 n] 2)) h1 h2 (by simp) (by simp [go_sem]))
      have H0 := Lib.hid (show CollX 9 1 wC w.heap.size w [] none1 ((w.alloc (.cells #[.slice none 0 0] 26)).alloc (.cells #[.int .i64 n] 2)) from
        ⟨.slice none 0 0, by simp [go_sem], by simp [go_sem], ⟨World.ownsRow_nil _ _ _ _, fun g hg => by cases hg⟩, by simp; omega, fun k hk => hk.elim, bA (bA (bR _) _) _⟩)
      have S5 := Lib.hid (show ((w.alloc (.cells #[.slice none 0 0] 26)).alloc (.cells #[.int .i64 n] 2)).heap.size = w.heap.size + 2 by simp)
      change Code.wpIn _ _ _ _ _ _ ((w.alloc (.cells #[.slice none 0 0] 26)).alloc (.cells #[.int .i64 n] 2))
      generalize ((w.alloc (.cells #[.slice none 0 0] 26)).alloc (.cells #[.int .i64 n] 2)) = W5 at *
      refine rf_law 6 rfl rfl (gf := 14) rfl trivial (enters_of Tryd.func14 (by kernel_rfl) rfl) hP.out (fun _ h => h.elim) (bR _) (fun _ => rfl) (fun pre => CollX 9 1 wC w.heap.size w pre) (fun _ _ _ _ => False) (fun pre => collx_ab (Nat.le_refl _) pre) (fun _ _ _ _ _ _ h _ _ => h)
        (fun T pre => collx_turn (Nat.le_refl _) (by have := S5.out; omega) T pre) (fun _ _ _ _ _ _ h _ _ => h) H0.out
        (fun x a' _ => a' = { tmps := #[.int .i64 n, undef, .string ⟨#[]⟩, .pointer (some ⟨w.heap.size, 0, none⟩), .int .i64 x.1, .int .i64 x.2, undef, .int .i64 n, .bool true, .bool false, .int .i64 n, .bool false, .int .i64 n, .func (.func 14) #[] #[.pointer (some ⟨w.heap.size + 1, 0, none⟩)], .int .i64 x.1, .int .i64 x.2, undef, undef, undef, undef, undef, undef, undef, undef, undef, undef, undef, undef, undef, undef, undef], defers := [] }) (fun _ _ _ _ _ h _ _ => h) ?assign ?body ?done ?stop
      case assign =>
        rintro lr pre ⟨q, t⟩ T W K hi' ht hK
        have HI := Lib.hid hi'
        have HK := Lib.hid hK
        clear hi' ht hK
        simp only [encPw]
        gi_wp2_with fail
        exact HK.out _ _ (bR _) HI.out rfl
      case body =>
        rintro lr pre ⟨q, t⟩ a' T W hsp hcol ht hbk rfl hln
        have HT := Lib.hid (fun k hk => (ht k hk).1)
        have HBK := Lib.hid hbk
        obtain ⟨rest, hrest⟩ := hsp
        obtain ⟨q1, q2, t1, t2⟩ := pf_bd _ n 2 (Nat.le_refl _) (by omega) h1 (nd_two n) (q, t) (by rw [← hrest]; simp)
        have hcnt := pf_count h1 h2
        rw [← hrest] at hcnt
        simp only at q1 q2 t1 t2
        have hpl : pre.length ≤ 30 := by simp at hcnt; omega
        have HCOL := Lib.hid hcol
        have HPOW := Lib.hid (show Pow10 W by obtain ⟨_, _, _, _, _, _, c6⟩ := hcol; exact Pow10.keep c6 HPW.out)
        clear hcol ht hbk hrest hcnt hln
        have zq := decT_size (n := q) (by omega) (by omega)
        have zt := decT_size (n := t) (by omega) (by omega)
        have s1 := strAddL ⟨#[94]⟩ (decT t) (by decide) (by omega)
        have s2 := strAddL (decT q) (⟨#[94]⟩ ++ decT t) (by omega) (by rw [cat_size]; have : (⟨#[94]⟩ : ByteArray).size = 1 := rfl; omega)
        by_cases hm : 1 < t
        · have HWT := Lib.hid (wT_more (q := q) hm)
          gi_wp2_with fail
          refine ⟨trivial, ?_⟩
          refine (CallsIn.inRound _ (callsIn_wide.2 (DecimalT q _ HPOW.out (by omega) (by omega)))).mono ?_
          rintro e W1 ⟨rfl, hb1⟩
          have K1 := Lib.hid (ko_of_bel hb1)
          have P1 := Lib.hid (Pow10.keep hb1 HPOW.out)
          have L1 := Lib.hid (collx_bel HCOL.out hb1)
          have E1 := Lib.hid (kept_of_bel (T := T) (Fx := none1) hb1 HT.out (fun _ h => h.elim))
          have T1 := Lib.hid (fun k hk => Nat.lt_of_lt_of_le (HT.out k hk) hb1.size)
          clear hb1
          gi_wp2_with fail
          refine ⟨trivial, ?_⟩
          refine (CallsIn.inRound _ (callsIn_wide.2 (DecimalT t _ P1.out (by omega) (by omega)))).mono ?_
          rintro e W2 ⟨rfl, hb2⟩
          have K2 := Lib.hid (K1.out.trans (ko_of_bel hb2))
          have L2 := Lib.hid (collx_bel L1.out hb2)
          have E2 := Lib.hid (E1.out.trans (kept_of_bel (T := T) (Fx := none1) hb2 T1.out (fun _ h => h.elim)))
          have T2 := Lib.hid (fun k hk => Nat.lt_of_lt_of_le (T1.out k hk) hb2.size)
          clear hb2
          obtain ⟨v, c1, c2, c3, c4, c5, c6⟩ := L2.out
          have HC3 := Lib.hid c3
          have HC5 := Lib.hid c5
          have HB := Lib.hid c6
          have hsz := c6.size
          clear c3 c5 c6 L2
          gi_wp2_with (gi_at_builtin; refine wpListIn_append_own_at _ rfl _ _ 26 rfl (w.heap.size + 1) 9 i0 (.string ⟨#[]⟩) 1 16 Tryd.underlying26 hi hz0 hz1 hz2 rfl (by decide) _ pre.length (wC pre) rfl (HC3.out.1.alloc _) ⟨W2.heap.size, 0, none⟩ 1 1 [.string (decT q ++ (⟨#[94]⟩ ++ decT t))] rfl rfl (row_src _ _ _) ?c3 ?c4 ?c5 ?c6 ?_)
          case c3 => exact fun u hu => by rw [List.mem_singleton.1 hu]; rfl
          case c4 => unfold maxLen; omega
          case c5 => omega
          case c6 => first | omega | (simp; omega)
          intro v' W3 hown hg1 _ hat
          have hown2 := hown
          rw [← HWT.out, ← wC_snoc] at hown2
          obtain ⟨g', cap', rfl⟩ := ownsRow_succ hown
          obtain ⟨b1, b2, b3⟩ := boxx_kept c4 HC3.out.1 hg1 c1 c2
          have R := Lib.hid (collx_push (x := (q, t)) (f := wC) (Fx := none1) (Nat.le_refl _) (fun _ h => h.elim) c1 c2 HC3.out c4 HC5.out HB.out T2.out hown2 hg1 (by simpa using hat))
          clear hown hown2 hg1 hat
          gi_wp2
          exact ⟨same2_of HBK.out (K2.out.trans R.out.1), E2.out.trans R.out.2.1, R.out.2.2⟩
        · have HWT := Lib.hid (wT_one (q := q) hm)
          gi_wp2_with fail
          refine ⟨trivial, ?_⟩
          refine (CallsIn.inRound _ (callsIn_wide.2 (DecimalT q _ HPOW.out (by omega) (by omega)))).mono ?_
          rintro e W2 ⟨rfl, hb1⟩
          have K2 := Lib.hid (ko_of_bel hb1)
          have L2 := Lib.hid (collx_bel HCOL.out hb1)
          have E2 := Lib.hid (kept_of_bel (T := T) (Fx := none1) hb1 HT.out (fun _ h => h.elim))
          have T2 := Lib.hid (fun k hk => Nat.lt_of_lt_of_le (HT.out k hk) hb1.size)
          clear hb1
          obtain ⟨v, c1, c2, c3, c4, c5, c6⟩ := L2.out
          have HC3 := Lib.hid c3
          have HC5 := Lib.hid c5
          have HB := Lib.hid c6
          have hsz := c6.size
          clear c3 c5 c6 L2
          gi_wp2_with (gi_at_builtin; refine wpListIn_append_own_at _ rfl _ _ 26 rfl (w.heap.size + 1) 9 i0 (.string ⟨#[]⟩) 1 16 Tryd.underlying26 hi hz0 hz1 hz2 rfl (by decide) _ pre.length (wC pre) rfl (HC3.out.1.alloc _) ⟨W2.heap.size, 0, none⟩ 1 1 [.string (decT q)] rfl rfl (row_src _ _ _) ?c3 ?c4 ?c5 ?c6 ?_)
          case c3 => exact fun u hu => by rw [List.mem_singleton.1 hu]; rfl
          case c4 => unfold maxLen; omega
          case c5 => omega
          case c6 => first | omega | (simp; omega)
          intro v' W3 hown hg1 _ hat
          have hown2 := hown
          rw [← HWT.out, ← wC_snoc] at hown2
          obtain ⟨g', cap', rfl⟩ := ownsRow_succ hown
          obtain ⟨b1, b2, b3⟩ := boxx_kept c4 HC3.out.1 hg1 c1 c2
          have R := Lib.hid (collx_push (x := (q, t)) (f := wC) (Fx := none1) (Nat.le_refl _) (fun _ h => h.elim) c1 c2 HC3.out c4 HC5.out HB.out T2.out hown2 hg1 (by simpa using hat))
          clear hown hown2 hg1 hat
          gi_wp2
          exact ⟨same2_of HBK.out (K2.out.trans R.out.1), E2.out.trans R.out.2.1, R.out.2.2⟩
      case done =>
        rintro D xs T W hD rfl hcol hK
        subst hD
        obtain ⟨v, c1, c2, c3, c4, c5, c6⟩ := hcol
        have C3 := Lib.hid c3
        have C6 := Lib.hid c6
        have HS := Lib.hid (slT_of (ss := wTs (pfL n 2)) (by rw [wTs_len]; exact c3.1))
        have hcnt := pf_count h1 h2
        have hDs : W5.heap.size < W.heap.size := (Array.getElem?_eq_some_iff.1 hK).1
        clear c2 c3 c5 c6
        gi_wp2_with fail
        refine ⟨trivial, ?_⟩
        refine (callsIn_wide.2 (Join_any (wTs (pfL n 2)) v _ HS.out (by rw [wTs_len]; omega) ?_)).mono ?_
        · intro s hs
          obtain ⟨x, hx, rfl⟩ := List.mem_map.1 (show s ∈ (pfL n 2).map wT from hs)
          obtain ⟨a1, a2, a3, a4⟩ := pf_bd _ n 2 (Nat.le_refl _) (by omega) h1 (nd_two n) x hx
          have := wT_size (x := x) (by omega) (by omega) a3 (by omega)
          omega
        rintro e W1 ⟨rfl, hb⟩
        have hK1 := (hb.block _ hDs).trans hK
        have HF := Lib.hid ((bT C6.out hb).grown (grownBy_putObj' W1 W5.heap.size (.deferred none)) (bT C6.out hb).size (fun k e => by cases e; have := S5.out; omega))
        clear hb
        gi_wp2_with fail
        refine ⟨by simp, .inl ⟨_, _, rfl, run_takeDeferred hK1, ?_⟩⟩
        refine ⟨.string (joinB (wTs (pfL n 2))), ?_, ret_txt HR.out.symm, HF.out⟩
        simp [results, Tryd.results5, go_sem]
      case stop =>
        rintro D c pre T W _ _ h _
        exact h.elim
end Go.Proofs.YtcgennkddoajeabDoor

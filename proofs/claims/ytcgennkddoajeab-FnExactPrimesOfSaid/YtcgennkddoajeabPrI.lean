/-
  The contract of impl.PrimesOf.
-/
import Derived.Test.YtcgennkddoajeabPfS
import Derived.Test.YtcgennkddoajeabPwI
import Derived.Test.YtcgennkddoajeabCollX
namespace Go.Proofs.Ytcgennkddoajeab
open Go.RowKit Go.Shelf
attribute [local go_sem] Oper.semAt_some

theorem pf_pos : ∀ (k : Nat) (n p : Int), (n - p).toNat ≤ k → 2 ≤ p → 1 ≤ n → ∀ x ∈ pfL n p, 1 ≤ x.2 := by
  intro k
  induction k with
  | zero =>
    intro n p hk hp hn x hx
    by_cases h : p * p ≤ n
    · have := sq_lt hp h; omega
    · rw [pf_end h] at hx
      split at hx
      · simp at hx; rw [hx]; exact Int.le_refl _
      · simp at hx
  | succ k ih =>
    intro n p hk hp hn x hx
    by_cases h : p * p ≤ n
    · have h1 := sq_lt hp h
      obtain ⟨a1, a2, a3, a4⟩ := strip_spec hp hn
      rw [pf_go hp h] at hx
      rcases List.mem_append.1 hx with hx | hx
      · split at hx
        · simp at hx
        · simp at hx; rw [hx]; simp; omega
      · exact ih _ _ (by omega) (by omega) a1 x hx
    · rw [pf_end h] at hx
      split at hx
      · simp at hx; rw [hx]; exact Int.le_refl _
      · simp at hx
theorem strip_sum : ∀ (k : Nat) (n p : Int), n.toNat ≤ k → 2 ≤ p → 1 ≤ n → ((strip n p).1 : Int) + (strip n p).2 ≤ n
  | 0, n, p, hk, _, hn => by omega
  | k + 1, n, p, hk, hp, hn => by
    by_cases h : n % p = 0
    · obtain ⟨e1, e2⟩ := strip_go hp hn h
      have hl := div_less hp hn
      have := strip_sum k (n / p) p (by omega) hp (div_one_le hp hn h)
      rw [e1, e2]; omega
    · rw [strip_no h]; simp
theorem exL_len : ∀ (k : Nat) (n p : Int), (n - p).toNat ≤ k → 2 ≤ p → 1 ≤ n → ((exL (pfL n p)).length : Int) + 1 ≤ n := by
  have fin : ∀ (n p : Int), 1 ≤ n → ¬ p * p ≤ n → ((exL (pfL n p)).length : Int) + 1 ≤ n := by
    intro n p hn h
    rw [pf_end h]
    split
    · simp [exL]; omega
    · simp [exL]; omega
  intro k
  induction k with
  | zero =>
    intro n p hk hp hn
    by_cases h : p * p ≤ n
    · have := sq_lt hp h; omega
    · exact fin n p hn h
  | succ k ih =>
    intro n p hk hp hn
    by_cases h : p * p ≤ n
    · have h1 := sq_lt hp h
      obtain ⟨a1, a2, a3, a4⟩ := strip_spec hp hn
      have h3 := strip_sum n.toNat n p (Nat.le_refl _) hp hn
      have h4 := ih (strip n p).2 (p + 1) (by omega) (by omega) a1
      rw [inn_start hp h]
      unfold inn
      rw [List.length_append, List.length_replicate]
      omega
    · exact fin n p hn h
theorem primes_len {n : Int} (h : 1 ≤ n) : ((primesL n).length : Int) ≤ n := by
  have := exL_len (n - 2).toNat n 2 (Nat.le_refl _) (by omega) h
  unfold primesL; omega
theorem prL_len (n : Int) : (prL n).length ≤ 1000000000 := by
  unfold prL
  split
  · rename_i h
    obtain ⟨h1, h2⟩ := inB_true.1 h
    have := primes_len h1
    omega
  · simp
theorem exL_snoc (pre : List (Int × Int)) (x : Int × Int) : exL (pre ++ [x]) = exL pre ++ List.replicate x.2.toNat x.1 := by simp [exL]
/-- What stands in the inner loop of a round. -/
def InRel (w W : World) (T : Nat → Prop) (pre : List (Int × Int)) (q : Int) (tn : Nat) (i : Value) (wr : World) : Prop :=
  ∃ j : Nat, i = .int .i64 j ∧ j ≤ tn ∧ KeepsOthers W wr ∧ Kept T none1 W wr ∧ CollX 2 1 intC w.heap.size w (exL pre ++ List.replicate j q) T wr
theorem ownI_lower {W : World} {B B' : Nat} {t : TypeId} {sz n : Nat} {v : Value} {xs : List Value} (h : W.ownsRow B t sz v n xs) (hB : B' ≤ B) : W.ownsRow B' t sz v n xs := by
  refine ⟨h.1, ?_⟩
  rcases h.2 with h0 | ⟨g', cap', cur, h0, hg, r⟩
  · exact .inl h0
  · exact .inr ⟨g', cap', cur, h0, Nat.le_trans hB hg, r⟩
set_option maxRecDepth 100000 in
set_option maxHeartbeats 8000000 in
theorem PrimesOfI_any (n : Int) (w : World) :
    Calls Try.prog 15 #[.int .i64 n] w (IntsC w (prL n) (prC n)) := by
  obtain ⟨i0, hi, hz0, hz1, hz2⟩ := info_parts infoI64
  cases h : inB n 1 1000000000
  · rw [(pr_no h).1, (pr_no h).2]
    go_enter Try.func15, Try.ntmps15
    go_wp2_with fail
    refine (isTerm_any _ _).mono ?_
    rw [h]
    rintro e w1 ⟨rfl, rfl⟩
    go_wp2_with fail
    go_ret2
    exact ⟨_, rfl, World.ownsRow_nil _ _ _ _, bR _⟩
  · rw [(pr_yes h).1, (pr_yes h).2]
    obtain ⟨h1, h2⟩ := inB_true.1 h
    have HI := Lib.hid h
    clear h
    refine (callsIn_wide (n := 8)).1 ?_
    refine callsIn_of_wp_marks Try.func15 rfl trivial ?_ rfl
    simp only [Try.ntmps15, List.size_toArray, List.length_cons, List.length_nil, Nat.reduceAdd, Nat.reduceSub, Array.replicate_succ, Array.replicate_zero, List.push_toArray, List.append_toArray, List.nil_append, List.cons_append]
    gi_wp2_with fail
    refine ⟨trivial, ?_⟩
    refine (callsIn_wide.2 (isTerm_any _ _)).mono ?_
    rw [HI.out]
    rintro e w1 ⟨rfl, rfl⟩
    gi_wp2_with fail
    refine ⟨trivial, ?_⟩
    refine (callsIn_wide.2 (powersOf_any _ _)).mono ?_
    rintro e w2 ⟨rfl, rfl⟩
    gi_wp2_with fail
    have hP := Lib.hid (powersP n (w.heap.size + 1) ((w.alloc (.cells #[.slice none 0 0] 29)).alloc (.cells #[.int .i64 n] 2)) h1 h2 (by simp) (by simp [go_sem]))
    have H0 := Lib.hid (show CollX 2 1 intC w.heap.size w (exL []) none1 ((w.alloc (.cells #[.slice none 0 0] 29)).alloc (.cells #[.int .i64 n] 2)) from
      ⟨.slice none 0 0, by simp [go_sem], by simp [go_sem], ⟨World.ownsRow_nil _ _ _ _, fun g hg => by cases hg⟩, by simp; omega, fun k hk => hk.elim, bA (bA (bR _) _) _⟩)
    have S5 := Lib.hid (show ((w.alloc (.cells #[.slice none 0 0] 29)).alloc (.cells #[.int .i64 n] 2)).heap.size = w.heap.size + 2 by simp)
    change Code.wpIn _ _ _ _ _ _ ((w.alloc (.cells #[.slice none 0 0] 29)).alloc (.cells #[.int .i64 n] 2))
    generalize ((w.alloc (.cells #[.slice none 0 0] 29)).alloc (.cells #[.int .i64 n] 2)) = W5 at *
    refine rf_law 6 rfl rfl (gf := 48) rfl trivial (enters_of Try.func48 (by kernel_rfl) rfl) hP.out (fun _ h => h.elim) (bR _) (fun _ => rfl) (fun pre => CollX 2 1 intC w.heap.size w (exL pre)) (fun _ _ _ _ => False) (fun pre => collx_ab (Nat.le_refl _) (exL pre)) (fun _ _ _ _ _ _ h _ _ => h)
      (fun T pre => collx_turn (Nat.le_refl _) (by have := S5.out; omega) T (exL pre)) (fun _ _ _ _ _ _ h _ _ => h) H0.out
      (fun x a' _ => a' = { tmps := #[.int .i64 n, undef, .slice none 0 0, .int .i64 0, .pointer (some ⟨w.heap.size, 0, none⟩), .int .i64 x.1, .int .i64 x.2, .int .i64 n, .bool true, .bool false, .int .i64 n, .func (.func 48) #[] #[.pointer (some ⟨w.heap.size + 1, 0, none⟩)], .int .i64 x.1, .int .i64 x.2, undef, undef, undef, undef, undef, undef, undef, undef, undef], defers := [] }) (fun _ _ _ _ _ h _ _ => h) ?assign ?body ?done ?stop
    case assign =>
      rintro lr pre ⟨q, t⟩ T W K hi' ht hK
      have HI := Lib.hid hi'
      have HK := Lib.hid hK
      clear hi' ht hK
      simp only [encPw]
      gi_wp2_with fail
      exact HK.out _ _ (bR _) HI.out rfl
    case body =>
      rintro lr pre ⟨q, t⟩ a' T W hsp hcol ht hbk rfl hln
      have HT := Lib.hid ht
      have HBK := Lib.hid hbk
      obtain ⟨rest, hrest⟩ := hsp
      have hpos : 1 ≤ t := pf_pos (n - 2).toNat n 2 (Nat.le_refl _) (by omega) h1 (q, t) (by rw [← hrest]; simp)
      obtain ⟨tn, rfl⟩ := Int.eq_ofNat_of_zero_le (show 0 ≤ t by omega)
      have hll : (exL pre).length + tn ≤ (primesL n).length := by
        have h3 : primesL n = exL pre ++ (List.replicate tn q ++ exL rest) := by
          unfold primesL
          rw [← hrest, exL_append, exL_snoc, List.append_assoc]
          simp
        rw [h3, List.length_append, List.length_append, List.length_replicate]; omega
      have hpl := primes_len h1
      have hmax : (exL pre).length + tn ≤ 1000000000 := by omega
      have HX := Lib.hid (exL_snoc pre (q, (tn : Int)))
      have RI := Lib.hid (show InRel w W T pre q tn (.int .i64 0) W from ⟨0, rfl, Nat.zero_le _, KeepsOthers.refl _, ⟨rfl, rfl, rfl, Nat.le_refl _, fun _ _ => rfl, fun _ _ => rfl⟩, by simpa using hcol⟩)
      clear hcol ht hbk hrest hll hpl hln
      gi_wp2_with fail
      gi_loopw [15] (fun i wr => InRel w W T pre q tn i wr) (fun i _ => tn - (intOf i).toNat)
      case atStart => exact RI.out
      case round =>
        obtain ⟨j, rfl, hj, hko, hke, v, c1, c2, c3, c4, c5, c6⟩ := hrel
        have HKO := Lib.hid hko
        have HKE := Lib.hid hke
        have HC3 := Lib.hid c3
        have HC5 := Lib.hid c5
        have HB := Lib.hid c6
        have hsz := c6.size
        have HTW := Lib.hid (fun (k : Nat) (hk : T k) => Nat.lt_of_lt_of_le (HT.out k hk).1 hke.size)
        clear hko hke c3 c5 c6
        by_cases hlt : j < tn
        · have hlen : (exL pre ++ List.replicate j q).length = (exL pre).length + j := by simp
          have HLEN := Lib.hid hlen
          gi_wp2_with (gi_at_builtin; refine wpListIn_append_own_at _ rfl _ _ 29 rfl (w.heap.size + 1) 2 i0 (.int .i64 0) 1 8 Try.underlying29 hi hz0 hz1 hz2 rfl (by decide) _ (exL pre ++ List.replicate j q).length (intC (exL pre ++ List.replicate j q)) rfl (HC3.out.1.alloc _) ⟨wr.heap.size, 0, none⟩ 1 1 [.int .i64 q] rfl rfl (row_src _ _ _) ?c3 ?c4 ?c5 ?c6 ?_)
          case c3 => exact fun u hu => by rw [List.mem_singleton.1 hu]; rfl
          case c4 => have := HLEN.out; unfold maxLen; omega
          case c5 => have := HLEN.out; omega
          case c6 => first | omega | (simp; omega)
          intro v' W1 hown hg1 _ hat
          have hown2 := hown
          rw [← intC_one, ← intC_append] at hown2
          obtain ⟨g', cap', rfl⟩ := ownsRow_succ hown
          obtain ⟨b1, b2, b3⟩ := boxx_kept c4 HC3.out.1 hg1 c1 c2
          have R := Lib.hid (collx_push (x := q) (f := intC) (Fx := none1) (Nat.le_refl _) (fun _ h => h.elim) c1 c2 HC3.out c4 HC5.out HB.out HTW.out (by rw [HLEN.out]; exact hown2) hg1 (by simpa using hat))
          clear hown hown2 hg1 hat hlen
          have RN := Lib.hid (show InRel w W T pre q tn (.int .i64 ((j : Int) + 1)) _ from ⟨j + 1, by go_num, by omega, HKO.out.trans R.out.1, HKE.out.trans R.out.2.1, by rw [List.replicate_succ', ← List.append_assoc]; exact R.out.2.2⟩)
          gi_wp2
          exact ⟨RN.out, by simp [intOf]; omega⟩
        · obtain rfl : j = tn := by omega
          have RF := Lib.hid (show CollX 2 1 intC w.heap.size w (exL (pre ++ [(q, (j : Int))])) T wr by
            rw [HX.out]
            show CollX 2 1 intC w.heap.size w (exL pre ++ List.replicate (Int.toNat (j : Int)) q) T wr
            rw [Int.toNat_natCast]
            exact ⟨v, c1, c2, HC3.out, c4, HC5.out, HB.out⟩)
          gi_wp2_with fail
          exact ⟨same2_of HBK.out HKO.out, HKE.out, RF.out⟩
    case done =>
      rintro D xs T W hD rfl ⟨v, c1, c2, c3, c4, c5, c6⟩ hK
      have hD' : w.heap.size ≤ D := by have := S5.out; omega
      have HF := Lib.hid (ownI_lower (B' := w.heap.size) (ownsRow_putObj c3.1 (.deferred none) hK rfl) (by omega))
      have HG := Lib.hid (c6.grown (grownBy_putObj' W D (.deferred none)) c6.size (fun k e => by cases e; exact hD'))
      clear c2 c3 c5 c6
      gi_wp2_with fail
      refine ⟨by simp, .inl ⟨_, _, rfl, run_takeDeferred hK, ?_⟩⟩
      refine ⟨.tuple #[v, .int .i64 0], ?_, v, rfl, HF.out, HG.out⟩
      simp [results, Try.results15, go_sem]
    case stop =>
      rintro D c pre T W _ _ h _
      exact h.elim
end Go.Proofs.Ytcgennkddoajeab

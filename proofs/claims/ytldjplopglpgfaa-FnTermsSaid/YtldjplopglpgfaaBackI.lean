/-
  slices.Backward at int64, and slices.ContainsFunc with impl.isNotPositive.
-/
import Derived.Test.YtldjplopglpgfaaTermsI
import Derived.Test.YtldjplopglpgfaaRtS
namespace Go.Proofs.Ytldjplopglpgfaa
open Go.RowKit Go.Shelf
attribute [local go_sem] Oper.semAt_some

/-- The numbers of a list with their places, from the k-th back to the first. -/
def backL (ts : List Int) : Nat → List (Int × Int)
  | 0 => []
  | k + 1 => ((k : Int), at0 ts k) :: backL ts k
theorem backL_len (ts : List Int) (k : Nat) : (backL ts k).length = k := by induction k with
  | zero => rfl
  | succ k ih => simp [backL, ih]
theorem IntsAt.of_block {w w' : World} {g : Nat} {ts : List Int} (h : IntsAt w g ts) (hb : w'.heap[g]? = w.heap[g]?) : IntsAt w' g ts := fun i hi => (World.cell?_of_block hb).trans (h i hi)
def encBk (x : Int × Int) : Array Value := #[.int .i64 x.1, .int .i64 x.2]
def BkRel (ts : List Int) (bb g cap : Nat) (J : List (Int × Int) → (Nat → Prop) → World → Prop) (i : Value) (wr : World) : Prop :=
  ∃ (pre : List (Int × Int)) (k : Nat) (iv : Int) (T : Nat → Prop), i = .int .i64 iv ∧ iv = (k : Int) - 1 ∧ k ≤ ts.length ∧ backL ts ts.length = pre ++ backL ts k ∧ J pre T wr ∧ (∀ k, T k → k < wr.heap.size) ∧ wr.cell? ⟨bb, 0, none⟩ = some (.slice (some ⟨g, 0, none⟩) ts.length cap) ∧ IntsAt wr g ts
set_option maxHeartbeats 4000000 in
theorem backP (ts : List Int) (bb g cap : Nat) (w : World) (hlen : ts.length ≤ 1000000000000) (hb : bb < w.heap.size) (hg : g < w.heap.size) (c0 : w.cell? ⟨bb, 0, none⟩ = some (.slice (some ⟨g, 0, none⟩) ts.length cap)) (c1 : IntsAt w g ts) :
    SeqP Fence.wide Try.prog 40 #[.pointer (some ⟨bb, 0, none⟩)] encBk (fun k => k = bb ∨ k = g) (fun xs => xs = backL ts ts.length) (fun pre => pre <+: backL ts ts.length) ts.length w := by
  intro nn m l J Jx W hW hJ hJx hY hJ0
  have e0 : W.cell? ⟨bb, 0, none⟩ = some (.slice (some ⟨g, 0, none⟩) ts.length cap) := (hW.cell (p := ⟨bb, 0, none⟩) hb).trans c0
  have HY := Lib.hid hY
  have RS := Lib.hid (show BkRel ts bb g cap J (.int .i64 ((ts.length : Int) - 1)) W from ⟨[], ts.length, _, none1, rfl, rfl, Nat.le_refl _, rfl, hJ0, fun k hk => hk.elim, e0, c1.keep hg hW⟩)
  clear hY hJ0 c0 c1
  refine callsIn_of_wp Try.func40 rfl trivial ?_ rfl
  simp only [Try.ntmps40, List.size_toArray, List.length_cons, List.length_nil, Nat.reduceAdd, Nat.reduceSub, Array.replicate_succ, Array.replicate_zero, List.push_toArray, List.append_toArray, List.nil_append, List.cons_append]
  gi_wp2
  gi_loopw [3] (fun i wr => BkRel ts bb g cap J i wr) (fun i _ => (intOf i + 1).toNat)
  case atStart => exact RS.out
  case round =>
    obtain ⟨pre, k, iv, T, rfl, hiv, hk, hpre, hj, hTl, hc, hi⟩ := hrel
    have HP := Lib.hid hpre
    have HI := Lib.hid hi
    have HT := Lib.hid hTl
    clear hpre hi hTl e0
    cases k with
    | zero =>
      obtain rfl : iv = -1 := by omega
      clear hiv
      gi_wp2_with fail
      go_end0
      exact ⟨⟨_, rfl⟩, .inl ⟨pre, T, by rw [HP.out]; simp [backL], hj⟩⟩
    | succ j =>
      obtain rfl : iv = (j : Int) := by omega
      clear hiv
      have cj := HI.out j (by omega)
      have HPX := Lib.hid (show pre ++ [((j : Int), at0 ts j)] <+: backL ts ts.length from ⟨backL ts j, by rw [HP.out]; simp [backL]⟩)
      have hl : pre.length < ts.length := by have := congrArg List.length HP.out; rw [List.length_append, backL_len, backL_len] at this; omega
      obtain ⟨fn, tmps, assign, body, hy, hR⟩ := HY.out pre ((j : Int), at0 ts j) T wr HPX.out hj HT.out hl
      have HR := Lib.hid hR
      clear hR
      dsimp only [encBk] at hy
      gi_wp2_with fail
      refine ⟨wdep _, (roundAny HR.out).mono ?_⟩
      rintro e W2 (⟨rfl, hj2, hk2⟩ | ⟨rfl, hjx, _⟩)
      · gi_wp2_with fail
        refine ⟨⟨pre ++ [((j : Int), at0 ts j)], j, _, T, rfl, rfl, by omega, by rw [HP.out]; simp [backL], hj2, fun k hk => Nat.lt_of_lt_of_le (HT.out k hk) hk2.size, (World.cell?_of_block (hk2.read bb (.inl rfl))).trans hc, HI.out.of_block (hk2.read g (.inr rfl))⟩, ?_⟩
        simp [intOf]
      · gi_wp2_with fail
        refine bodyPost_ret (results_none rfl _ _ _) rfl ?_
        exact ⟨⟨_, rfl⟩, .inr ⟨_, _, HPX.out, hjx⟩⟩
theorem Backward_any (v : Value) (w : World) (hv : ∃ a n c, v = .slice a n c) :
    Calls Try.prog 23 #[v] w fun e w' => e = .returned (.func (.func 40) #[] #[.pointer (some ⟨w.heap.size, 0, none⟩)]) ∧ w.alloc (.cells #[v] 28) = w' := by
  obtain ⟨a, n, c, rfl⟩ := hv
  go_enter Try.func23, Try.ntmps23
  go_wp2_with fail
  go_ret
  exact ⟨rfl, rfl⟩
theorem isNotPositive_any (n : Int) (w : World) :
    Calls Try.prog 22 #[.int .i64 n] w fun e w' => e = .returned (.bool (decide (n ≤ 0))) ∧ w = w' := by
  go_enter Try.func22, Try.ntmps22
  go_wp2_with fail
  go_ret
  exact ⟨rfl, rfl⟩
/-- A list of numbers from a cell on. -/
def IntsFrom (w : World) (g o : Nat) (us : List Int) : Prop := ∀ i, i < us.length → w.cell? ⟨g, o + i, none⟩ = some (.int .i64 (at0 us i))
def HasRet (w : World) (us : List Int) (e : Ending) (w' : World) : Prop := e = .returned (.bool (us.any fun u => decide (u ≤ 0))) ∧ w = w'
def IdxRet (w : World) (us : List Int) (e : Ending) (w' : World) : Prop := ∃ r : Int, e = .returned (.int .i64 r) ∧ (us.any fun u => decide (u ≤ 0)) = decide (0 ≤ r) ∧ w = w'
theorem any_at {us : List Int} {k : Nat} (h : k < us.length) (hb : at0 us k ≤ 0) : (us.any fun u => decide (u ≤ 0)) = true := List.any_eq_true.2 ⟨_, at0_mem h, by simpa using hb⟩
theorem any_none {us : List Int} (h : ∀ j, j < us.length → ¬ at0 us j ≤ 0) : (us.any fun u => decide (u ≤ 0)) = false := by
  rw [List.any_eq_false]
  intro u hu
  obtain ⟨i, hi, rfl⟩ := List.getElem_of_mem hu
  have := h i hi
  unfold at0 at this
  rw [List.getElem?_eq_getElem hi] at this
  simpa using this
set_option maxHeartbeats 1000000 in
theorem IndexFunc_any (us : List Int) (g o cap : Nat) (w : World) (hc : IntsFrom w g o us) (hlen : us.length ≤ 1000000000000) :
    Calls Try.prog 39 #[.slice (some ⟨g, o, none⟩) us.length cap, .func (.func 22) #[] #[]] w (IdxRet w us) := by
  have HC := Lib.hid hc
  clear hc
  go_enter Try.func39, Try.ntmps39
  go_wp2_with fail
  go_loop [8] (fun i => ∃ k : Nat, k ≤ us.length ∧ i = .int .i64 k ∧ ∀ j, j < k → ¬ at0 us j ≤ 0) (fun i => us.length - (intOf i).toNat)
  case atStart => exact ⟨0, by omega, rfl, fun j h => by omega⟩
  case round =>
    obtain ⟨k, k1, rfl, hall⟩ := hrel
    have HALL := Lib.hid hall
    clear hall
    by_cases hlt : k < us.length
    · have ck := HC.out k hlt
      by_cases hb : at0 us k ≤ 0
      · have HN := Lib.hid (any_at hlt hb)
        go_wp2_with fail
        refine (isNotPositive_any _ _).mono ?_
        rintro e w1 ⟨rfl, rfl⟩
        go_wp2_with fail
        go_ret
        exact ⟨_, rfl, by rw [HN.out]; simp, rfl⟩
      · go_wp2_with fail
        refine (isNotPositive_any _ _).mono ?_
        rintro e w1 ⟨rfl, rfl⟩
        go_wp2_with fail
        go_round
        case rel => exact ⟨k + 1, by omega, by go_num, fun j j2 => by rcases Nat.lt_succ_iff_lt_or_eq.1 j2 with h | h; (have := HALL.out j h; omega); rw [h]; omega⟩
        case measure => simp [intOf]; omega
    · have HN := Lib.hid (any_none (us := us) (fun j hj => HALL.out j (by omega)))
      go_wp2_with fail
      go_ret
      exact ⟨_, rfl, by rw [HN.out]; simp, rfl⟩
theorem ContainsFunc_any (us : List Int) (g o cap : Nat) (w : World) (hc : IntsFrom w g o us) (hlen : us.length ≤ 1000000000000) :
    Calls Try.prog 21 #[.slice (some ⟨g, o, none⟩) us.length cap, .func (.func 22) #[] #[]] w (HasRet w us) := by
  go_enter Try.func21, Try.ntmps21
  go_wp2_with fail
  refine (IndexFunc_any us g o cap w hc hlen).mono ?_
  rintro e w1 ⟨r, rfl, hr, rfl⟩
  have HR := Lib.hid hr
  clear hr
  go_wp2_with fail
  go_ret
  exact ⟨ret_bool HR.out.symm, rfl⟩
end Go.Proofs.Ytldjplopglpgfaa

/-
  slices.Backward at pairs.
-/
import Derived.Test.YtcgennkddoajeaaTermsI
import Derived.Test.YtcgennkddoajeaaCollX
import Derived.Test.YtcgennkddoajeaaTrA
namespace Go.Proofs.Ytcgennkddoajeaa
open Go.RowKit Go.Shelf
attribute [local go_sem] Oper.semAt_some

/-- The pairs of a list with their places, from the k-th back to the first. -/
def backPL (ps : List (Int × Int)) : Nat → List (Int × (Int × Int))
  | 0 => []
  | k + 1 => ((k : Int), pat ps k) :: backPL ps k
theorem backPL_len (ps : List (Int × Int)) (k : Nat) : (backPL ps k).length = k := by induction k with
  | zero => rfl
  | succ k ih => simp [backPL, ih]
theorem SlP.of_kept {W W' : World} {v : Value} {ps : List (Int × Int)} (h : SlP W v ps) (hs : W.heap.size ≤ W'.heap.size) (hb : ∀ g, v.ownBlock = some g → W'.heap[g]? = W.heap[g]?) : SlP W' v ps := by
  obtain ⟨ao, cap, rfl, h1⟩ := h
  refine ⟨ao, cap, rfl, fun hl => ?_⟩
  obtain ⟨g, rfl, hg, hc⟩ := h1 hl
  have e := hb g rfl
  exact ⟨g, rfl, Nat.lt_of_lt_of_le hg hs, fun i hi => ⟨(World.cell?_of_block e).trans (hc i hi).1, (World.cell?_of_block e).trans (hc i hi).2⟩⟩
def encBp (x : Int × (Int × Int)) : Array Value := #[.int .i64 x.1, .agg #[.int .i64 x.2.1, .int .i64 x.2.2]]
def BpRel (ps : List (Int × Int)) (bb : Nat) (v : Value) (J : List (Int × (Int × Int)) → (Nat → Prop) → World → Prop) (i : Value) (wr : World) : Prop :=
  ∃ (pre : List (Int × (Int × Int))) (k : Nat) (iv : Int) (T : Nat → Prop), i = .int .i64 iv ∧ iv = (k : Int) - 1 ∧ k ≤ ps.length ∧ backPL ps ps.length = pre ++ backPL ps k ∧ J pre T wr ∧ (∀ k, T k → k < wr.heap.size) ∧ wr.cell? ⟨bb, 0, none⟩ = some v ∧ SlP wr v ps
set_option maxHeartbeats 4000000 in
theorem backPP (ps : List (Int × Int)) (bb : Nat) (ao : Option Addr) (cap : Nat) (w : World) (hlen : ps.length ≤ 1048576) (hb : bb < w.heap.size) (c0 : w.cell? ⟨bb, 0, none⟩ = some (.slice ao ps.length cap)) (c1 : SlP w (.slice ao ps.length cap) ps) :
    SeqP Fence.wide Try.prog 97 #[.pointer (some ⟨bb, 0, none⟩)] encBp (fun k => k = bb ∨ (1 ≤ ps.length ∧ (Value.slice ao ps.length cap).ownBlock = some k)) (fun xs => xs = backPL ps ps.length) (fun pre => pre <+: backPL ps ps.length) ps.length w := by
  intro nn m l J Jx W hW hJ hJx hY hJ0
  have e0 : W.cell? ⟨bb, 0, none⟩ = some (.slice ao ps.length cap) := (hW.cell (p := ⟨bb, 0, none⟩) hb).trans c0
  have HY := Lib.hid hY
  have RS := Lib.hid (show BpRel ps bb (.slice ao ps.length cap) J (.int .i64 ((ps.length : Int) - 1)) W from ⟨[], ps.length, _, none1, rfl, rfl, Nat.le_refl _, rfl, hJ0, fun k hk => hk.elim, e0, c1.keep hW⟩)
  clear hY hJ0 c0 c1
  refine callsIn_of_wp Try.func97 rfl trivial ?_ rfl
  simp only [Try.ntmps97, List.size_toArray, List.length_cons, List.length_nil, Nat.reduceAdd, Nat.reduceSub, Array.replicate_succ, Array.replicate_zero, List.push_toArray, List.append_toArray, List.nil_append, List.cons_append]
  gi_wp2
  gi_loopw [3] (fun i wr => BpRel ps bb (.slice ao ps.length cap) J i wr) (fun i _ => (intOf i + 1).toNat)
  case atStart => exact RS.out
  case round =>
    obtain ⟨pre, k, iv, T, rfl, hiv, hk, hpre, hj, hTl, hc, hi⟩ := hrel
    have HP := Lib.hid hpre
    have HI := Lib.hid hi
    have HT := Lib.hid hTl
    clear hpre hi hTl e0
    cases k with
    | zero =>
      obtain rfl : iv = -1 := by omega
      clear hiv
      gi_wp2_with fail
      go_end0
      exact ⟨⟨_, rfl⟩, .inl ⟨pre, T, by rw [HP.out]; simp [backPL], hj⟩⟩
    | succ j =>
      obtain rfl : iv = (j : Int) := by omega
      clear hiv
      obtain ⟨ao', cap', e', ha'⟩ := HI.out
      injection e' with e1 e2 e3
      subst e1 e3
      obtain ⟨g, rfl, hg, hcs⟩ := ha' (by omega)
      obtain ⟨cj, cj2⟩ := hcs j (by omega)
      have HPX := Lib.hid (show pre ++ [((j : Int), ((pat ps j).1, (pat ps j).2))] <+: backPL ps ps.length from ⟨backPL ps j, by rw [HP.out]; simp [backPL]⟩)
      have hl : pre.length < ps.length := by have := congrArg List.length HP.out; rw [List.length_append, backPL_len, backPL_len] at this; omega
      obtain ⟨fn, tmps, assign, body, hy, hR⟩ := HY.out pre ((j : Int), ((pat ps j).1, (pat ps j).2)) T wr HPX.out hj HT.out hl
      have HR := Lib.hid hR
      clear hR e2 ha' hcs hg
      dsimp only [encBp] at hy
      gi_wp2_with fail
      refine ⟨wdep _, (roundAny HR.out).mono ?_⟩
      rintro e W2 (⟨rfl, hj2, hk2⟩ | ⟨rfl, hjx, _⟩)
      · gi_wp2_with fail
        refine ⟨⟨pre ++ [((j : Int), ((pat ps j).1, (pat ps j).2))], j, _, T, rfl, rfl, by omega, by rw [HP.out]; simp [backPL], hj2, fun k hk => Nat.lt_of_lt_of_le (HT.out k hk) hk2.size, (World.cell?_of_block (hk2.read bb (.inl rfl))).trans hc, HI.out.of_kept hk2.size (fun g hg => hk2.read g (.inr ⟨by omega, hg⟩))⟩, ?_⟩
        simp [intOf]
      · gi_wp2_with fail
        refine bodyPost_ret (results_none rfl _ _ _) rfl ?_
        exact ⟨⟨_, rfl⟩, .inr ⟨_, _, HPX.out, hjx⟩⟩
theorem BackwardP_any (v : Value) (w : World) (hv : ∃ a n c, v = .slice a n c) :
    Calls Try.prog 73 #[v] w fun e w' => e = .returned (.func (.func 97) #[] #[.pointer (some ⟨w.heap.size, 0, none⟩)]) ∧ w.alloc (.cells #[v] 38) = w' := by
  obtain ⟨a, n, c, rfl⟩ := hv
  go_enter Try.func73, Try.ntmps73
  go_wp2_with fail
  go_ret
  exact ⟨rfl, rfl⟩
end Go.Proofs.Ytcgennkddoajeaa

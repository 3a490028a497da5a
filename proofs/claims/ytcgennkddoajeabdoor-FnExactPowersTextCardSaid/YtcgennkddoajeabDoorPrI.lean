/-
  The contract of impl.PrimesOf.
-/
import Derived.Test.YtcgennkddoajeabDoorPfS
import Derived.Test.YtcgennkddoajeabDoorPwI
import Derived.Test.YtcgennkddoajeabDoorCollX
namespace Go.Proofs.YtcgennkddoajeabDoor
open Go.RowKit Go.Shelf
attribute [local go_sem] Oper.semAt_some

theorem pf_pos : ∀ (k : Nat) (n p : Int), (n - p).toNat ≤ k → 2 ≤ p → 1 ≤ n → ∀ x ∈ pfL n p, 1 ≤ x.2 := by
  intro k
  induction k with
  | zero =>
    intro n p hk hp hn x hx
    by_cases h : p * p ≤ n
    · have := sq_lt hp h; omega
    · rw [pf_end h] at hx
      split at hx
      · simp at hx; rw [hx]; exact Int.le_refl _
      · simp at hx
  | succ k ih =>
    intro n p hk hp hn x hx
    by_cases h : p * p ≤ n
    · have h1 := sq_lt hp h
      obtain ⟨a1, a2, a3, a4⟩ := strip_spec hp hn
      rw [pf_go hp h] at hx
      rcases List.mem_append.1 hx with hx | hx
      · split at hx
        · simp at hx
        · simp at hx; rw [hx]; simp; omega
      · exact ih _ _ (by omega) (by omega) a1 x hx
    · rw [pf_end h] at hx
      split at hx
      · simp at hx; rw [hx]; exact Int.le_refl _
      · simp at hx
theorem strip_sum : ∀ (k : Nat) (n p : Int), n.toNat ≤ k → 2 ≤ p → 1 ≤ n → ((strip n p).1 : Int) + (strip n p).2 ≤ n
  | 0, n, p, hk, _, hn => by omega
  | k + 1, n, p, hk, hp, hn => by
    by_cases h : n % p = 0
    · obtain ⟨e1, e2⟩ := strip_go hp hn h
      have hl := div_less hp hn
      have := strip_sum k (n / p) p (by omega) hp (div_one_le hp hn h)
      rw [e1, e2]; omega
    · rw [strip_no h]; simp
theorem exL_len : ∀ (k : Nat) (n p : Int), (n - p).toNat ≤ k → 2 ≤ p → 1 ≤ n → ((exL (pfL n p)).length : Int) + 1 ≤ n := by
  have fin : ∀ (n p : Int), 1 ≤ n → ¬ p * p ≤ n → ((exL (pfL n p)).length : Int) + 1 ≤ n := by
    intro n p hn h
    rw [pf_end h]
    split
    · simp [exL]; omega
    · simp [exL]; omega
  intro k
  induction k with
  | zero =>
    intro n p hk hp hn
    by_cases h : p * p ≤ n
    · have := sq_lt hp h; omega
    · exact fin n p hn h
  | succ k ih =>
    intro n p hk hp hn
    by_cases h : p * p ≤ n
    · have h1 := sq_lt hp h
      obtain ⟨a1, a2, a3, a4⟩ := strip_spec hp hn
      have h3 := strip_sum n.toNat n p (Nat.le_refl _) hp hn
      have h4 := ih (strip n p).2 (p + 1) (by omega) (by omega) a1
      rw [inn_start hp h]
      unfold inn
      rw [List.length_append, List.length_replicate]
      omega
    · exact fin n p hn h
theorem primes_len {n : Int} (h : 1 ≤ n) : ((primesL n).length : Int) ≤ n := by
  have := exL_len (n - 2).toNat n 2 (Nat.le_refl _) (by omega) h
  unfold primesL; omega
theorem prL_len (n : Int) : (prL n).length ≤ 1000000000 := by
  unfold prL
  split
  · rename_i h
    obtain ⟨h1, h2⟩ := inB_true.1 h
    have := primes_len h1
    omega
  · simp
theorem exL_snoc (pre : List (Int × Int)) (x : Int × Int) : exL (pre ++ [x]) = exL pre ++ List.replicate x.2.toNat x.1 := by simp [exL]
/-- What stands in the inner loop of a round. -/
def InRel (w W : World) (T : Nat → Prop) (pre : List (Int × Int)) (q : Int) (tn : Nat) (i : Value) (wr : World) : Prop :=
  ∃ j : Nat, i = .int .i64 j ∧ j ≤ tn ∧ KeepsOthers W wr ∧ Kept T none1 W wr ∧ CollX 2 1 intC w.heap.size w (exL pre ++ List.replicate j q) T wr
theorem ownI_lower {W : World} {B B' : Nat} {t : TypeId} {sz n : Nat} {v : Value} {xs : List Value} (h : W.ownsRow B t sz v n xs) (hB : B' ≤ B) : W.ownsRow B' t sz v n xs := by
  refine ⟨h.1, ?_⟩
  rcases h.2 with h0 | ⟨g', cap', cur, h0, hg, r⟩
  · exact .inl h0
  · exact .inr ⟨g', cap', cur, h0, Nat.le_trans hB hg, r⟩
end Go.Proofs.YtcgennkddoajeabDoor

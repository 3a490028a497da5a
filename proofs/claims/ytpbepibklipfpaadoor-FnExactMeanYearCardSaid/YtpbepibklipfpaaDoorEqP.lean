/-
  The contracts of laws.toPair, szPairS, eqPair, eqPairS, heldPairS, markPairS, toPairS; a slice of pairs that came in.
-/
import Derived.Test.YtpbepibklipfpaaDoorEqR
namespace Go.Proofs.YtpbepibklipfpaaDoor
open Go.RowKit

/-- A slice of pairs that came in. -/
def IsPR (w : World) (a : Option Addr) (len cap : Nat) (ps : List (Int × Int)) : Prop :=
  (len ≤ cap ∧ cap ≤ maxLen) ∧ ps.length = len ∧ (∀ p ∈ ps, (-9223372036854775808 ≤ p.1 ∧ p.1 ≤ 9223372036854775807) ∧ -9223372036854775808 ≤ p.2 ∧ p.2 ≤ 9223372036854775807) ∧
    ∀ i, i < len → ∃ xb xo : Nat, a = some ⟨xb, xo, none⟩ ∧ xb < w.heap.size ∧ w.cell? ⟨xb, xo + i * 2, none⟩ = some (.int .i64 (pat ps i).1) ∧ w.cell? ⟨xb, xo + i * 2 + 1, none⟩ = some (.int .i64 (pat ps i).2)
theorem IsPR.keep {w w' : World} {a : Option Addr} {len cap : Nat} {ps : List (Int × Int)} (h : IsPR w a len cap ps) (hb : Below w.heap.size w w') : IsPR w' a len cap ps := by
  obtain ⟨h1, h2, h3, h4⟩ := h
  refine ⟨h1, h2, h3, fun i hi => ?_⟩
  obtain ⟨xb, xo, e, hx, c1, c2⟩ := h4 i hi
  exact ⟨xb, xo, e, Nat.lt_of_lt_of_le hx hb.size, (hb.cell (p := ⟨xb, xo + i * 2, none⟩) hx).trans c1, (hb.cell (p := ⟨xb, xo + i * 2 + 1, none⟩) hx).trans c2⟩
theorem made_two (z : Value) (m : Nat) : (madeCells #[z, z] m).toList = List.replicate m z := by
  apply List.ext_getElem?
  intro j
  by_cases hj : j < m
  · rcases Nat.mod_two_eq_zero_or_one j with h | h <;> simp [madeCells, hj, h]
  · simp [madeCells, hj]
theorem pairC_zero : ∀ n : Nat, pairC (List.replicate n (0, 0)) = List.replicate (n * 2) (.int .i64 0)
  | 0 => rfl
  | n + 1 => by
    have e : (n + 1) * 2 = n * 2 + 1 + 1 := by omega
    rw [List.replicate_succ, pairC_cons, pairC_zero n, e, List.replicate_succ, List.replicate_succ]
theorem made_pairs (n : Nat) : (madeCells #[Value.int .i64 0, Value.int .i64 0] (n * 2)).toList = pairC (List.replicate n (0, 0)) := by
  rw [made_two, pairC_zero]
theorem toP_set (ps : List (Int × Int)) (j : Nat) (h : j < ps.length) : (ps.take j ++ List.replicate (ps.length - j) (0, 0)).set j (pat ps j) = ps.take (j + 1) ++ List.replicate (ps.length - (j + 1)) (0, 0) := by
  have e : ps.length - j = (ps.length - (j + 1)) + 1 := by omega
  have l : (ps.take j).length = j := by simp; omega
  rw [List.set_append_right _ _ (by omega), l, Nat.sub_self, e, List.replicate_succ, List.set_cons_zero, pat_take h, List.append_assoc]
  rfl
theorem toP_cells {ps : List (Int × Int)} {j : Nat} (h : j < ps.length) : ((pairC (ps.take j ++ List.replicate (ps.length - j) (0, 0))).set (j * 2) (.int .i64 (pat ps j).1)).set (j * 2 + 1) (.int .i64 (pat ps j).2) = pairC (ps.take (j + 1) ++ List.replicate (ps.length - (j + 1)) (0, 0)) := by
  have hl : (ps.take j ++ List.replicate (ps.length - j) (0, 0)).length = ps.length := by simp; omega
  rw [← toP_set ps j h]
  generalize ps.take j ++ List.replicate (ps.length - j) (0, 0) = L at hl ⊢
  rw [← pairC_set1 _ _ _ (by omega)]
  have e : pat (L.set j ((pat ps j).1, (pat L j).2)) j = ((pat ps j).1, (pat L j).2) := by
    unfold pat; rw [List.getElem?_set_self (by omega)]; rfl
  have := pairC_set2 (L.set j ((pat ps j).1, (pat L j).2)) j (pat ps j).2 (by rw [List.length_set]; omega)
  rw [e] at this
  rw [← this, List.set_set]
theorem grownP_low {w w' : World} (h : w.grownBy w' none) : Below w.heap.size w w' := ⟨h.os, h.tape, h.output, h.size, fun k hk => h.block k hk (fun e => by cases e)⟩
theorem toP_len {ps : List (Int × Int)} {j : Nat} (h : j ≤ ps.length) : (ps.take j ++ List.replicate (ps.length - j) (0, 0)).length = ps.length := by simp; omega
end Go.Proofs.YtpbepibklipfpaaDoor

/-
  A slice of numbers that came in; the contract of laws.toInt64S.
-/
import Derived.Test.YtclefibjmnabbaaEq64
import Derived.Test.YtclefibjmnabbaaDraw2
namespace Go.Proofs.Ytclefibjmnabbaa
open Go.RowKit

theorem i64_bd {n : Int} (h : (Lit.int .i64 n).wf = true) : -9223372036854775808 ≤ n ∧ n ≤ 9223372036854775807 := by simpa [Lit.wf, IntKind.min, IntKind.max, IntKind.signed, IntKind.bits] using h
theorem at0_take {zs : List Int} {len i : Nat} (h : i < len) : at0 (zs.take len) i = zs.getD i 0 := by
  unfold at0; rw [List.getElem?_take, if_pos h, List.getD_eq_getElem?_getD]
theorem row64_of {w : World} {a : Option Addr} {len cap : Nat} {zs : List Int} (h : IsRow .i64 w a len cap zs) : (len ≤ cap ∧ cap ≤ maxLen) ∧ (zs.take len).length = len ∧ (∀ u ∈ zs.take len, -9223372036854775808 ≤ u ∧ u ≤ 9223372036854775807) ∧
    ∀ i, i < len → ∃ xb xo : Nat, a = some ⟨xb, xo, none⟩ ∧ xb < w.heap.size ∧ w.cell? ⟨xb, xo + i, none⟩ = some (.int .i64 (at0 (zs.take len) i)) := by
  rcases h with ⟨rfl, rfl, rfl, rfl⟩ | ⟨x, rfl, hl, hm, hz, hcell, hwf⟩
  · exact ⟨⟨Nat.le_refl _, Nat.zero_le _⟩, rfl, fun u hu => by simp at hu, fun i hi => absurd hi (Nat.not_lt_zero _)⟩
  · refine ⟨⟨hl, hm⟩, by simp; omega, fun u hu => i64_bd (hwf u (List.mem_of_mem_take hu)), fun i hi => ?_⟩
    obtain ⟨b, off, rfl, hc⟩ := ints_at hcell (by omega)
    have hi' : i < zs.length := by omega
    have hcz := hc i hi'
    have hlt : b < w.heap.size := by
      by_cases hb' : b < w.heap.size
      · exact hb'
      · exfalso
        have : w.heap[b]? = none := by simp; omega
        simp [World.cell?, this] at hcz
    exact ⟨b, off, rfl, hlt, by rw [at0_take hi]; exact hcz⟩
theorem made_ints (n : Nat) : (madeCells #[Value.int .i64 0] n).toList = intC (List.replicate n 0) := by
  rw [toList_madeCells_one]; simp [intC]
theorem to_set (ts : List Int) (j : Nat) (h : j < ts.length) : (ts.take j ++ List.replicate (ts.length - j) 0).set j (at0 ts j) = ts.take (j + 1) ++ List.replicate (ts.length - (j + 1)) 0 := by
  have e : ts.length - j = (ts.length - (j + 1)) + 1 := by omega
  have l : (ts.take j).length = j := by simp; omega
  rw [List.set_append_right _ _ (by omega), l, Nat.sub_self, e, List.replicate_succ, List.set_cons_zero, List.take_add_one]
  unfold at0
  rw [List.getElem?_eq_getElem h, List.append_assoc]
  rfl
theorem grown_low {w w' : World} (h : w.grownBy w' none) : Below w.heap.size w w' := ⟨h.os, h.tape, h.output, h.size, fun k hk => h.block k hk (fun e => by cases e)⟩
def ToRel (w : World) (ts : List Int) (i : Value) (wr : World) : Prop :=
  ∃ j : Nat, j ≤ ts.length ∧ i = .int .i64 j ∧ wr.ownsRow w.heap.size 2 1 (.slice (some ⟨w.heap.size, 0, none⟩) ts.length ts.length) ts.length (intC (ts.take j ++ List.replicate (ts.length - j) 0)) ∧ Below w.heap.size w wr
def ToRet (w : World) (ts : List Int) (e : Ending) (w' : World) : Prop := e = .returned (.slice (some ⟨w.heap.size, 0, none⟩) ts.length ts.length) ∧ Row w' w.heap.size w.heap.size ts.length ts ∧ Below w.heap.size w w'
end Go.Proofs.Ytclefibjmnabbaa

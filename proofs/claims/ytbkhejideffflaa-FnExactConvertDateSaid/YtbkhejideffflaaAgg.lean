/-
  An argument that is a struct of numbers alone, opened.
-/
import Derived.Test.YtbkhejideffflaaOpenP
import Derived.Lib.SmallJoins
namespace Go.Proofs.Ytbkhejideffflaa
open Go.RowKit Go.Deep Go.ChangeShapes Go.WideShapes Go.Joins

theorem open_numbers {H : Type} {enc : TypeId × Value → H} {P : Program} {W : World} {base : Nat} {spare : Nat → Bool} {held : Bool} {r : Reach} {b0 : Nat} {t ti : TypeId} {fs : Array Field} {v : Value} {d : DataW H} {p : List MemPlace}
    (hs : P.underlying t = some (.struct fs)) (hone : oneCellFields P fs = true) (hC : P.cellsOf t = fs.size) (hty : fs.toList.all (fun f => f.type == ti) = true) (hi : P.underlying ti = some (.int .i64))
    (hv : Value.okWide P W r b0 t v) (h : DataW.Trod enc P W base spare held t v d p) :
    ∃ xs : List Int, xs.length = fs.size ∧ v = .agg (xs.map (Value.int .i64)).toArray ∧ ∀ x ∈ xs, -9223372036854775808 ≤ x ∧ x ≤ 9223372036854775807 := by
  obtain ⟨cs, rfl, hsz⟩ := okWide_struct hs hv
  rw [hC] at hsz
  obtain ⟨fuel, hf⟩ := h
  obtain ⟨ys, n, _, _, _, hlen, hg⟩ := DataW.trod_struct hs hf
  have each : ∀ (i : Nat) (hlt : i < cs.size), ∃ x : Int, cs[i] = .int .i64 x ∧ -9223372036854775808 ≤ x ∧ x ≤ 9223372036854775807 := by
    intro i hlt
    have hif : i < fs.size := by omega
    have hfi : fs[i]? = some fs[i] := Array.getElem?_eq_getElem hif
    obtain ⟨ho, hk⟩ := hone_of hone i _ hfi
    have h1 := hg i _ hfi
    have hT : fs[i].type = ti := by
      have := List.all_eq_true.1 hty fs[i] (by simp)
      simpa using this
    rw [ho, hk, hT, List.getElem?_eq_getElem (by omega)] at h1
    obtain ⟨x, e1, _, wf⟩ := DataW.trod_int hi h1
    refine ⟨x, ?_, i64_lim wf⟩
    have e2 : (cs.toList.drop i).take 1 = [cs[i]] := by
      rw [List.drop_eq_getElem_cons (by simpa using hlt)]; simp
    have e3 : (Value.agg cs).cells = cs := rfl
    rw [e3, e2] at e1
    simpa using e1
  refine ⟨cs.toList.map numOf, by simpa using hsz, ?_, ?_⟩
  · congr 1
    refine Array.ext (by simp) fun i h1 h2 => ?_
    obtain ⟨x, e, _⟩ := each i h1
    simp [e, numOf]
  · intro x hx
    obtain ⟨v, hv, rfl⟩ := List.mem_map.1 hx
    obtain ⟨i, hi', rfl⟩ := List.getElem_of_mem hv
    obtain ⟨x, e, b⟩ := each i (by simpa using hi')
    simp only [Array.getElem_toList, e, numOf]
    exact b
end Go.Proofs.Ytbkhejideffflaa

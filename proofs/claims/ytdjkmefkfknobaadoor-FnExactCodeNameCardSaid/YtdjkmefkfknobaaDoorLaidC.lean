/-
  The table of the codes' names, out of the row's list.
-/
import Derived.Test.YtdjkmefkfknobaaDoorRows
import Derived.Test.YtdjkmefkfknobaaDoorCode
import Derived.ProofKit
import Derived.OpenShut
namespace Go.Proofs.YtdjkmefkfknobaaDoor
open Go.ChangeShapes Go.WideShapes Go.ChangeAt Go.RowKit

theorem names_of {W : World} (h : laidMetH Tryd.prog Rows.fnExactCodeNameRow.laid W) : NamesAt W := by
  obtain ⟨ps, ⟨g, t, cs, fuel, p, q, hg, ht, hv, hd, _, _⟩, _⟩ := h
  obtain rfl : g = 0 := Option.some.inj (hg.symm.trans (by kernel_rfl))
  obtain rfl : t = 63 := Option.some.inj (ht.symm.trans (by kernel_rfl))
  obtain ⟨xs, m, _, hx, hlen, hxl, hel⟩ := DataW.trod_array Tryd.underlying63 hd
  have hm := (Prod.mk.inj hx).1
  have hm' : (DataW.agg ((List.range 11).map fun i : Nat => DataW.lit (.string (codeNm (i : Int)).data.toList)) : DataW Unit) = .agg (xs.map (·.1)) := hm
  have hxs := DataW.agg.inj hm'
  intro i hi
  have hce : Tryd.prog.cellsOf 9 = 1 := by kernel_rfl
  have h1 := hel i hi
  rw [hce, Nat.mul_one] at h1
  obtain ⟨x, hxi⟩ : ∃ x, xs[i]? = some x := ⟨_, List.getElem?_eq_getElem (by omega)⟩
  rw [hxi] at h1
  obtain ⟨b, hc, rfl, _⟩ := DataW.trod_string Tryd.underlying9 h1
  have h2 : cs.toList[i]? = some (.string b) := by
    have := congrArg (·[0]?) hc
    simpa [List.getElem?_take, List.getElem?_drop] using this
  have h3 := congrArg (·[i]?) hxs
  simp only [List.getElem?_map, hxi, Option.map_some] at h3
  rw [List.getElem?_range hi] at h3
  simp only [Option.map_some, Option.some.injEq, DataW.lit.injEq, Lit.string.injEq] at h3
  have hb : b = codeNm i := (WideShapes.bytes_inj h3).symm
  have h4 := World.var?_cell hg hv i
  rw [h4, ← hb, ← Array.getElem?_toList]
  exact h2
end Go.Proofs.YtdjkmefkfknobaaDoor

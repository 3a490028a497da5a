/-
  The canonical train: impl.pairsOf and impl.CanonTrain.
-/
import Derived.Test.YtmmmbchlkjljaaaCnM
import Derived.Test.YtmmmbchlkjljaaaSfI
import Derived.Test.YtmmmbchlkjljaaaCfS
namespace Go.Proofs.Ytmmmbchlkjljaaa
open Go.RowKit Go.Sort

/-- A slice reads as a list of numbers. -/
def SlI (W : World) (v : Value) (ts : List Int) : Prop := ∃ ao cap, v = .slice ao ts.length cap ∧ (1 ≤ ts.length → ∃ g, ao = some ⟨g, 0, none⟩ ∧ g < W.heap.size ∧ IntsAt W g ts)
theorem SlI.keep {W W' : World} {v : Value} {ts : List Int} (h : SlI W v ts) (hb : Below W.heap.size W W') : SlI W' v ts := by
  obtain ⟨ao, cap, e, h1⟩ := h
  refine ⟨ao, cap, e, fun hl => ?_⟩
  obtain ⟨g, eg, hg, hc⟩ := h1 hl
  exact ⟨g, eg, Nat.lt_of_lt_of_le hg hb.size, hc.keep hg hb⟩
theorem SlI.grown {W W' : World} {v : Value} {ts : List Int} {row : Option Nat} (h : SlI W v ts) (hg : W.grownBy W' row) (hne : ∀ k, v.ownBlock = some k → row ≠ some k) : SlI W' v ts := by
  obtain ⟨ao, cap, e, h1⟩ := h
  refine ⟨ao, cap, e, fun hl => ?_⟩
  obtain ⟨g, eg, hgs, hc⟩ := h1 hl
  refine ⟨g, eg, Nat.lt_of_lt_of_le hgs hg.size, fun i hi => ?_⟩
  exact hg.cell (hc i hi) (fun e2 => hne g (by rw [e, eg]; rfl) e2.symm)
theorem grown_putRow (w : World) (g n : Nat) (d : Array Int) : w.grownBy ((putRow encT w g 0 d).drewN n) (some g) := by
  refine ⟨rfl, rfl, rfl, ?_, fun k _ hk => ?_⟩
  · show w.heap.size ≤ (w.heap.modify g _).size
    simp
  · show (w.heap.modify g _)[k]? = w.heap[k]?
    rw [Array.getElem?_modify, if_neg (fun e => hk (by rw [e]))]
theorem holds_own {W : World} {B : Nat} {t : TypeId} {g cap : Nat} {ts : List Int} (h : W.ownsRow B t 1 (.slice (some ⟨g, 0, none⟩) ts.length cap) ts.length (intC ts)) : Holds encT W g 0 ts.toArray := by
  intro j hj
  have hj' : j < ts.length := by simpa using hj
  have e := h.cellAt j (by simpa using hj')
  rw [Nat.zero_add]
  refine ⟨e.trans ?_, h.frozenAt j⟩
  unfold intC encT
  rw [List.getElem?_map, List.getElem?_eq_getElem hj', getElem!_pos ts.toArray j hj]; rfl
theorem ints_of_holds {W : World} {g : Nat} {d : Array Int} (h : Holds encT W g 0 d) : IntsAt W g d.toList := by
  intro i hi
  have hi' : i < d.size := by simpa using hi
  have := (h i hi').1
  rw [Nat.zero_add] at this
  rw [this]
  unfold encT at0
  rw [getElem!_pos d i hi', List.getElem?_eq_getElem hi]; simp
/-- The order in which the wheels of one side stand. -/
def sgn (s : Int) (ts : List Int) : List Int := if s = 1 then srtL ts else (srtL ts).reverse
theorem sgn_len (s : Int) (ts : List Int) : (sgn s ts).length = ts.length := by unfold sgn; split <;> simp [srt_len]
theorem ins_sgn {s : Int} (hs : s = 1 ∨ s = -1) (ts : List Int) : (Sort.insertionSort (ltS s) ts.toArray 0 ts.toArray.size).toList = sgn s ts := by
  rcases hs with rfl | rfl
  · have := ins_up ts.toArray
    simpa [sgn] using this
  · have := ins_dn ts.toArray
    simpa [sgn] using this
theorem zip_take {a b : List Int} {k : Nat} (ha : k < a.length) (hb : k < b.length) : (a.zip b).take (k + 1) = (a.zip b).take k ++ [(at0 a k, at0 b k)] := by
  have hz : k < (a.zip b).length := by simp; omega
  rw [List.take_add_one, List.getElem?_eq_getElem hz]
  simp [at0, ha, hb]
theorem row_srcP (W : World) (n : Nat) (x y : Value) (t : TypeId) (h : W.heap.size = n) : ∀ (j : Nat) (u : Value), [x, y][j]? = some u → (W.alloc (.cells #[x, y] t)).cell? ((⟨n, 0, none⟩ : Addr).add j) = some u := by
  subst h
  intro j u hj
  match j, hj with
  | 0, hj => simp at hj; subst hj; simp [go_sem, Addr.add]
  | 1, hj => simp at hj; subst hj; simp [go_sem, Addr.add]
end Go.Proofs.Ytmmmbchlkjljaaa

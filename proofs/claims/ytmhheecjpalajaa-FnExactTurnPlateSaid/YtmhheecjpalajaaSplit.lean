/-
  The contract of spec.l01Split.
-/
import Derived.Test.YtmhheecjpalajaaNum
import Derived.Test.YtmhheecjpalajaaRat
import Derived.Lib.ItoaMem
import Derived.Laws.BytesArg
import Derived.OwnWalk
namespace Go.Proofs.Ytmhheecjpalajaa
open Go.RowKit

/-- The cells of a list of texts. -/
def strC (ps : List ByteArray) : List Value := ps.map .string
theorem infoStr : (Try.prog.info? 9).map (fun i => (i.zero, i.size, i.bytes)) = some (some (.string ⟨#[]⟩), 1, 16) := by kernel_rfl
/-- What the loop of l01Split keeps: the parts behind which 'from' stands, and the place. -/
def SplRel (w : World) (s : ByteArray) (c : UInt8) (v fv iv : Value) (wr : World) : Prop :=
  ∃ (f i : Nat) (ps : List ByteArray) (g cap : Nat), fv = .int .i64 f ∧ iv = .int .i64 i ∧ f ≤ i ∧ i ≤ s.size ∧ ps.length ≤ f ∧ (∀ p ∈ ps, c ∉ p.data.toList) ∧ (∀ j, f ≤ j → j < i → s.data.toList[j]? ≠ some c) ∧ (ps.flatMap fun p => p.data.toList ++ [c]) = s.data.toList.take f ∧
    v = .slice (some ⟨g, 0, none⟩) ps.length cap ∧ wr.ownsRow w.heap.size 9 1 v ps.length (strC ps) ∧ Below w.heap.size w wr

theorem spl_start (w : World) (s : ByteArray) (c : UInt8) : SplRel w s c (.slice (some ⟨w.heap.size, 0, none⟩) 0 0) (.int .i64 0) (.int .i64 0) (w.alloc (.cells #[] 9)) :=
  ⟨0, 0, [], w.heap.size, 0, rfl, rfl, Nat.le_refl _, Nat.zero_le _, Nat.le_refl _, List.forall_mem_nil _, fun j h1 h2 => by omega, rfl, rfl, ⟨rfl, .inr ⟨w.heap.size, 0, #[], rfl, Nat.le_refl _, (MapKept.heap_alloc w _).1, Nat.le_refl _, Nat.zero_le _, rfl, rfl⟩⟩, (Below.refl _ _).alloc (Nat.le_refl _) _⟩
theorem own_ge {w wr : World} {T : TypeId} {g n cap : Nat} {xs : List Value} (h : wr.ownsRow w.heap.size T 1 (.slice (some ⟨g, 0, none⟩) n cap) n xs) : w.heap.size ≤ g := by
  rcases h.2 with ⟨h0, _⟩ | ⟨g', cap', cur, h0, hg, _⟩
  · cases h0
  · injection h0 with h1 _ _
    injection h1 with h1
    injection h1 with h1
    omega
theorem own_shape {w wr : World} {T : TypeId} {v : Value} {n : Nat} {xs : List Value} (h : wr.ownsRow w.heap.size T 1 v n xs) (hv : ¬ v = .slice none 0 0) : ∃ g cap, v = .slice (some ⟨g, 0, none⟩) n cap := by
  rcases h.2 with ⟨h0, _⟩ | ⟨g', cap', cur, h0, _⟩
  · exact absurd h0 hv
  · exact ⟨g', cap', h0⟩
theorem spl_src (wr : World) (T : TypeId) (x : Value) : ∀ (j : Nat) (u : Value), [x][j]? = some u → (wr.alloc (.cells #[x] T)).cell? ((⟨wr.heap.size, 0, none⟩ : Addr).add j) = some u := by
  intro j u hj
  match j with
  | 0 => simp at hj; subst hj; rw [Lib.add_plain]; simp [go_sem]
  | j + 1 => simp at hj
theorem spl_at {s : ByteArray} {c : UInt8} {i : Nat} (h : i < s.size) (hc : ((s[i].toNat : Nat) : Int) = (c.toNat : Int)) : s.data.toList[i]? = some c := by
  have e : s[i] = c := UInt8.toNat_inj.1 (by omega)
  have h' : i < s.data.toList.length := by simpa using h
  rw [List.getElem?_eq_getElem h', ← e]; rfl
theorem spl_not {s : ByteArray} {c : UInt8} {i : Nat} (h : i < s.size) (hc : ¬ ((s[i].toNat : Nat) : Int) = (c.toNat : Int)) : s.data.toList[i]? ≠ some c := by
  have h' : i < s.data.toList.length := by simpa using h
  rw [List.getElem?_eq_getElem h']
  intro e
  apply hc
  have e2 : s[i] = c := Option.some.inj e
  rw [e2]
theorem ext_list (s : ByteArray) (f i : Nat) : (s.extract f i).data.toList = (s.data.toList.drop f).take (i - f) := by
  simp [ByteArray.data_extract]
theorem ext_no {s : ByteArray} {c : UInt8} {f i : Nat} (h : ∀ j, f ≤ j → j < i → s.data.toList[j]? ≠ some c) : c ∉ (s.extract f i).data.toList := by
  rw [ext_list]
  intro hm
  obtain ⟨k, hk⟩ := List.mem_iff_getElem?.1 hm
  by_cases hki : k < i - f
  · rw [List.getElem?_take_of_lt hki, List.getElem?_drop] at hk
    exact h (f + k) (by omega) (by omega) hk
  · rw [List.getElem?_take_eq_none (by omega)] at hk; cases hk
theorem ext_join {s : ByteArray} {c : UInt8} {f i : Nat} (hf : f ≤ i) (hi : s.data.toList[i]? = some c) : s.data.toList.take f ++ ((s.extract f i).data.toList ++ [c]) = s.data.toList.take (i + 1) := by
  rw [ext_list, List.take_add_one, hi]
  have : s.data.toList.take i = s.data.toList.take f ++ (s.data.toList.drop f).take (i - f) := by
    rw [← List.take_add]; congr 1; omega
  rw [this]; simp
theorem ext_last {s : ByteArray} {f : Nat} : s.data.toList.take f ++ (s.extract f s.size).data.toList = s.data.toList := by
  rw [ext_list, List.take_of_length_le (l := s.data.toList.drop f) (by simp), List.take_append_drop]
theorem spl_next {w wr w' : World} {o : Obj} {s : ByteArray} {c : UInt8} {f i g : Nat} {ps : List ByteArray} {v' : Value} (hb : Below w.heap.size w wr) (hg : (wr.alloc o).grownBy w' (some g)) (hge : w.heap.size ≤ g) (hown : w'.ownsRow w.heap.size 9 1 v' (ps.length + 1) (strC ps ++ [.string (s.extract f i)]))
    (hv : ¬ v' = .slice none 0 0) (hfi : f ≤ i) (his : i < s.size) (hpl : ps.length ≤ f) (hno : ∀ p ∈ ps, c ∉ p.data.toList) (hno2 : ∀ j, f ≤ j → j < i → s.data.toList[j]? ≠ some c) (hj : (ps.flatMap fun p => p.data.toList ++ [c]) = s.data.toList.take f) (hi : s.data.toList[i]? = some c) : SplRel w s c v' (.int .i64 (i + 1 : Nat)) (.int .i64 (i + 1 : Nat)) w' := by
  obtain ⟨g', cap', rfl⟩ := own_shape hown hv
  refine ⟨i + 1, i + 1, ps ++ [s.extract f i], g', cap', rfl, rfl, Nat.le_refl _, his, by simp; omega, ?_, fun j h1 h2 => by omega, ?_, by simp, ?_, ?_⟩
  · intro p hp
    rcases List.mem_append.1 hp with hp | hp
    · exact hno p hp
    · rw [List.mem_singleton.1 hp]; exact ext_no hno2
  · rw [List.flatMap_append, hj, ← ext_join hfi hi]; simp
  · have e : strC (ps ++ [s.extract f i]) = strC ps ++ [.string (s.extract f i)] := by simp [strC]
    rw [e, List.length_append]; exact hown
  · exact (hb.alloc hb.size o).grown hg (by have := hb.size; simp; omega) (fun x e => by have := Option.some.inj e; omega)
/-- How splitting ends: a new row with the parts. -/
def SplRet (w : World) (s : ByteArray) (c : UInt8) (e : Ending) (w' : World) : Prop :=
  ∃ (ps : List ByteArray) (last : ByteArray) (g cap : Nat), e = .returned (.slice (some ⟨g, 0, none⟩) (ps.length + 1) cap) ∧ w'.ownsRow w.heap.size 9 1 (.slice (some ⟨g, 0, none⟩) (ps.length + 1) cap) (ps.length + 1) (strC ps ++ [.string last]) ∧
    (∀ p ∈ ps, c ∉ p.data.toList) ∧ c ∉ last.data.toList ∧ (ps.flatMap fun p => p.data.toList ++ [c]) ++ last.data.toList = s.data.toList
theorem spl_end {w wr w' : World} {o : Obj} {s : ByteArray} {c : UInt8} {f g : Nat} {ps : List ByteArray} {v' : Value} (hb : Below w.heap.size w wr) (hg : (wr.alloc o).grownBy w' (some g)) (hge : w.heap.size ≤ g) (hown : w'.ownsRow w.heap.size 9 1 v' (ps.length + 1) (strC ps ++ [.string (s.extract f s.size)]))
    (hv : ¬ v' = .slice none 0 0) (hno : ∀ p ∈ ps, c ∉ p.data.toList) (hno2 : ∀ j, f ≤ j → j < s.size → s.data.toList[j]? ≠ some c) (hj : (ps.flatMap fun p => p.data.toList ++ [c]) = s.data.toList.take f) : SplRet w s c (.returned v') w' ∧ Below w.heap.size w w' := by
  obtain ⟨g', cap', rfl⟩ := own_shape hown hv
  exact ⟨⟨ps, s.extract f s.size, g', cap', rfl, hown, hno, ext_no hno2, by rw [hj, ext_last]⟩, (hb.alloc hb.size o).grown hg (by have := hb.size; simp; omega) (fun x e => by have := Option.some.inj e; omega)⟩
end Go.Proofs.Ytmhheecjpalajaa

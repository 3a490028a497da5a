/-
  Sorted numbers: the plain arithmetic of an ascending and of a descending order.
-/
import Derived.Test.YtmmmbchlkjljaaaOwn
import Derived.Sort.LotA
namespace Go.Proofs.Ytmmmbchlkjljaaa

def c3 (x y : Int) : Int := if x < y then -1 else if y < x then 1 else 0
def cfS (s x y : Int) : Int := s * c3 x y
def ltS (s x y : Int) : Bool := decide (cfS s x y < 0)
theorem ltS_up (x y : Int) : ltS 1 x y = decide (x < y) := by
  unfold ltS cfS c3
  by_cases h : x < y
  · simp [h]
  · by_cases h2 : y < x <;> simp [h, h2]
theorem ltS_dn (x y : Int) : ltS (-1) x y = decide (y < x) := by
  unfold ltS cfS c3
  by_cases h : x < y
  · have : ¬ y < x := by omega
    simp [h, this]
  · by_cases h2 : y < x <;> simp [h, h2]
theorem swoS {s : Int} (hs : s = 1 ∨ s = -1) : Sort.SWO (ltS s) := by
  rcases hs with rfl | rfl
  · exact ⟨fun x => by simp [ltS_up], fun x y z => by simp [ltS_up]; omega, fun x y z => by simp [ltS_up]; omega⟩
  · exact ⟨fun x => by simp [ltS_dn], fun x y z => by simp [ltS_dn]; omega, fun x y z => by simp [ltS_dn]; omega⟩
def srtL (ts : List Int) : List Int := ts.mergeSort fun a b => decide (a ≤ b)
theorem srt_perm (ts : List Int) : (srtL ts).Perm ts := List.mergeSort_perm _ _
theorem srt_pw (ts : List Int) : (srtL ts).Pairwise (· ≤ ·) := by
  have := List.pairwise_mergeSort (le := fun a b : Int => decide (a ≤ b)) (fun a b c h1 h2 => by simp at *; omega) (fun a b => by simp; omega) ts
  exact this.imp fun h => by simpa using h
theorem srt_len (ts : List Int) : (srtL ts).length = ts.length := by simp [srtL]
theorem srt_uniq {o l : List Int} (hp : o.Perm l) (hs : o.Pairwise (· ≤ ·)) : o = srtL l :=
  List.Perm.eq_of_pairwise (le := fun a b : Int => a ≤ b) (fun a b _ _ h1 h2 => by omega) hs (srt_pw l) (hp.trans (srt_perm l).symm)
theorem ins_facts (d : Array Int) {s : Int} (hs : s = 1 ∨ s = -1) :
    (Sort.insertionSort (ltS s) d 0 d.size).toList.Perm d.toList ∧ (Sort.insertionSort (ltS s) d 0 d.size).toList.Pairwise (fun x y => ltS s y x = false) ∧ (Sort.insertionSort (ltS s) d 0 d.size).size = d.size := by
  obtain ⟨⟨h1, _, h2⟩, h3⟩ := Sort.insertionSort_holds (lt := ltS s) (swoS hs) d 0 d.size (Nat.zero_le _) (Nat.le_refl _)
  generalize Sort.insertionSort (ltS s) d 0 d.size = d' at *
  refine ⟨?_, ?_, h1⟩
  · rw [← h1, Array.extract_size] at h2
    rw [h1, Array.extract_size] at h2
    exact h2
  · rw [List.pairwise_iff_getElem]
    intro i j hi hj hij
    have hj' : j < d'.size := by simpa using hj
    have := h3 i j (Nat.zero_le _) hij (by omega)
    rw [getElem!_pos d' i (by omega), getElem!_pos d' j hj'] at this
    simpa using this
theorem ins_up (d : Array Int) : (Sort.insertionSort (ltS 1) d 0 d.size).toList = srtL d.toList := by
  obtain ⟨h1, h2, _⟩ := ins_facts d (.inl rfl)
  exact srt_uniq h1 (h2.imp fun h => by rw [ltS_up] at h; simpa using h)
theorem ins_dn (d : Array Int) : (Sort.insertionSort (ltS (-1)) d 0 d.size).toList = (srtL d.toList).reverse := by
  obtain ⟨h1, h2, _⟩ := ins_facts d (.inr rfl)
  have h4 : (Sort.insertionSort (ltS (-1)) d 0 d.size).toList.reverse = srtL d.toList := by
    refine srt_uniq ((List.reverse_perm _).trans h1) ?_
    rw [List.pairwise_reverse]
    exact h2.imp fun h => by rw [ltS_dn] at h; simpa using h
  rw [← h4, List.reverse_reverse]
end Go.Proofs.Ytmmmbchlkjljaaa

/-
  The contracts of impl.isBlank, impl.SplitWords, spec.SplitWords; the walk of laws.FnExactSplitWords.
-/
import Derived.Test.YtcklcledchboiaaDoorWords
import Derived.Test.YtcklcledchboiaaDoorStrS
import Derived.Test.YtcklcledchboiaaDoorShelf
import Derived.RangeFuncBox
import Derived.Test.YtcklcledchboiaaDoorOwn
namespace Go.Proofs.YtcklcledchboiaaDoor
open Go.RowKit Go.Lib

theorem isBlank_at (w : World) : PredAt Tryd.prog 109 #[] encR blank w := fun W r _ => by
  unfold FnGives
  by_cases h : r = 32
  · subst h
    go_enter Tryd.func109, Tryd.ntmps109
    go_wp2
    go_ret
    exact ⟨rfl, 0, rfl⟩
  · have z : ((r : Int) == 32) = false := by rw [beq_eq_false_iff_ne]; omega
    have hb : blank r = false := by unfold blank; rw [beq_eq_false_iff_ne]; exact h
    rw [hb]
    clear h hb
    go_enter Tryd.func109, Tryd.ntmps109
    go_wp2
    go_ret
    exact ⟨rfl, 0, rfl⟩
/-- The words of a text. -/
def wrd (s : ByteArray) : List ByteArray := goFieldsP blank s
def WrRet (w : World) (ps : List ByteArray) (e : Ending) (w' : World) : Prop := ∃ v, e = .returned v ∧ w'.ownsRow w.heap.size 9 1 v ps.length (strC ps) ∧ Below w.heap.size w w'
theorem SplitWordsI_any (s : ByteArray) (w : World) (hs : s.size ≤ 1048576) :
    Calls Tryd.prog 89 #[.string s] w (WrRet w (wrd s)) := by
  have HC := Lib.hid (Tryd.strings_FieldsFunc 109 #[] (enters_of Tryd.func109 (by kernel_rfl) rfl) blank s w (by omega) (isBlank_at w))
  clear hs
  go_enter Tryd.func89, Tryd.ntmps89
  go_wp2_with fail
  refine HC.out.mono ?_
  rintro e w1 ⟨A, rfl, hA, hown, hb⟩
  have HO := Lib.hid (show WrRet w (wrd s) (.returned (.slice (some ⟨A, 0, none⟩) (goFieldsP blank s).length (goFieldsP blank s).length)) w1 from ⟨_, rfl, hown, hb⟩)
  clear hown hb
  go_wp2_with fail
  go_ret
  exact HO.out
def SwRel (W1 : World) (_g : Nat) (ps : List ByteArray) (v i : Value) (wr : World) : Prop :=
  ∃ (k h cap : Nat), v = .slice (some ⟨h, 0, none⟩) ((ps.take k).filter full).length cap ∧ i = .int .i64 (k : Int) ∧ k ≤ ps.length ∧ wr.ownsRow W1.heap.size 9 1 v ((ps.take k).filter full).length (strC ((ps.take k).filter full)) ∧ Below W1.heap.size W1 wr
theorem rowS_new (w : World) : (w.alloc (.cells #[] 9)).ownsRow w.heap.size 9 1 (.slice (some ⟨w.heap.size, 0, none⟩) 0 0) 0 [] :=
  ⟨rfl, .inr ⟨w.heap.size, 0, #[], rfl, Nat.le_refl _, (MapKept.heap_alloc w _).1, Nat.le_refl _, Nat.zero_le _, rfl, rfl⟩⟩
theorem take_keep {ps : List ByteArray} {k : Nat} (h : k < ps.length) (hf : full (sat ps k) = true) : (ps.take (k + 1)).filter full = (ps.take k).filter full ++ [sat ps k] := by
  have e : ps[k] = sat ps k := by unfold sat; rw [List.getElem?_eq_getElem h]; rfl
  rw [List.take_succ_eq_append_getElem h, List.filter_append, e]
  simp [hf]
theorem take_drop {ps : List ByteArray} {k : Nat} (h : k < ps.length) (hf : full (sat ps k) = false) : (ps.take (k + 1)).filter full = (ps.take k).filter full := by
  have e : ps[k] = sat ps k := by unfold sat; rw [List.getElem?_eq_getElem h]; rfl
  rw [List.take_succ_eq_append_getElem h, List.filter_append, e]
  simp [hf]
theorem empty_no2 {s : ByteArray} (h : s.size ≠ 0) : s.toList.isEmpty = false := by
  rw [ByteArray.toList_eq]
  have : s.data.toList.length ≠ 0 := h
  rw [List.isEmpty_eq_false_iff]
  exact fun e => this (by rw [e]; rfl)


theorem full_yes {x : ByteArray} (h : full x = true) : x.toList.isEmpty = false := by
  refine empty_no2 fun e => ?_
  unfold full at h
  rw [e] at h
  cases h
theorem full_no {x : ByteArray} (h : full x = false) : x = ⟨#[]⟩ := by
  have h0 : x.size = 0 := by
    unfold full at h
    simpa using h
  apply ByteArray.ext
  exact Array.eq_empty_of_size_eq_zero h0
theorem filter_len (ps : List ByteArray) (k : Nat) : ((ps.take k).filter full).length ≤ k := by
  have := List.length_filter_le full (ps.take k)
  rw [List.length_take] at this; omega
theorem wgo_len : ∀ (l cur : List UInt8), (wgo cur l).length ≤ l.length + 1
  | [], cur => by rw [wgo_nil]; split <;> simp
  | b :: t, cur => by
    rw [wgo]
    have h1 := wgo_len t []
    have h2 := wgo_len t (cur ++ [b])
    split
    · split
      · simp only [List.length_cons]; omega
      · simp only [List.length_cons]; omega
    · simp only [List.length_cons]; omega
theorem fields_wgo (s : ByteArray) : (goFieldsP blank s).map (fun p => p.data.toList) = wgo [] s.data.toList := by
  have := spans_wgo s s.size 0 none [] (by omega) (by omega) (fun a h => by cases h)
  simp only [openPiece, List.map_nil, List.nil_append, List.drop_zero] at this
  rw [← this]
  unfold goFieldsP spansOfP
  rw [List.map_map]
  refine List.map_congr_left fun x _ => ?_
  exact piece_ext s x.1 x.2
theorem wrd_len (s : ByteArray) (h : s.size ≤ 1048576) : (wrd s).length ≤ 100000000 := by
  have h1 := congrArg List.length (fields_wgo s)
  have h2 := wgo_len s.data.toList []
  have h3 : s.data.toList.length = s.size := Array.length_toList
  rw [List.length_map] at h1
  unfold wrd
  omega
end Go.Proofs.YtcklcledchboiaaDoor

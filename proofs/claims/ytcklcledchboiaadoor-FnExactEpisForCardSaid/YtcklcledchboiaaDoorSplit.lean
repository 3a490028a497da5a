/-
  The contract of spec.l01Split.
-/
import Derived.Test.YtcklcledchboiaaDoorNum
import Derived.Test.YtcklcledchboiaaDoorRat
import Derived.Lib.ItoaMem
import Derived.Laws.BytesArg
import Derived.OwnWalk
namespace Go.Proofs.YtcklcledchboiaaDoor
open Go.RowKit

/-- The cells of a list of texts. -/
def strC (ps : List ByteArray) : List Value := ps.map .string
theorem infoStr : (Tryd.prog.info? 9).map (fun i => (i.zero, i.size, i.bytes)) = some (some (.string ⟨#[]⟩), 1, 16) := by kernel_rfl
/-- What the loop of l01Split keeps: the parts behind which 'from' stands, and the place. -/
def SplRel (w : World) (s : ByteArray) (c : UInt8) (v fv iv : Value) (wr : World) : Prop :=
  ∃ (f i : Nat) (ps : List ByteArray) (g cap : Nat), fv = .int .i64 f ∧ iv = .int .i64 i ∧ f ≤ i ∧ i ≤ s.size ∧ ps.length ≤ f ∧ (∀ p ∈ ps, c ∉ p.data.toList) ∧ (∀ j, f ≤ j → j < i → s.data.toList[j]? ≠ some c) ∧ (ps.flatMap fun p => p.data.toList ++ [c]) = s.data.toList.take f ∧
    v = .slice (some ⟨g, 0, none⟩) ps.length cap ∧ wr.ownsRow w.heap.size 9 1 v ps.length (strC ps) ∧ Below w.heap.size w wr

theorem spl_start (w : World) (s : ByteArray) (c : UInt8) : SplRel w s c (.slice (some ⟨w.heap.size, 0, none⟩) 0 0) (.int .i64 0) (.int .i64 0) (w.alloc (.cells #[] 9)) :=
  ⟨0, 0, [], w.heap.size, 0, rfl, rfl, Nat.le_refl _, Nat.zero_le _, Nat.le_refl _, List.forall_mem_nil _, fun j h1 h2 => by omega, rfl, rfl, ⟨rfl, .inr ⟨w.heap.size, 0, #[], rfl, Nat.le_refl _, (MapKept.heap_alloc w _).1, Nat.le_refl _, Nat.zero_le _, rfl, rfl⟩⟩, (Below.refl _ _).alloc (Nat.le_refl _) _⟩
theorem own_ge {w wr : World} {T : TypeId} {g n cap : Nat} {xs : List Value} (h : wr.ownsRow w.heap.size T 1 (.slice (some ⟨g, 0, none⟩) n cap) n xs) : w.heap.size ≤ g := by
  rcases h.2 with ⟨h0, _⟩ | ⟨g', cap', cur, h0, hg, _⟩
  · cases h0
  · injection h0 with h1 _ _
    injection h1 with h1
    injection h1 with h1
    omega
theorem own_shape {w wr : World} {T : TypeId} {v : Value} {n : Nat} {xs : List Value} (h : wr.ownsRow w.heap.size T 1 v n xs) (hv : ¬ v = .slice none 0 0) : ∃ g cap, v = .slice (some ⟨g, 0, none⟩) n cap := by
  rcases h.2 with ⟨h0, _⟩ | ⟨g', cap', cur, h0, _⟩
  · exact absurd h0 hv
  · exact ⟨g', cap', h0⟩
theorem spl_src (wr : World) (T : TypeId) (x : Value) : ∀ (j : Nat) (u : Value), [x][j]? = some u → (wr.alloc (.cells #[x] T)).cell? ((⟨wr.heap.size, 0, none⟩ : Addr).add j) = some u := by
  intro j u hj
  match j with
  | 0 => simp at hj; subst hj; rw [Lib.add_plain]; simp [go_sem]
  | j + 1 => simp at hj
theorem spl_at {s : ByteArray} {c : UInt8} {i : Nat} (h : i < s.size) (hc : ((s[i].toNat : Nat) : Int) = (c.toNat : Int)) : s.data.toList[i]? = some c := by
  have e : s[i] = c := UInt8.toNat_inj.1 (by omega)
  have h' : i < s.data.toList.length := by simpa using h
  rw [List.getElem?_eq_getElem h', ← e]; rfl
theorem spl_not {s : ByteArray} {c : UInt8} {i : Nat} (h : i < s.size) (hc : ¬ ((s[i].toNat : Nat) : Int) = (c.toNat : Int)) : s.data.toList[i]? ≠ some c := by
  have h' : i < s.data.toList.length := by simpa using h
  rw [List.getElem?_eq_getElem h']
  intro e
  apply hc
  have e2 : s[i] = c := Option.some.inj e
  rw [e2]
theorem ext_list (s : ByteArray) (f i : Nat) : (s.extract f i).data.toList = (s.data.toList.drop f).take (i - f) := by
  simp [ByteArray.data_extract]
theorem ext_no {s : ByteArray} {c : UInt8} {f i : Nat} (h : ∀ j, f ≤ j → j < i → s.data.toList[j]? ≠ some c) : c ∉ (s.extract f i).data.toList := by
  rw [ext_list]
  intro hm
  obtain ⟨k, hk⟩ := List.mem_iff_getElem?.1 hm
  by_cases hki : k < i - f
  · rw [List.getElem?_take_of_lt hki, List.getElem?_drop] at hk
    exact h (f + k) (by omega) (by omega) hk
  · rw [List.getElem?_take_eq_none (by omega)] at hk; cases hk
theorem ext_join {s : ByteArray} {c : UInt8} {f i : Nat} (hf : f ≤ i) (hi : s.data.toList[i]? = some c) : s.data.toList.take f ++ ((s.extract f i).data.toList ++ [c]) = s.data.toList.take (i + 1) := by
  rw [ext_list, List.take_add_one, hi]
  have : s.data.toList.take i = s.data.toList.take f ++ (s.data.toList.drop f).take (i - f) := by
    rw [← List.take_add]; congr 1; omega
  rw [this]; simp
theorem ext_last {s : ByteArray} {f : Nat} : s.data.toList.take f ++ (s.extract f s.size).data.toList = s.data.toList := by
  rw [ext_list, List.take_of_length_le (l := s.data.toList.drop f) (by simp), List.take_append_drop]
theorem spl_next {w wr w' : World} {o : Obj} {s : ByteArray} {c : UInt8} {f i g : Nat} {ps : List ByteArray} {v' : Value} (hb : Below w.heap.size w wr) (hg : (wr.alloc o).grownBy w' (some g)) (hge : w.heap.size ≤ g) (hown : w'.ownsRow w.heap.size 9 1 v' (ps.length + 1) (strC ps ++ [.string (s.extract f i)]))
    (hv : ¬ v' = .slice none 0 0) (hfi : f ≤ i) (his : i < s.size) (hpl : ps.length ≤ f) (hno : ∀ p ∈ ps, c ∉ p.data.toList) (hno2 : ∀ j, f ≤ j → j < i → s.data.toList[j]? ≠ some c) (hj : (ps.flatMap fun p => p.data.toList ++ [c]) = s.data.toList.take f) (hi : s.data.toList[i]? = some c) : SplRel w s c v' (.int .i64 (i + 1 : Nat)) (.int .i64 (i + 1 : Nat)) w' := by
  obtain ⟨g', cap', rfl⟩ := own_shape hown hv
  refine ⟨i + 1, i + 1, ps ++ [s.extract f i], g', cap', rfl, rfl, Nat.le_refl _, his, by simp; omega, ?_, fun j h1 h2 => by omega, ?_, by simp, ?_, ?_⟩
  · intro p hp
    rcases List.mem_append.1 hp with hp | hp
    · exact hno p hp
    · rw [List.mem_singleton.1 hp]; exact ext_no hno2
  · rw [List.flatMap_append, hj, ← ext_join hfi hi]; simp
  · have e : strC (ps ++ [s.extract f i]) = strC ps ++ [.string (s.extract f i)] := by simp [strC]
    rw [e, List.length_append]; exact hown
  · exact (hb.alloc hb.size o).grown hg (by have := hb.size; simp; omega) (fun x e => by have := Option.some.inj e; omega)
/-- How splitting ends: a new row with the parts. -/
def SplRet (w : World) (s : ByteArray) (c : UInt8) (e : Ending) (w' : World) : Prop :=
  ∃ (ps : List ByteArray) (last : ByteArray) (g cap : Nat), e = .returned (.slice (some ⟨g, 0, none⟩) (ps.length + 1) cap) ∧ w'.ownsRow w.heap.size 9 1 (.slice (some ⟨g, 0, none⟩) (ps.length + 1) cap) (ps.length + 1) (strC ps ++ [.string last]) ∧
    (∀ p ∈ ps, c ∉ p.data.toList) ∧ c ∉ last.data.toList ∧ (ps.flatMap fun p => p.data.toList ++ [c]) ++ last.data.toList = s.data.toList
theorem spl_end {w wr w' : World} {o : Obj} {s : ByteArray} {c : UInt8} {f g : Nat} {ps : List ByteArray} {v' : Value} (hb : Below w.heap.size w wr) (hg : (wr.alloc o).grownBy w' (some g)) (hge : w.heap.size ≤ g) (hown : w'.ownsRow w.heap.size 9 1 v' (ps.length + 1) (strC ps ++ [.string (s.extract f s.size)]))
    (hv : ¬ v' = .slice none 0 0) (hno : ∀ p ∈ ps, c ∉ p.data.toList) (hno2 : ∀ j, f ≤ j → j < s.size → s.data.toList[j]? ≠ some c) (hj : (ps.flatMap fun p => p.data.toList ++ [c]) = s.data.toList.take f) : SplRet w s c (.returned v') w' ∧ Below w.heap.size w w' := by
  obtain ⟨g', cap', rfl⟩ := own_shape hown hv
  exact ⟨⟨ps, s.extract f s.size, g', cap', rfl, hown, hno, ext_no hno2, by rw [hj, ext_last]⟩, (hb.alloc hb.size o).grown hg (by have := hb.size; simp; omega) (fun x e => by have := Option.some.inj e; omega)⟩
set_option maxRecDepth 100000 in
set_option maxHeartbeats 2000000 in
theorem l01Split_any (s : ByteArray) (c : UInt8) (w : World) (hs : s.size ≤ 1048576) :
    Calls Tryd.prog 87 #[.string s, .int .u8 (c.toNat : Int)] w fun e w' => SplRet w s c e w' ∧ Below w.heap.size w w' := by
  obtain ⟨i0, hi, hz0, hz1, hz2⟩ := info_parts infoStr
  go_enter Tryd.func87, Tryd.ntmps87
  go_wp2_with fail
  go_loopw [5, 6, 7] (fun v f i wr => SplRel w s c v f i wr) (fun _ _ i _ => s.size - (intOf i).toNat)
  case atStart => exact spl_start w s c
  case round =>
    obtain ⟨f, i, ps, g, cap, rfl, rfl, hfi, his, hpl, hno, hno2, hjoin, rfl, hown, hb⟩ := hrel
    have hge := own_ge hown
    have HO := Lib.hid hown
    have HN := Lib.hid hno
    have HN2 := Lib.hid hno2
    have HJ := Lib.hid hjoin
    clear hown hno hno2 hjoin
    by_cases hlt : i < s.size
    · by_cases hc : ((s[i].toNat : Nat) : Int) = (c.toNat : Int)
      · have hcb : (((s[i].toNat : Nat) : Int) == (c.toNat : Int)) = true := by simp [hc]
        have HI := Lib.hid (spl_at hlt hc)
        clear hc
        go_wp2_with (at_builtin; refine wpList_append_own _ rfl _ _ 38 rfl w.heap.size 9 i0 (.string ⟨#[]⟩) 1 16 Tryd.underlying38 hi hz0 hz1 hz2 rfl (by decide) _ ps.length (strC ps) rfl (HO.out.alloc _) ⟨wr.heap.size, 0, none⟩ 1 1 [.string (s.extract f i)] rfl ?c1 ?c2 ?c3 ?c4 ?c5 ?c6 ?_)
        try (case c1 => rfl)
        case c2 => exact spl_src _ _ _
        case c3 => exact fun u hu => by rw [List.mem_singleton.1 hu]; rfl
        case c4 => unfold maxLen; omega
        case c5 => omega
        case c6 => have := hb.size; simp; omega
        intro v' w1 hown1 hg1 hv1
        have R := Lib.hid (spl_next hb hg1 hge hown1 hv1 hfi hlt hpl HN.out HN2.out HJ.out HI.out)
        clear hown1 hg1 hv1
        go_wp2_with fail
        go_roundw
        case rel => exact R.out
        case measure => simp [intOf]; omega
      · have hcb : (((s[i].toNat : Nat) : Int) == (c.toNat : Int)) = false := by rw [beq_eq_false_iff_ne]; exact hc
        have HI := Lib.hid (spl_not hlt hc)
        clear hc
        go_wp2_with fail
        go_roundw
        case rel => exact ⟨f, i + 1, ps, g, cap, rfl, by go_num, by omega, hlt, hpl, HN.out, fun j h1 h2 => by rcases Nat.lt_succ_iff_lt_or_eq.1 h2 with h | h; exact HN2.out j h1 h; rw [h]; exact HI.out, HJ.out, rfl, HO.out, hb⟩
        case measure => simp [intOf]; omega
    · have hie : i = s.size := by omega
      subst hie
      go_wp2_with (at_builtin; refine wpList_append_own _ rfl _ _ 38 rfl w.heap.size 9 i0 (.string ⟨#[]⟩) 1 16 Tryd.underlying38 hi hz0 hz1 hz2 rfl (by decide) _ ps.length (strC ps) rfl (HO.out.alloc _) ⟨wr.heap.size, 0, none⟩ 1 1 [.string (s.extract f s.size)] rfl ?d1 ?d2 ?d3 ?d4 ?d5 ?d6 ?_)
      try (case d1 => rfl)
      case d2 => exact spl_src _ _ _
      case d3 => exact fun u hu => by rw [List.mem_singleton.1 hu]; rfl
      case d4 => unfold maxLen; omega
      case d5 => omega
      case d6 => have := hb.size; simp; omega
      intro v' w1 hown1 hg1 hv1
      have R := Lib.hid (spl_end hb hg1 hge hown1 hv1 HN.out HN2.out HJ.out)
      clear hown1 hg1 hv1
      go_wp2_with fail
      go_ret
      exact R.out
end Go.Proofs.YtcklcledchboiaaDoor

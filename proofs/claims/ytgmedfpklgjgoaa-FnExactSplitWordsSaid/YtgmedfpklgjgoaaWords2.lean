/-
  The contracts of impl.isBlank, impl.SplitWords, spec.SplitWords; the walk of laws.FnExactSplitWords.
-/
import Derived.Test.YtgmedfpklgjgoaaWords
import Derived.Test.YtgmedfpklgjgoaaStrS
import Derived.Test.YtgmedfpklgjgoaaShelf
import Derived.RangeFuncBox
import Derived.Test.YtgmedfpklgjgoaaOwn
namespace Go.Proofs.Ytgmedfpklgjgoaa
open Go.RowKit Go.Lib

theorem isBlank_at (w : World) : PredAt Try.prog 38 #[] encR blank w := fun W r _ => by
  unfold FnGives
  by_cases h : r = 32
  · subst h
    go_enter Try.func38, Try.ntmps38
    go_wp2
    go_ret
    exact ⟨rfl, 0, rfl⟩
  · have z : ((r : Int) == 32) = false := by rw [beq_eq_false_iff_ne]; omega
    have hb : blank r = false := by unfold blank; rw [beq_eq_false_iff_ne]; exact h
    rw [hb]
    clear h hb
    go_enter Try.func38, Try.ntmps38
    go_wp2
    go_ret
    exact ⟨rfl, 0, rfl⟩
/-- The words of a text. -/
def wrd (s : ByteArray) : List ByteArray := goFieldsP blank s
def WrRet (w : World) (ps : List ByteArray) (e : Ending) (w' : World) : Prop := ∃ v, e = .returned v ∧ w'.ownsRow w.heap.size 9 1 v ps.length (strC ps) ∧ Below w.heap.size w w'
theorem SplitWordsI_any (s : ByteArray) (w : World) (hs : s.size ≤ 1048576) :
    Calls Try.prog 11 #[.string s] w (WrRet w (wrd s)) := by
  have HC := Lib.hid (Try.strings_FieldsFunc 38 #[] (enters_of Try.func38 (by kernel_rfl) rfl) blank s w (by omega) (isBlank_at w))
  clear hs
  go_enter Try.func11, Try.ntmps11
  go_wp2_with fail
  refine HC.out.mono ?_
  rintro e w1 ⟨A, rfl, hA, hown, hb⟩
  have HO := Lib.hid (show WrRet w (wrd s) (.returned (.slice (some ⟨A, 0, none⟩) (goFieldsP blank s).length (goFieldsP blank s).length)) w1 from ⟨_, rfl, hown, hb⟩)
  clear hown hb
  go_wp2_with fail
  go_ret
  exact HO.out
def SwRel (W1 : World) (g : Nat) (ps : List ByteArray) (v i : Value) (wr : World) : Prop :=
  ∃ (k h cap : Nat), v = .slice (some ⟨h, 0, none⟩) ((ps.take k).filter full).length cap ∧ i = .int .i64 (k : Int) ∧ k ≤ ps.length ∧ wr.ownsRow W1.heap.size 9 1 v ((ps.take k).filter full).length (strC ((ps.take k).filter full)) ∧ Below W1.heap.size W1 wr
theorem rowS_new (w : World) : (w.alloc (.cells #[] 9)).ownsRow w.heap.size 9 1 (.slice (some ⟨w.heap.size, 0, none⟩) 0 0) 0 [] :=
  ⟨rfl, .inr ⟨w.heap.size, 0, #[], rfl, Nat.le_refl _, (MapKept.heap_alloc w _).1, Nat.le_refl _, Nat.zero_le _, rfl, rfl⟩⟩
theorem take_keep {ps : List ByteArray} {k : Nat} (h : k < ps.length) (hf : full (sat ps k) = true) : (ps.take (k + 1)).filter full = (ps.take k).filter full ++ [sat ps k] := by
  have e : ps[k] = sat ps k := by unfold sat; rw [List.getElem?_eq_getElem h]; rfl
  rw [List.take_succ_eq_append_getElem h, List.filter_append, e]
  simp [hf]
theorem take_drop {ps : List ByteArray} {k : Nat} (h : k < ps.length) (hf : full (sat ps k) = false) : (ps.take (k + 1)).filter full = (ps.take k).filter full := by
  have e : ps[k] = sat ps k := by unfold sat; rw [List.getElem?_eq_getElem h]; rfl
  rw [List.take_succ_eq_append_getElem h, List.filter_append, e]
  simp [hf]
theorem empty_no2 {s : ByteArray} (h : s.size ≠ 0) : s.toList.isEmpty = false := by
  rw [ByteArray.toList_eq]
  have : s.data.toList.length ≠ 0 := h
  rw [List.isEmpty_eq_false_iff]
  exact fun e => this (by rw [e]; rfl)


theorem full_yes {x : ByteArray} (h : full x = true) : x.toList.isEmpty = false := by
  refine empty_no2 fun e => ?_
  unfold full at h
  rw [e] at h
  cases h
theorem full_no {x : ByteArray} (h : full x = false) : x = ⟨#[]⟩ := by
  have h0 : x.size = 0 := by
    unfold full at h
    simpa using h
  apply ByteArray.ext
  exact Array.eq_empty_of_size_eq_zero h0
theorem filter_len (ps : List ByteArray) (k : Nat) : ((ps.take k).filter full).length ≤ k := by
  have := List.length_filter_le full (ps.take k)
  rw [List.length_take] at this; omega
set_option maxRecDepth 100000 in
set_option maxHeartbeats 4000000 in
theorem SplitWordsS_any (s : ByteArray) (w : World) (hs : s.size ≤ 1048576) :
    Calls Try.prog 10 #[.string s] w (WrRet w (wrd s)) := by
  obtain ⟨i0, hi, hz0, hz1, hz2⟩ := info_parts infoStr
  have HC := Lib.hid (l01Split_any s 32 w hs)
  go_enter Try.func10, Try.ntmps10
  go_wp2_with fail
  refine HC.out.mono ?_
  rintro e w1 ⟨⟨ps, last, g, cap, rfl, hown, hno, hno2, hj⟩, hb1⟩
  have hw := fields_parts s ps last hno hno2 hj
  have HW := Lib.hid (show wrd s = (ps ++ [last]).filter full from hw)
  have hown' : w1.ownsRow w.heap.size 9 1 (.slice (some ⟨g, 0, none⟩) (ps ++ [last]).length cap) (ps ++ [last]).length (strC (ps ++ [last])) := by
    have e1 : strC (ps ++ [last]) = strC ps ++ [.string last] := by simp [strC]
    rw [e1, List.length_append]; exact hown
  have hlen : (ps ++ [last]).length ≤ 1048577 := by
    have h1 : (ps.map fun p => (p.data.toList ++ [(32 : UInt8)]).length).sum + last.data.toList.length = s.data.toList.length := by rw [← hj, List.length_append, List.length_flatMap]
    have h2 : s.data.toList.length = s.size := Array.length_toList
    have h3 : ps.length ≤ (ps.map fun p => (p.data.toList ++ [(32 : UInt8)]).length).sum := by
      clear h1 hw hown hown' hno HW hj
      induction ps with
      | nil => simp
      | cons p ps ih => simp only [List.map_cons, List.sum_cons, List.length_cons, List.length_append, List.length_nil] at ih ⊢; omega
    have h13 : ps.length + last.data.toList.length ≤ s.data.toList.length := by rw [← h1]; exact Nat.add_le_add_right h3 _
    rw [h2] at h13
    rw [List.length_append, List.length_singleton]
    have := Nat.le_add_right ps.length last.data.toList.length
    omega
  have hg := (own_blk hown' g rfl).2
  have HT := Lib.hid (own_texts hown')
  have HB1 := Lib.hid hb1
  have el : ps.length + 1 = (ps ++ [last]).length := by simp
  rw [el]
  clear hw hown hown' hno hno2 hj hb1 hs el
  generalize ps ++ [last] = qs at *
  have RS := Lib.hid (show SwRel w1 g qs (.slice (some ⟨w1.heap.size, 0, none⟩) 0 0) (.int .i64 0) (w1.alloc (.cells #[] 9)) from ⟨0, w1.heap.size, 0, by simp, rfl, Nat.zero_le _, by simpa [strC] using rowS_new w1, bA (bR _) _⟩)
  go_wp2_with fail
  go_loopw [4, 5] (fun v i wr => SwRel w1 g qs v i wr) (fun _ i _ => qs.length - (intOf i).toNat)
  case atStart => exact RS.out
  case round =>
    obtain ⟨k, h, hcap, rfl, rfl, hk, hown, hb⟩ := hrel
    have HO := Lib.hid hown
    have HB := Lib.hid hb
    have hsz := hb.size
    have hgr := (own_blk hown h rfl).1
    have hfl := filter_len qs k
    clear hown hb
    by_cases hlt : k < qs.length
    · have c1 := (HT.out.keep hg HB.out) k hlt
      cases hf : full (sat qs k)
      · have HF := Lib.hid (take_drop hlt hf)
        have e0 := full_no hf
        rw [e0] at c1
        clear e0 hf
        go_wp2_with fail
        go_roundw
        case rel => exact ⟨k + 1, h, hcap, by rw [HF.out], by go_num, hlt, by rw [HF.out]; exact HO.out, HB.out⟩
        case measure => simp [intOf]; omega
      · have HF := Lib.hid (take_keep hlt hf)
        have e0 := full_yes hf
        have hg' : g < wr.heap.size := by omega
        generalize sat qs k = x at *
        clear hf
        go_wp2_with (at_builtin; refine wpList_append_own _ rfl _ _ 22 rfl w1.heap.size 9 i0 (.string ⟨#[]⟩) 1 16 Try.underlying22 hi hz0 hz1 hz2 rfl (by decide) _ ((qs.take k).filter full).length (strC ((qs.take k).filter full)) rfl (HO.out.alloc _) ⟨wr.heap.size, 0, none⟩ 1 1 [.string x] rfl ?c1 ?c2 ?c3 ?c4 ?c5 ?c6 ?_)
        try (case c1 => rfl)
        case c2 => exact spl_src _ _ _
        case c3 => exact fun u hu => by rw [List.mem_singleton.1 hu]; rfl
        case c4 => unfold maxLen; omega
        case c5 => omega
        case c6 => simp; omega
        intro v' w2 hown1 hg1 hv1
        have e1 : strC ((qs.take k).filter full) ++ [.string x] = strC ((qs.take (k + 1)).filter full) := by rw [HF.out]; simp [strC]
        rw [e1] at hown1
        obtain ⟨g', cap', rfl⟩ := ownsRow_succ hown1
        have e2 : ((qs.take k).filter full).length + 1 = ((qs.take (k + 1)).filter full).length := by rw [HF.out]; simp
        have RN := Lib.hid (show SwRel w1 g qs (.slice (some ⟨g', 0, none⟩) (((qs.take k).filter full).length + 1) cap') (.int .i64 ((k : Int) + 1)) w2 from ⟨k + 1, g', cap', by rw [e2], by go_num, hlt, by rw [← e2]; exact hown1, bGrown HB.out hg1 hgr⟩)
        clear hown1 hg1 hv1 e1 e2 e0
        go_wp2_with fail
        go_roundw
        case rel => exact RN.out
        case measure => simp [intOf]; omega
    · obtain rfl : k = qs.length := by omega
      go_wp2_with fail
      go_ret
      rw [HW.out]
      have hfin := HO.out
      rw [List.take_length] at hfin
      exact ⟨_, by rw [List.take_length]; rfl, own_lower hfin HB1.out.size, bT HB1.out HB.out⟩
theorem wgo_len : ∀ (l cur : List UInt8), (wgo cur l).length ≤ l.length + 1
  | [], cur => by rw [wgo_nil]; split <;> simp
  | b :: t, cur => by
    rw [wgo]
    have h1 := wgo_len t []
    have h2 := wgo_len t (cur ++ [b])
    split
    · split
      · simp only [List.length_cons]; omega
      · simp only [List.length_cons]; omega
    · simp only [List.length_cons]; omega
theorem fields_wgo (s : ByteArray) : (goFieldsP blank s).map (fun p => p.data.toList) = wgo [] s.data.toList := by
  have := spans_wgo s s.size 0 none [] (by omega) (by omega) (fun a h => by cases h)
  simp only [openPiece, List.map_nil, List.nil_append, List.drop_zero] at this
  rw [← this]
  unfold goFieldsP spansOfP
  rw [List.map_map]
  refine List.map_congr_left fun x _ => ?_
  exact piece_ext s x.1 x.2
theorem wrd_len (s : ByteArray) (h : s.size ≤ 1048576) : (wrd s).length ≤ 100000000 := by
  have h1 := congrArg List.length (fields_wgo s)
  have h2 := wgo_len s.data.toList []
  have h3 : s.data.toList.length = s.size := Array.length_toList
  rw [List.length_map] at h1
  unfold wrd
  omega
set_option maxHeartbeats 4000000 in
theorem FnExactSplitWords_walk (s : ByteArray) (w : World) (hs : s.size ≤ maxLen) :
    Calls Try.prog 3 #[.string s] w fun e w' => e = .returned (.bool true) ∧ Below w.heap.size w w' := by
  unfold maxLen at hs
  by_cases hlong : 1048576 < s.size
  · go_enter Try.func3, Try.ntmps3
    go_wp2_with fail
    go_ret
    exact ⟨rfl, bR _⟩
  · have HS := Lib.hid (show s.size ≤ 1048576 by omega)
    have hmax := wrd_len s (by omega)
    generalize hts : wrd s = ts at hmax
    have HT := Lib.hid hts
    clear hts
    go_enter Try.func3, Try.ntmps3
    go_wp2_with fail
    refine (SplitWordsS_any s _ HS.out).mono ?_
    rw [HT.out]
    rintro e w2 ⟨v0, rfl, hv0, hb2⟩
    have L2 := Lib.hid hb2
    have V0 := Lib.hid (slS_of hv0)
    clear hb2 hv0
    go_wp2_with fail
    refine (SplitWordsI_any s _ HS.out).mono ?_
    rw [HT.out]
    rintro e w4 ⟨v1, rfl, hv1, hb4⟩
    have L4 := Lib.hid (bT L2.out hb4)
    have V04 := Lib.hid (V0.out.keep hb4)
    have V1 := Lib.hid hv1
    have h34 := hb4.size
    have HM := Lib.hid (fun (r : Nat) (e : v1.ownBlock = some r) => (own_blk hv1 r e).1)
    have HB4 := Lib.hid hb4
    clear hb4 hv1
    go_wp2_with fail
    refine (eqStringS_same ts v1 v0 w4 (slS_of V1.out) V04.out (by omega)).mono ?_
    rintro e w5 ⟨rfl, m5, rfl⟩
    go_wp2_with fail
    refine (markStringS_any 1 ts w2.heap.size v1 (w4.drewN m5) V1.out (by omega) (by omega) (by omega)).mono ?_
    rintro e w6 ⟨rfl, hv6, hg6⟩
    have H26 : Below w2.heap.size w2 w6 := bT2 (bD HB4.out m5) (grown_bel hg6 HM.out h34)
    have L6 := Lib.hid (bT L2.out H26)
    have V06 := Lib.hid (V0.out.keep H26)
    have V6 := Lib.hid (slS_of hv6)
    have hne2 : (((1 + ts.length : Nat) : Int) != ((1 + ts.length : Nat) : Int)) = false := by simp
    clear H26 hv6 hg6 HM HB4 V0 L4 V04 V1 h34
    go_wp2_with fail
    refine (heldStringS_same 1 ts.length v1 w6 V6.out (by omega) (by omega) (by omega)).mono ?_
    rintro e w7 ⟨rfl, hb7⟩
    have L7 := Lib.hid (bT L6.out hb7)
    have V07 := Lib.hid (V06.out.keep hb7)
    have V7 := Lib.hid (V6.out.keep hb7)
    clear hb7 L6 V06 V6
    go_wp2_with fail
    refine (SplitWordsI_any s _ HS.out).mono ?_
    rw [HT.out]
    rintro e w8 ⟨v2, rfl, hv2, hb8⟩
    have L8 := Lib.hid (bT L7.out hb8)
    have V08 := Lib.hid (V07.out.keep hb8)
    have V8 := Lib.hid (V7.out.keep hb8)
    have V2 := Lib.hid (slS_of hv2)
    clear hb8 L7 V07 V7 hv2
    go_wp2_with fail
    refine (eqStringS_same ts v2 v0 w8 V2.out V08.out (by omega)).mono ?_
    rintro e w9 ⟨rfl, m9, rfl⟩
    go_wp2_with fail
    refine (heldStringS_same 1 ts.length v1 (w8.drewN m9) V8.out (by omega) (by omega) (by omega)).mono ?_
    rintro e w9' ⟨rfl, hb9⟩
    have L9 := Lib.hid (bT (bD L8.out m9) hb9)
    clear hb9
    go_wp2_with fail
    go_ret
    exact ⟨rfl, L9.out⟩
end Go.Proofs.Ytgmedfpklgjgoaa

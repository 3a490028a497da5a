/-
  Words between blanks: the pieces that strings.FieldsFunc gives at the blank are the parts between blanks that are not empty.
-/
import Derived.Lib.FieldsP
import Derived.Test.YtcklcledchboiaaDoorProg
namespace Go.Proofs.YtcklcledchboiaaDoor
open Go Go.Lib

def blank (r : Nat) : Bool := r == 32
def wgo : List UInt8 → List UInt8 → List (List UInt8)
  | cur, [] => if cur = [] then [] else [cur]
  | cur, b :: t => if b = 32 then (if cur = [] then wgo [] t else cur :: wgo [] t) else wgo (cur ++ [b]) t
theorem wgo_nil (cur : List UInt8) : wgo cur [] = if cur = [] then [] else [cur] := by rw [wgo]
theorem wgo_blank (cur t : List UInt8) : wgo cur (32 :: t) = if cur = [] then wgo [] t else cur :: wgo [] t := by rw [wgo, if_pos rfl]
theorem wgo_run : ∀ (p t cur : List UInt8), (32 : UInt8) ∉ p → wgo cur (p ++ t) = wgo (cur ++ p) t
  | [], t, cur, _ => by simp
  | b :: p, t, cur, h => by
    have hb : b ≠ 32 := fun e => h (by simp [e])
    have hp : (32 : UInt8) ∉ p := fun e => h (by simp [e])
    rw [List.cons_append, wgo, if_neg hb, wgo_run p t (cur ++ [b]) hp]
    simp
theorem wgo_last (p : List UInt8) (h : (32 : UInt8) ∉ p) : wgo [] p = if p = [] then [] else [p] := by
  have := wgo_run p [] [] h
  simp only [List.append_nil, List.nil_append] at this
  rw [this, wgo_nil]
/-- A text that is not empty. -/
def full (p : ByteArray) : Bool := p.size != 0
theorem full_list (p : ByteArray) : full p = !decide (p.data.toList = []) := by
  unfold full
  have : p.size = p.data.toList.length := Array.length_toList.symm
  rw [this]
  cases p.data.toList <;> simp
theorem wgo_parts : ∀ (ps : List ByteArray) (last : ByteArray), (∀ p ∈ ps, (32 : UInt8) ∉ p.data.toList) → (32 : UInt8) ∉ last.data.toList →
    wgo [] ((ps.flatMap fun p => p.data.toList ++ [32]) ++ last.data.toList) = ((ps ++ [last]).filter full).map fun p => p.data.toList
  | [], last, _, h => by
    rw [List.flatMap_nil, List.nil_append, wgo_last _ h, List.nil_append, List.filter_cons, full_list]
    by_cases e : last.data.toList = [] <;> simp [e]
  | p :: ps, last, h, hl => by
    have ih := wgo_parts ps last (fun q hq => h q (by simp [hq])) hl
    rw [List.flatMap_cons, List.append_assoc, List.append_assoc, wgo_run _ _ _ (h p (by simp)), List.nil_append, List.singleton_append, wgo_blank, ih, List.cons_append, List.filter_cons, full_list]
    by_cases e : p.data.toList = [] <;> simp [e]

theorem decN32 (n b0 b1 b2 b3 : Nat) (hn : 1 ≤ n) : ((decodeN n b0 b1 b2 b3).1 = 32 ↔ b0 = 32) ∧ ((decodeN n b0 b1 b2 b3).1 = 32 → (decodeN n b0 b1 b2 b3).2 = 1) ∧ 1 ≤ (decodeN n b0 b1 b2 b3).2 ∧ (decodeN n b0 b1 b2 b3).2 ≤ n ∧ (decodeN n b0 b1 b2 b3).2 ≤ 4 ∧
    (1 < (decodeN n b0 b1 b2 b3).2 → b1 ≠ 32) ∧ (2 < (decodeN n b0 b1 b2 b3).2 → b2 ≠ 32) ∧ (3 < (decodeN n b0 b1 b2 b3).2 → b3 ≠ 32) := by
  unfold decodeN
  repeat' split
  all_goals (refine ⟨⟨fun h => ?_, fun h => ?_⟩, fun h => ?_, ?_, ?_, ?_, fun h => ?_, fun h => ?_, fun h => ?_⟩ <;> dsimp only at * <;> omega)
theorem get_list (s : ByteArray) (i : Nat) (h : i < s.size) : s.data.toList[i]? = some (s.get! i) := by
  have h' : i < s.data.toList.length := by simpa using h
  rw [List.getElem?_eq_getElem h']
  simp [ByteArray.get!, getElem!_pos, h]
theorem u8_32 (b : UInt8) : b.toNat = 32 ↔ b = 32 := by
  constructor
  · intro h; exact UInt8.toNat_inj.1 h
  · rintro rfl; rfl
/-- What a rune at a place is: a blank in one byte, or bytes none of which is a blank. -/
theorem dec_blank (s : ByteArray) (pos : Nat) (h : pos < s.size) : 1 ≤ (Utf8.decode s pos).2 ∧ pos + (Utf8.decode s pos).2 ≤ s.size ∧
    (if blank (Utf8.decode s pos).1 = true then (Utf8.decode s pos).2 = 1 ∧ s.data.toList[pos]? = some 32 else (32 : UInt8) ∉ (s.data.toList.drop pos).take (Utf8.decode s pos).2) := by
  obtain ⟨h1, h2, h3, h4, h5, h6, h7, h8⟩ := decN32 (s.size - pos) (s.get! pos).toNat (s.get! (pos + 1)).toNat (s.get! (pos + 2)).toNat (s.get! (pos + 3)).toNat (by omega)
  rw [← decode_at] at h1 h2 h3 h4 h5 h6 h7 h8
  refine ⟨h3, by omega, ?_⟩
  split
  · rename_i hb
    have e : (Utf8.decode s pos).1 = 32 := by simpa [blank] using hb
    refine ⟨h2 e, ?_⟩
    rw [get_list s pos h, (u8_32 _).1 (h1.1 e)]
  · rename_i hb
    have e : ¬ (Utf8.decode s pos).1 = 32 := by simpa [blank] using hb
    intro hm
    obtain ⟨k, hk⟩ := List.mem_iff_getElem?.1 hm
    by_cases hlt : k < (Utf8.decode s pos).2
    · rw [List.getElem?_take_of_lt hlt, List.getElem?_drop, get_list s (pos + k) (by omega)] at hk
      have hk' : (s.get! (pos + k)).toNat = 32 := by rw [Option.some.inj hk]; rfl
      match k, hlt, hk' with
      | 0, _, hk' => exact e (h1.2 hk')
      | 1, hlt, hk' => exact h6 hlt hk'
      | 2, hlt, hk' => exact h7 hlt hk'
      | 3, hlt, hk' => exact h8 hlt hk'
      | k + 4, hlt, _ => omega
    · rw [List.getElem?_take_eq_none (by omega)] at hk; cases hk
theorem sz_list (s : ByteArray) : s.data.toList.length = s.size := Array.length_toList
theorem spans_wgo (s : ByteArray) : ∀ (f pos : Nat) (st : Option Nat) (acc : List (Nat × Nat)), s.size ≤ pos + f → pos ≤ s.size → (∀ a, st = some a → a < pos) →
    (closeSpans s (spansFromP blank s f pos st acc)).map (fun p => pieceU s.data.toList p.1 p.2) = acc.map (fun p => pieceU s.data.toList p.1 p.2) ++ wgo (openPiece s.data.toList st pos) (s.data.toList.drop pos) := by
  have fin : ∀ (pos : Nat) (st : Option Nat) (acc : List (Nat × Nat)), pos = s.size → (∀ a, st = some a → a < pos) →
      (closeSpans s (acc, st)).map (fun p => pieceU s.data.toList p.1 p.2) = acc.map (fun p => pieceU s.data.toList p.1 p.2) ++ wgo (openPiece s.data.toList st pos) (s.data.toList.drop pos) := by
    rintro pos st acc rfl hst
    have hd : s.data.toList.drop s.size = [] := List.drop_eq_nil_of_le (by rw [sz_list]; exact Nat.le_refl _)
    rw [hd, wgo_nil]
    cases st with
    | none => simp [closeSpans, openPiece]
    | some a =>
      have := pieceU_ne s.data.toList a s.size (hst a rfl) (by rw [sz_list]; exact Nat.le_refl _)
      simp [closeSpans, openPiece, this]
  intro f
  induction f with
  | zero =>
    intro pos st acc h hp hst
    exact fin pos st acc (by omega) hst
  | succ f ih =>
    intro pos st acc h hp hst
    by_cases hlt : pos < s.size
    · obtain ⟨w1, w2, w3⟩ := dec_blank s pos hlt
      simp only [spansFromP, if_pos hlt]
      by_cases hb : blank (Utf8.decode s pos).1 = true
      · rw [if_pos hb] at w3 ⊢
        obtain ⟨w3, w4⟩ := w3
        have hl : pos < s.data.toList.length := by rw [sz_list]; exact hlt
        have hd : s.data.toList.drop pos = 32 :: s.data.toList.drop (pos + 1) := by
          rw [List.drop_eq_getElem_cons hl]
          rw [List.getElem?_eq_getElem hl] at w4
          rw [Option.some.inj w4]
        rw [hd, wgo_blank, w3]
        cases st with
        | none =>
          have := ih (pos + 1) none acc (by omega) (by omega) (fun a h => by cases h)
          simpa [openPiece] using this
        | some a =>
          have hn := pieceU_ne s.data.toList a pos (hst a rfl) (by rw [sz_list]; omega)
          have := ih (pos + 1) none (acc ++ [(a, pos)]) (by omega) (by omega) (fun a h => by cases h)
          simpa [openPiece, hn] using this
      · rw [if_neg hb] at w3 ⊢
        have hd : s.data.toList.drop pos = (s.data.toList.drop pos).take (Utf8.decode s pos).2 ++ s.data.toList.drop (pos + (Utf8.decode s pos).2) := by
          rw [← List.drop_drop, List.take_append_drop]
        rw [hd, wgo_run _ _ _ w3]
        cases st with
        | none =>
          have := ih (pos + (Utf8.decode s pos).2) (some pos) acc (by omega) w2 (fun a h => by cases h; omega)
          rw [this]
          simp [openPiece, pieceU]
        | some a =>
          have := ih (pos + (Utf8.decode s pos).2) (some a) acc (by omega) w2 (fun b h => by cases h; have := hst a rfl; omega)
          rw [this]
          simp only [openPiece]
          rw [pieceU_grow _ _ _ _ (Nat.le_of_lt (hst a rfl))]
    · rw [spansFromP_end blank s _ _ _ _ hlt]
      exact fin pos st acc (by omega) hst
theorem piece_ext (s : ByteArray) (a b : Nat) : (s.extract a b).data.toList = pieceU s.data.toList a b := by
  simp [pieceU, ByteArray.data_extract]
/-- The pieces at blanks, out of the parts between blanks. -/
theorem fields_parts (s : ByteArray) (ps : List ByteArray) (last : ByteArray) (h1 : ∀ p ∈ ps, (32 : UInt8) ∉ p.data.toList) (h2 : (32 : UInt8) ∉ last.data.toList) (h3 : (ps.flatMap fun p => p.data.toList ++ [32]) ++ last.data.toList = s.data.toList) :
    goFieldsP blank s = (ps ++ [last]).filter full := by
  have e1 : (goFieldsP blank s).map (fun p => p.data.toList) = wgo [] s.data.toList := by
    have := spans_wgo s s.size 0 none [] (by omega) (by omega) (fun a h => by cases h)
    simp only [openPiece, List.map_nil, List.nil_append, List.drop_zero] at this
    rw [← this]
    unfold goFieldsP spansOfP
    rw [List.map_map]
    refine List.map_congr_left fun x _ => ?_
    exact piece_ext s x.1 x.2
  have e2 := wgo_parts ps last h1 h2
  rw [h3, ← e1] at e2
  refine (List.map_inj_right (f := fun p : ByteArray => p.data.toList) (fun x y h => ?_)).1 e2
  exact ByteArray.ext (Array.toList_inj.1 h)
end Go.Proofs.YtcklcledchboiaaDoor

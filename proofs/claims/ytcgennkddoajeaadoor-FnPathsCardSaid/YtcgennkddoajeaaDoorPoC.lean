/-
  The contract of (*strings.Builder).WriteByte at a Builder whose buffer lies above other blocks of the call.
-/
import Derived.Test.YtcgennkddoajeaaDoorPoB
import Derived.Test.YtcgennkddoajeaaDoorPoM
import Derived.Test.YtcgennkddoajeaaDoorRf
namespace Go.Proofs.YtcgennkddoajeaaDoor
open Go.RowKit

/-- A Builder in block b whose buffer lies from B on. -/
def UC (b B : Nat) (p : Value) (bs : List Value) (w : World) : Prop :=
  b < B ∧ B ≤ w.heap.size ∧ ∃ v, w.heap[b]? = some (.cells #[p, v] 55 (0, 0)) ∧ w.ownsRow B 5 1 v bs.length bs
def UCI (b B : Nat) (bs : List Value) (w : World) : Prop := UC b B (.pointer none) bs w ∨ UC b B (.pointer (some ⟨b, 0, none⟩)) bs w
theorem own_low3 {W : World} {B B' : Nat} {t : TypeId} {sz n : Nat} {v : Value} {xs : List Value} (h : W.ownsRow B t sz v n xs) (hB : B' ≤ B) : W.ownsRow B' t sz v n xs := by
  refine ⟨h.1, ?_⟩
  rcases h.2 with h0 | ⟨g', cap', cur, h0, hg, r⟩
  · exact .inl h0
  · exact .inr ⟨g', cap', cur, h0, Nat.le_trans hB hg, r⟩
theorem UC.at {b B : Nat} {p : Value} {bs : List Value} {w : World} (h : UC b B p bs w) : Lib.BuilderAt 55 5 b b p bs w := by
  obtain ⟨h1, h2, v, h3, h4⟩ := h
  refine ⟨Nat.le_refl _, v, h3, own_low3 h4 (Nat.le_of_lt h1), fun e => ?_⟩
  have := (h4.lt b e).1
  omega
theorem UCI.is {b B : Nat} {bs : List Value} {w : World} (h : UCI b B bs w) : Lib.IsBuilder 55 5 b b bs w := h.elim (fun h => .inl h.at) (fun h => .inr h.at)
/-- What a step in blocks below B besides b, or in new ones, does to it: nothing. -/
theorem UC.mov {b B : Nat} {p : Value} {bs : List Value} {w w' : World} {S : Nat → Prop} (h : UC b B p bs w) (hm : Mov S w w') (hS : ∀ k, S k → k < B ∧ k ≠ b) : UC b B p bs w' := by
  obtain ⟨h1, h2, v, h3, h4⟩ := h
  have hb : b < w.heap.size := by omega
  refine ⟨h1, Nat.le_trans h2 hm.size, v, (hm.block b hb (fun s => (hS b s).2 rfl)).trans h3, h4.1, ?_⟩
  rcases h4.2 with h0 | ⟨g', cap', cur, h0, hg, hh, r⟩
  · exact .inl h0
  · exact .inr ⟨g', cap', cur, h0, hg, (hm.block g' (Array.getElem?_eq_some_iff.1 hh).1 (fun s => by have := (hS g' s).1; omega)).trans hh, r⟩
theorem UCI.mov {b B : Nat} {bs : List Value} {w w' : World} {S : Nat → Prop} (h : UCI b B bs w) (hm : Mov S w w') (hS : ∀ k, S k → k < B ∧ k ≠ b) : UCI b B bs w' := h.elim (fun h => .inl (h.mov hm hS)) (fun h => .inr (h.mov hm hS))
def WcPost (b B : Nat) (bs : List Value) (w : World) (e : Ending) (w' : World) : Prop := e = .returned .nilIface ∧ UCI b B bs w' ∧ Mov (fun k => k = b ∨ B ≤ k) w w'
set_option maxRecDepth 100000 in
set_option maxHeartbeats 2000000 in
theorem WriteByte_above (b B : Nat) (bs : List Value) (c : Int) (w : World) (h : UCI b B bs w) (hlen : bs.length ≤ 1000000) :
    Calls Tryd.prog 33 #[.pointer (some ⟨b, 0, none⟩), .int .u8 c] w (WcPost b B (bs ++ [.int .u8 c]) w) := by
  obtain ⟨i0, hi, hz0, hz1, hz2⟩ := info_parts infoU8
  have HC := Lib.hid (show Calls Tryd.prog 60 #[.pointer (some ⟨b, 0, none⟩)] w fun e w' => e = .returned (.tuple #[]) ∧ UC b B (.pointer (some ⟨b, 0, none⟩)) bs w' ∧ Mov (fun k => k = b ∨ B ≤ k) w w' by
    rcases h with h | h
    · refine (copyCheck_fresh b w h.at.cell0 h.at.frozen0 h.at.shape).mono ?_
      rintro e w' ⟨rfl, rfl⟩
      obtain ⟨h1, h2, v, h3, h4⟩ := h
      refine ⟨rfl, ⟨h1, by simpa [World.setCell] using h2, v, ?_, ?_⟩, (Mov.refl _ w).setCell (.inl (.inl rfl)) _⟩
      · unfold World.setCell
        simp only [Array.getElem?_modify, if_true, h3]
        rfl
      · exact ownsRow_setCell_other h4 (fun e => by have := (h4.lt b e).1; omega) _
    · refine (copyCheck_used b w h.at.cell0).mono ?_
      rintro e w' ⟨rfl, rfl⟩
      exact ⟨rfl, h, Mov.refl _ w⟩)
  clear h
  go_enter Tryd.func33, Tryd.ntmps33
  go_wp2_with fail
  refine HC.out.mono ?_
  rintro e w1 ⟨rfl, h, hb1⟩
  have HB1 := Lib.hid hb1
  clear hb1 HC
  obtain ⟨hB, hBw, v, hbk, hown⟩ := h
  have hlt : b < w1.heap.size := by omega
  have HO := Lib.hid hown
  have HNE := Lib.hid (show v.ownBlock ≠ some b from fun e => by have := (hown.lt b e).1; omega)
  have HBK := Lib.hid hbk
  have c0 : w1.cell? ⟨b, 0, none⟩ = some (.pointer (some ⟨b, 0, none⟩)) := by rw [Lib.cell_of_heap hbk]; rfl
  have c1 : w1.cell? ⟨b, 1, none⟩ = some v := by rw [Lib.cell_of_heap hbk]; rfl
  clear hown hbk
  go_wp2_with (at_builtin; refine wpList_append_own _ rfl _ _ 22 rfl B 5 i0 (.int .u8 0) 1 1 Tryd.underlying22 hi hz0 hz1 hz2 rfl (by decide) _ bs.length bs rfl (HO.out.alloc _) ⟨_, 0, none⟩ 1 1 [.int .u8 c] rfl rfl (row_src _ _ _) ?c3 ?c4 ?c5 ?c6 ?_)
  case c3 => exact fun u hu => by rw [List.mem_singleton.1 hu]; rfl
  case c4 => unfold maxLen; omega
  case c5 => omega
  case c6 => first | omega | (simp; omega)
  intro v' w2 hown' hgrow _
  have hb2 : w2.heap[b]? = some (.cells #[.pointer (some ⟨b, 0, none⟩), v] 55 (0, 0)) := by
    rw [hgrow.block b (by simp; omega) (fun e => HNE.out e.symm), Below.heap_alloc _ _ _ hlt]
    exact HBK.out
  have d0 : w2.cell? ⟨b, 0, none⟩ = some (.pointer (some ⟨b, 0, none⟩)) := by rw [Lib.cell_of_heap hb2]; rfl
  have d1 : w2.cell? ⟨b, 1, none⟩ = some v := by rw [Lib.cell_of_heap hb2]; rfl
  have f1 : w2.frozen? ⟨b, 1, none⟩ = false := Lib.frozen_of_heap hb2 1
  have hs2 : B ≤ w2.heap.size := by have := hgrow.size; simp at this; omega
  have RP := Lib.hid (show UCI b B (bs ++ [.int .u8 c]) (w2.setCell ⟨b, 1, none⟩ v') by
    refine .inr ⟨hB, by simpa [World.setCell] using hs2, v', ?_, ?_⟩
    · unfold World.setCell
      simp only [Array.getElem?_modify, if_true, hb2]
      rfl
    · rw [List.length_append]
      exact ownsRow_setCell_other hown' (fun e => by have := (hown'.lt b e).1; omega) _)
  have RB := Lib.hid (show Mov (fun k => k = b ∨ B ≤ k) w (w2.setCell ⟨b, 1, none⟩ v') from
    (Mov.trans (HB1.out.alloc _) ⟨hgrow.os, hgrow.tape, hgrow.output, hgrow.size, fun k hk hn => hgrow.block k hk (fun e => hn (.inr ((HO.out.lt k e.symm).1)))⟩).setCell (.inl (.inl rfl)) v')
  obtain ⟨ao, n', cap, rfl⟩ : ∃ ao n' cap, v' = .slice ao n' cap := by
    rcases hown'.2 with ⟨hv, _⟩ | ⟨g, cap, cur, hv, _⟩
    · exact ⟨_, _, _, hv⟩
    · exact ⟨_, _, _, hv⟩
  clear hown' hgrow hb2
  go_wp2_with fail
  go_ret
  exact ⟨rfl, RP.out, RB.out⟩
end Go.Proofs.YtcgennkddoajeaaDoor

/-
  The contract of spec.ReverseTrain.
-/
import Derived.Test.YtcgennkddoajeaaTrA
import Derived.Test.YtcgennkddoajeaaDrawT
import Derived.Deep.AppendLies
import Derived.Deep.RegionLaw
namespace Go.Proofs.Ytcgennkddoajeaa
open Go.RowKit

/-- A train that is driven from its other end. -/
def revT (ps : List (Int × Int)) : List (Int × Int) := ps.reverse.map fun p => (p.2, p.1)
theorem revT_len (ps : List (Int × Int)) : (revT ps).length = ps.length := by simp [revT]
theorem revT_drop {ps : List (Int × Int)} {k : Nat} (h : k < ps.length) : revT (ps.drop k) = revT (ps.drop (k + 1)) ++ [((pat ps k).2, (pat ps k).1)] := by
  unfold revT
  rw [List.drop_eq_getElem_cons h, List.reverse_cons, List.map_append, pat_get h]
  rfl
/-- What ReverseTrain returns. -/
def rvL (ps : List (Int × Int)) : List (Int × Int) := if okT ps then revT ps else []
def rvC (ps : List (Int × Int)) : Int := if okT ps then 0 else 1
theorem rv_no {ps : List (Int × Int)} (h : okT ps = false) : rvL ps = [] ∧ rvC ps = 1 := by simp [rvL, rvC, h]
theorem rv_yes {ps : List (Int × Int)} (h : okT ps = true) : rvL ps = revT ps ∧ rvC ps = 0 := by simp [rvL, rvC, h]
/-- A list of pairs in a row of its own, and a code. -/
def PairsC (w : World) (ps : List (Int × Int)) (c : Int) (e : Ending) (w' : World) : Prop := ∃ v, e = .returned (.tuple #[v, .int .i64 c]) ∧ w'.ownsRow w.heap.size 43 2 v ps.length (pairC ps) ∧ Below w.heap.size w w'
theorem own_heap {W W' : World} {B : Nat} {t : TypeId} {sz n : Nat} {v : Value} {xs : List Value} (h : W.ownsRow B t sz v n xs) (e : W'.heap = W.heap) : W'.ownsRow B t sz v n xs := by
  unfold World.ownsRow at h ⊢; rw [e]; exact h
def RevRel (w1 : World) (ps : List (Int × Int)) (out i : Value) (wr : World) : Prop :=
  ∃ (k : Nat) (iv : Int), i = .int .i64 iv ∧ iv = (k : Int) - 1 ∧ k ≤ ps.length ∧ wr.ownsRow w1.heap.size 43 2 out (ps.length - k) (pairC (revT (ps.drop k))) ∧ Below w1.heap.size w1 wr
theorem bel_grown {a b c : World} {row : Option Nat} (h : Below a.heap.size a b) (g : b.grownBy c row) (hr : ∀ r, row = some r → a.heap.size ≤ r) : Below a.heap.size a c :=
  ⟨g.os.trans h.os, g.tape.trans h.tape, g.output.trans h.output, Nat.le_trans h.size g.size, fun k hk => (g.block k (Nat.lt_of_lt_of_le hk h.size) (fun e => by have := hr k e.symm; omega)).trans (h.block k hk)⟩
theorem rev_next {W : World} {B j : Nat} {t : TypeId} {v : Value} {ps : List (Int × Int)} {x y : Int} (h : revT (ps.drop j) = revT (ps.drop (j + 1)) ++ [(y, x)]) (hl : ps.length - (j + 1) + 1 = ps.length - j)
    (ho : W.ownsRow B t 2 v (ps.length - (j + 1) + 1) (pairC (revT (ps.drop (j + 1))) ++ [.int .i64 y, .int .i64 x])) : W.ownsRow B t 2 v (ps.length - j) (pairC (revT (ps.drop j))) := by
  rw [h, pairC_snoc, ← hl]; exact ho
set_option maxRecDepth 100000 in
set_option maxHeartbeats 4000000 in
theorem ReverseTrainS_any (ps : List (Int × Int)) (v : Value) (w : World) (ha : SlP w v ps) (hmax : ps.length ≤ 1000000000000) :
    Calls Try.prog 38 #[v] w (PairsC w (rvL ps) (rvC ps)) := by
  obtain ⟨i0, hi, hz0, hz1, hz2⟩ := info_parts infoPr
  cases h : okT ps
  · rw [(rv_no h).1, (rv_no h).2]
    go_enter Try.func38, Try.ntmps38
    go_wp2_with fail
    refine (l05Ok_any ps _ _ ha hmax).mono ?_
    rw [h]
    rintro e w1 ⟨rfl, hb⟩
    go_wp2_with fail
    go_ret2
    exact ⟨_, rfl, World.ownsRow_nil _ _ _ _, hb⟩
  · rw [(rv_yes h).1, (rv_yes h).2]
    have h5 := (okT_iff.1 h).1
    have HV := Lib.hid ha
    have HOK := Lib.hid h
    obtain ⟨ao, cap, rfl, _⟩ := ha
    go_enter Try.func38, Try.ntmps38
    go_wp2_with fail
    refine (l05Ok_any ps _ _ HV.out hmax).mono ?_
    rw [h]
    rintro e w1 ⟨rfl, hb⟩
    have V := Lib.hid (HV.out.keep hb)
    have B := Lib.hid hb
    have RS := Lib.hid (show RevRel w1 ps (.slice (some ⟨w1.heap.size, 0, none⟩) 0 0) (.int .i64 ((ps.length : Int) - 1)) (w1.alloc (.cells #[] 43)) from
      ⟨ps.length, _, rfl, rfl, Nat.le_refl _, by rw [Nat.sub_self, List.drop_of_length_le (Nat.le_refl _)]; simpa [pairC, revT] using rowPair_new w1 43, bA (bR _) _⟩)
    clear hb h HV
    go_wp2_with fail
    go_loopw [4, 5] (fun out i wr => RevRel w1 ps out i wr) (fun _ i _ => (intOf i + 1).toNat)
    case atStart => exact RS.out
    case round =>
      obtain ⟨k, iv, rfl, hiv, hk, hown, hbw⟩ := hrel
      have HO := Lib.hid hown
      have HB := Lib.hid hbw
      have HOB := Lib.hid (own_blk hown)
      have hsz := hbw.size
      clear hown hbw
      cases k with
      | zero =>
        obtain rfl : iv = -1 := by omega
        clear hiv
        go_wp2_with fail
        go_ret2
        refine ⟨_, rfl, ?_, bT B.out HB.out⟩
        have := HO.out
        rw [List.drop_zero, Nat.sub_zero] at this
        rw [revT_len]
        exact own_lower this B.out.size
      | succ j =>
        obtain rfl : iv = (j : Int) := by omega
        clear hiv
        obtain ⟨ao', cap', e', ha'⟩ := V.out
        injection e' with e1 e2 e3
        subst e1 e3
        obtain ⟨g, rfl, hg, hc⟩ := ha' (by omega)
        obtain ⟨c1, c2⟩ := (hc.keep hg HB.out) j (by omega)
        have HR := Lib.hid (revT_drop (ps := ps) (k := j) (by omega))
        have hlj : (ps.length - (j + 1)) + 1 = ps.length - j := by omega
        have HLJ := Lib.hid hlj
        have hjl : j < ps.length := by omega
        clear e2 ha' hg hc hlj
        generalize (pat ps j).1 = x at *
        generalize (pat ps j).2 = y at *
        go_wp2_with fail
        go_region_law (refine step_append_lies _ (by rfl) _ _ 38 (by rfl) w1.heap.size 43 i0 (.agg #[.int .i64 0, .int .i64 0]) 2 16 Try.underlying38 hi hz0 hz1 hz2 (by rfl) (by decide) _ (ps.length - (j + 1)) (pairC (revT (ps.drop (j + 1)))) (by rfl) ((own_heap (W' := wr.drew) HO.out rfl).alloc _) ⟨wr.heap.size, 0, none⟩ 1 1 [.int .i64 y, .int .i64 x] (by rfl) (by rfl) (two_new _ _ _ _ _ (by rfl)) (by intro u hu; simp at hu; rcases hu with rfl | rfl <;> rfl) (by omega) (by unfold maxLen; omega) (by omega) (by simp; omega) _ (by rfl) ?_; intro g' cap' w5 hown5 hg5 hat5 hlt5; have N5 := Lib.hid hown5; have G5 := Lib.hid hg5; clear hown5 hg5 hat5 hlt5)
        all_goals go_wp2_with fail
        all_goals exact ⟨⟨j, _, rfl, rfl, by omega, rev_next HR.out HLJ.out N5.out, bel_grown (bA HB.out.drew _) G5.out (fun r e => (HOB.out r e).1)⟩, by simp [intOf]⟩
end Go.Proofs.Ytcgennkddoajeaa

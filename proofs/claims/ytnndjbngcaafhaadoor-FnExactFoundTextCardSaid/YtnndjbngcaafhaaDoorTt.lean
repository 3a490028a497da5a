/-
  The text of a train: the contracts of spec.l05Text, spec.TrainText, impl.TrainText.
-/
import Derived.Test.YtnndjbngcaafhaaDoorJoin
import Derived.Test.YtnndjbngcaafhaaDoorWText
import Derived.Test.YtnndjbngcaafhaaDoorTrS
import Derived.Deep.RegionHeld3
import Derived.Deep.AppendLies
import Derived.Deep.RegionLaw
namespace Go.Proofs.YtnndjbngcaafhaaDoor
open Go.RowKit

theorem catL (a b : ByteArray) : a ++ b = ⟨(a.data.toList ++ b.data.toList).toArray⟩ := by
  apply ByteArray.ext; simp
/-- The text of a pair. -/
def pT (p : Int × Int) : ByteArray := decT p.1 ++ ⟨#[58]⟩ ++ decT p.2
theorem pT_size {p : Int × Int} (h : okP p = true) : (pT p).size ≤ 43 := by
  obtain ⟨a1, a2, a3, a4⟩ := okP_bd h
  have z1 := decT_size (n := p.1) (by omega) (by omega)
  have z2 := decT_size (n := p.2) (by omega) (by omega)
  unfold pT
  rw [cat_size, cat_size]
  have : (⟨#[58]⟩ : ByteArray).size = 1 := rfl
  omega
def txts (ps : List (Int × Int)) : List ByteArray := ps.map pT
theorem txts_at {ps : List (Int × Int)} {i : Nat} (h : i < ps.length) : jAt (txts ps) i = pT (pat ps i) := by
  unfold jAt txts pat
  rw [List.getElem?_map, List.getElem?_eq_getElem h]; rfl
/-- What TrainText returns. -/
def ttB (ps : List (Int × Int)) : ByteArray := if okT ps then (if ps.length = 0 then ⟨#[45]⟩ else joinB (txts ps)) else ⟨#[]⟩
theorem tt_no {ps : List (Int × Int)} (h : okT ps = false) : ttB ps = ⟨#[]⟩ := by simp [ttB, h]
theorem tt_nil {ps : List (Int × Int)} (h : okT ps = true) (h0 : ps.length = 0) : ttB ps = ⟨#[45]⟩ := by simp [ttB, h, h0]
theorem tt_some {ps : List (Int × Int)} (h : okT ps = true) (h0 : ps.length ≠ 0) : ttB ps = joinB (txts ps) := by unfold ttB; rw [if_pos h, if_neg h0]
def outK (ps : List (Int × Int)) (k : Nat) : ByteArray := ⟨(partL (txts ps) k).toArray⟩
theorem outK_zero (ps : List (Int × Int)) : outK ps 0 = ⟨#[]⟩ := by simp [outK, partL, joinL]
theorem outK_one {ps : List (Int × Int)} (h : 0 < ps.length) : (⟨#[]⟩ : ByteArray) ++ pT (pat ps 0) = outK ps 1 := by
  unfold outK
  rw [part_one (by simpa [txts] using h), txts_at h, catL]
  simp
theorem outK_next {ps : List (Int × Int)} {k : Nat} (h0 : 1 ≤ k) (h : k < ps.length) : (outK ps k ++ ⟨#[32]⟩) ++ pT (pat ps k) = outK ps (k + 1) := by
  unfold outK
  rw [part_next h0 (by simpa [txts] using h), txts_at h, catL, catL]
  simp
theorem outK_all (ps : List (Int × Int)) : outK ps ps.length = joinB (txts ps) := by
  unfold outK joinB
  rw [← part_all]
  simp [txts]
theorem outK_size {ps : List (Int × Int)} (h : okT ps = true) : ∀ k, k ≤ ps.length → (outK ps k).size ≤ 44 * k := by
  intro k
  induction k with
  | zero => intro _; rw [outK_zero]; exact Nat.le_refl _
  | succ k ih =>
    intro hk
    have h2 := pT_size ((okT_iff.1 h).2 _ (pat_mem (show k < ps.length by omega)))
    have h3 : (⟨#[32]⟩ : ByteArray).size = 1 := rfl
    have h4 : (⟨#[]⟩ : ByteArray).size = 0 := rfl
    by_cases h0 : k = 0
    · subst h0; rw [← outK_one (by omega), cat_size]; omega
    · rw [← outK_next (by omega) (by omega), cat_size, cat_size]
      have := ih (by omega)
      omega
/-- A pair lies in block g at o. -/
def RT (w : World) (g o : Nat) (x y : Int) (w' : World) : Prop :=
  w'.cell? ⟨g, o, none⟩ = some (.int .i64 x) ∧ w'.cell? ⟨g, o + 1, none⟩ = some (.int .i64 y) ∧ g < w'.heap.size ∧ Below w.heap.size w w'
theorem RT.drew {w : World} {g o : Nat} {x y : Int} {w' : World} (h : RT w g o x y w') : RT w g o x y w'.drew := ⟨h.1, h.2.1, h.2.2.1, h.2.2.2.drew⟩
theorem RT.keep {w : World} {g o : Nat} {x y : Int} {w' w2 : World} (hb : Below w'.heap.size w' w2) (h : RT w g o x y w') : RT w g o x y w2 := by
  obtain ⟨h1, h2, h5, h6⟩ := h
  exact ⟨(hb.cell (p := ⟨g, o, none⟩) h5).trans h1, (hb.cell (p := ⟨g, o + 1, none⟩) h5).trans h2, Nat.lt_of_lt_of_le h5 hb.size, bT h6 hb⟩
set_option maxRecDepth 100000 in
set_option maxHeartbeats 4000000 in
theorem l05Text_any (ps : List (Int × Int)) (v : Value) (w : World) (ha : SlP w v ps) (hok : okT ps = true) :
    Calls Tryd.prog 42 #[v] w fun e w' => e = .returned (.string (ttB ps)) ∧ Below w.heap.size w w' := by
  have h5 := (okT_iff.1 hok).1
  have HOK := Lib.hid hok
  obtain ⟨ao, cap, rfl, ha⟩ := ha
  have HA := Lib.hid ha
  clear ha
  by_cases h0 : ps.length = 0
  · have HR := Lib.hid (tt_nil hok h0)
    have b0 : ((ps.length : Int) == 0) = true := by rw [h0]; rfl
    clear h0 hok
    go_enter Tryd.func42, Tryd.ntmps42
    go_wp2_with fail
    go_ret
    exact ⟨ret_txt HR.out.symm, bR _⟩
  · have HR := Lib.hid (tt_some hok h0)
    have b0 : ((ps.length : Int) == 0) = false := by rw [beq_eq_false_iff_ne]; omega
    clear hok
    go_enter Tryd.func42, Tryd.ntmps42
    go_wp2_with fail
    go_loopw [3, 4] (fun s i wr => ∃ (k : Nat), k ≤ ps.length ∧ i = .int .i64 k ∧ s = .string (outK ps k) ∧ Below w.heap.size w wr) (fun _ i _ => ps.length - (intOf i).toNat)
    case atStart => exact ⟨0, by omega, rfl, by rw [outK_zero], bR _⟩
    case round =>
      obtain ⟨k, hk, rfl, rfl, hbw⟩ := hrel
      have HB := Lib.hid hbw
      clear hbw
      by_cases hlt : k < ps.length
      · obtain ⟨g, rfl, hg, hc⟩ := HA.out (by omega)
        obtain ⟨c1, c2⟩ := (hc.keep hg HB.out) k hlt
        have hg' : g < wr.heap.size := Nat.lt_of_lt_of_le hg HB.out.size
        obtain ⟨a1, a2, a3, a4⟩ := okT_at HOK.out hlt
        have zo := outK_size HOK.out k hk
        have zp := pT_size ((okT_iff.1 HOK.out).2 _ (pat_mem hlt))
        have HE0 := Lib.hid (fun (h : k = 0) => (show outK ps k ++ (decT (pat ps k).1 ++ ⟨#[58]⟩ ++ decT (pat ps k).2) = outK ps (k + 1) by subst h; rw [outK_zero]; exact outK_one hlt))
        have HE1 := Lib.hid (fun (h : 0 < k) => (show (outK ps k ++ ⟨#[32]⟩) ++ (decT (pat ps k).1 ++ ⟨#[58]⟩ ++ decT (pat ps k).2) = outK ps (k + 1) from outK_next h hlt))
        unfold pT at zp
        have HS := Lib.hid (show RT w g (k * 2) (pat ps k).1 (pat ps k).2 wr from ⟨c1, c2, hg', HB.out⟩)
        clear hc hg h0
        generalize (pat ps k).1 = x at *
        generalize (pat ps k).2 = y at *
        have z1 := decT_size (n := x) (by omega) (by omega)
        have z2 := decT_size (n := y) (by omega) (by omega)
        have zc : (⟨#[58]⟩ : ByteArray).size = 1 := rfl
        have zb : (⟨#[32]⟩ : ByteArray).size = 1 := rfl
        have q1 := strAdd (decT x) ⟨#[58]⟩ (by omega) (by omega)
        have q2 := strAdd (decT x ++ ⟨#[58]⟩) (decT y) (by rw [cat_size]; omega) (by omega)
        generalize ho : outK ps k = o at *
        generalize hn : outK ps (k + 1) = o' at *
        have HN := Lib.hid hn
        clear hn ho
        by_cases hk0 : 0 < k
        · have b1 : decide (0 < (k : Int)) = true := by simpa using hk0
          have HE := Lib.hid (HE1.out hk0)
          have q3 := strAdd o ⟨#[32]⟩ (by omega) (by omega)
          have q4 := strAdd (o ++ ⟨#[32]⟩) (decT x ++ ⟨#[58]⟩ ++ decT y) (by rw [cat_size]; omega) (by omega)
          clear zo zp z1 z2 zc zb HE0 HE1
          go_wp2_with fail
          go_region_held3 (fun w' => w'.cell? ⟨g, k * 2, none⟩ = some (.int .i64 x) ∧ w'.cell? ⟨g, k * 2 + 1, none⟩ = some (.int .i64 y) ∧ g < w'.heap.size ∧ Below w.heap.size w w') (first | exact RT.drew HS.out | exact RT.keep hb (by assumption))
            ((go_at_call 67; refine (l01DecT _ _ ?_ ?_).mono ?_; omega; omega; rintro e w' ⟨rfl, hb⟩))
          have hU : RT w g (k * 2) x y w' := by assumption
          have HU := Lib.hid hU.2.2.2
          clear hU
          go_wp2_with fail
          go_roundw
          case rel => exact ⟨k + 1, by omega, by go_num, by rw [HN.out, HE.out], HU.out⟩
          case measure => simp [intOf]; omega
        · have b1 : decide (0 < (k : Int)) = false := by simpa using hk0
          have HE := Lib.hid (HE0.out (by omega))
          have q4 := strAdd o (decT x ++ ⟨#[58]⟩ ++ decT y) (by omega) (by omega)
          clear zo zp z1 z2 zc zb HE0 HE1
          go_wp2_with fail
          go_region_held3 (fun w' => w'.cell? ⟨g, k * 2, none⟩ = some (.int .i64 x) ∧ w'.cell? ⟨g, k * 2 + 1, none⟩ = some (.int .i64 y) ∧ g < w'.heap.size ∧ Below w.heap.size w w') (first | exact RT.drew HS.out | exact RT.keep hb (by assumption))
            ((go_at_call 67; refine (l01DecT _ _ ?_ ?_).mono ?_; omega; omega; rintro e w' ⟨rfl, hb⟩))
          have hU : RT w g (k * 2) x y w' := by assumption
          have HU := Lib.hid hU.2.2.2
          clear hU
          go_wp2_with fail
          go_roundw
          case rel => exact ⟨k + 1, by omega, by go_num, by rw [HN.out, HE.out], HU.out⟩
          case measure => simp [intOf]; omega
      · obtain rfl : k = ps.length := by omega
        have HF := Lib.hid (outK_all ps)
        go_wp2_with fail
        go_ret
        exact ⟨ret_txt (by rw [HF.out]; exact HR.out.symm), HB.out⟩
end Go.Proofs.YtnndjbngcaafhaaDoor

/-
  The median of the errors: both sides.
-/
import Derived.Test.YtmmmbchlkjljaaaRgS
import Derived.Test.YtmmmbchlkjljaaaRgL
import Derived.Test.YtmmmbchlkjljaaaApd
import Derived.Test.YtmmmbchlkjljaaaCnT
import Derived.Test.YtmmmbchlkjljaaaShSort
import Derived.Sort.OwnSortedInts
import Derived.Lib.OwnBridge
namespace Go.Proofs.Ytmmmbchlkjljaaa
open Go.RowKit Go.Shelf Go.Sort

def moE (ps : List (Int × Int)) : Int × Int := if okRd ps = true then (if ps.length = 0 then (0, 6) else (at0 (srtL (ofK ps ps.length)) ((ps.length - 1) / 2), 0)) else (0, 1)
theorem moE_1 {ps : List (Int × Int)} (h : okRd ps = false) : moE ps = (0, 1) := by simp [moE, h]
theorem moE_6 {ps : List (Int × Int)} (h : okRd ps = true) (h2 : ps.length = 0) : moE ps = (0, 6) := by simp only [moE, h, h2, if_true]
theorem moE_0 {ps : List (Int × Int)} (h : okRd ps = true) (h2 : ¬ ps.length = 0) : moE ps = (at0 (srtL (ofK ps ps.length)) ((ps.length - 1) / 2), 0) := by simp only [moE, h, if_true]; rw [if_neg h2]
theorem row_stays {w : World} (t : TypeId) : (w.alloc (.cells #[] t)).ownsRow w.heap.size t 1 (.slice (some ⟨w.heap.size, 0, none⟩) 0 0) 0 [] :=
  ⟨rfl, .inr ⟨w.heap.size, 0, #[], rfl, Nat.le_refl _, (MapKept.heap_alloc w _).1, Nat.le_refl _, Nat.zero_le _, rfl, rfl⟩⟩
set_option maxRecDepth 100000 in
set_option maxHeartbeats 4000000 in
theorem l14Sorted_any (ps : List (Int × Int)) (v : Value) (w : World) (ha : SlQ w v ps) (hln : ps.length ≤ 60) :
    Calls Try.prog 59 #[v] w fun e w' => ∃ v', e = .returned v' ∧ w'.ownsRow w.heap.size 2 1 v' (ofK ps ps.length).length (intC (srtL (ofK ps ps.length))) ∧ Below w.heap.size w w' := by
  obtain ⟨ao, cap, rfl, _, ha⟩ := ha
  have HA := Lib.hid ha
  have R0 := Lib.hid (row_stays (w := w) 2)
  have L0 := Lib.hid (bA (bR w) (.cells #[] 2))
  clear ha
  go_enter Try.func59, Try.ntmps59
  go_wp2_with fail
  generalize w.alloc (.cells #[] 2) = w1 at *
  go_loopw [3, 4] (fun vo vi wr => ∃ k : Nat, k ≤ ps.length ∧ vi = .int .i64 k ∧ wr.ownsRow w.heap.size 2 1 vo (ofK ps k).length (intC (ofK ps k)) ∧ Below w.heap.size w wr) (fun _ vi _ => ps.length - (intOf vi).toNat)
  case atStart => exact ⟨0, Nat.zero_le _, rfl, R0.out, L0.out⟩
  case round =>
    obtain ⟨k, hk, rfl, hrow, hbel⟩ := hrel
    have RW := Lib.hid hrow
    have BL := Lib.hid hbel
    clear hrow R0 L0
    by_cases hlt : k < ps.length
    · obtain ⟨g, o, rfl, hg, hc⟩ := HA.out (by omega)
      obtain ⟨c1, c2⟩ := (hc.keep hg hbel) k hlt
      have HT := Lib.hid (ofK_succ ps k)
      have hol : (ofK ps k).length ≤ 60 := by rw [ofK_len]; omega
      have hB := hbel.size
      clear hc HA
      generalize ofK ps k = out at *
      generalize (pat ps k).1 = x at *
      generalize (pat ps k).2 = y at *
      go_wp2_with (at_builtin; refine app64w rfl _ _ rfl _ _ y rfl RW.out hB (by show Value.slice (some ⟨wr.heap.size, 0, none⟩) 1 1 = _; rfl) (by omega) ?_)
      intro v' w5 hown hap
      have R5 := Lib.hid hown
      have B5 := Lib.hid (BL.out.trans (hap.below (fun r e => (own_blk RW.out r e).1) hB))
      clear hown hap RW BL
      go_wp2_with fail
      go_roundw
      case rel => exact ⟨k + 1, by omega, by go_num, by rw [HT.out, List.length_append]; exact R5.out, B5.out⟩
      case measure => simp [intOf]; omega
    · obtain rfl : k = ps.length := by omega
      have CS := Lib.hid (l05Sort_any (ofK ps ps.length) _ wr (slI_of RW.out) (by rw [ofK_len]; omega))
      have hB := hbel.size
      clear HA
      go_wp2_with fail
      refine CS.out.mono ?_
      rintro e w5 ⟨v5, rfl, hr, hb⟩
      have RF := Lib.hid (own_lower (B' := w.heap.size) hr hB)
      have LF := Lib.hid (bT BL.out hb)
      clear hr hb
      go_wp2_with fail
      go_ret
      exact ⟨_, rfl, RF.out, LF.out⟩
theorem half_is (q : Nat) : ((q : Nat) : Int).tdiv 2 = ((q / 2 : Nat) : Int) := (Int.ofNat_tdiv q 2).symm
set_option maxRecDepth 100000 in
set_option maxHeartbeats 4000000 in
theorem MedianOffS_any (ps : List (Int × Int)) (v : Value) (w : World) (ha : SlQ w v ps) (hmax : ps.length ≤ 1000000000000) :
    Calls Try.prog 20 #[v] w (TwoN (moE ps).1 (moE ps).2 w) := by
  have CL := Lib.hid (fun W (h : SlQ W v ps) => l14Ok_any ps v W h hmax)
  have A0 := Lib.hid ha
  obtain ⟨ao, cap, rfl, hcap, _⟩ := ha
  cases h2 : okRd ps
  · rw [moE_1 h2]
    rw [h2] at CL
    go_enter Try.func20, Try.ntmps20
    go_wp2_with fail
    refine (CL.out _ A0.out).mono ?_
    rintro e w1 ⟨rfl, hb⟩
    go_wp2_with fail
    go_ret2
    exact ⟨rfl, hb⟩
  rw [h2] at CL
  by_cases h3 : ps.length = 0
  · rw [moE_6 h2 h3]
    have hz : ((ps.length : Int) == 0) = true := beq_iff_eq.2 (by omega)
    clear h3
    go_enter Try.func20, Try.ntmps20
    go_wp2_with fail
    refine (CL.out _ A0.out).mono ?_
    rintro e w1 ⟨rfl, hb⟩
    go_wp2_with fail
    go_ret2
    exact ⟨rfl, hb⟩
  rw [moE_0 h2 h3]
  have hz : ((ps.length : Int) == 0) = false := beq_eq_false_iff_ne.2 (by omega)
  have CS := Lib.hid (fun W (h : SlQ W (.slice ao ps.length cap) ps) => l14Sorted_any ps _ W h (okRd_len h2))
  have HL := Lib.hid (ofK_len ps ps.length)
  have HS := Lib.hid (srt_len (ofK ps ps.length))
  have hln := okRd_len h2
  have hq : (ps.length : Int) - 1 = ((ps.length - 1 : Nat) : Int) := by omega
  have hh := half_is (ps.length - 1)
  have hlt : (ps.length - 1) / 2 < ps.length := by omega
  clear h2 h3
  generalize ofK ps ps.length = ts at *
  generalize srtL ts = ss at *
  go_enter Try.func20, Try.ntmps20
  go_wp2_with fail
  refine (CL.out _ A0.out).mono ?_
  rintro e w1 ⟨rfl, hb⟩
  have A1 := Lib.hid (A0.out.keep hb)
  have L1 := Lib.hid hb
  clear hb A0 CL
  go_wp2_with fail
  refine (CS.out _ A1.out).mono ?_
  rintro e w2 ⟨v2, rfl, hr, hb⟩
  rw [← HS.out] at hr
  obtain ⟨ai, ci, rfl, hc⟩ := sl64_of hr
  have L2 := Lib.hid (bT L1.out hb)
  have hsl : ss.length = ps.length := by rw [HS.out, HL.out]
  obtain ⟨g, rfl, hg, hi⟩ := hc (by omega)
  have c1 := hi ((ps.length - 1) / 2) (by omega)
  have hlt2 : (ps.length - 1) / 2 < ss.length := by omega
  clear hr hb hi hc A1 L1 CS HS HL
  generalize at0 ss ((ps.length - 1) / 2) = z at *
  generalize ps.length - 1 = q at *
  generalize q / 2 = r at *
  go_wp2_with fail
  go_ret2
  exact ⟨rfl, L2.out⟩
theorem cell_holds {w : World} {g : Nat} {S : List Int} (h : Holds (Value.int .i64) w g 0 S.toArray) (j : Nat) (hj : j < S.length) : w.cell? ⟨g, j, none⟩ = some (.int .i64 (at0 S j)) := by
  have h1 := (h j (by simpa using hj)).1
  rw [Nat.zero_add] at h1
  rw [h1, getElem!_pos _ j (by simpa using hj)]
  unfold at0
  simp [List.getElem?_eq_getElem hj]
set_option maxRecDepth 100000 in
set_option maxHeartbeats 4000000 in
theorem MedianOffI_any (ps : List (Int × Int)) (v : Value) (w : World) (ha : SlQ w v ps) (hmax : ps.length ≤ 1000000000000) :
    Calls Try.prog 21 #[v] w (TwoN (moE ps).1 (moE ps).2 w) := by
  have CL := Lib.hid (fun W (h : SlQ W v ps) => ValidReadingsI_any ps v W h hmax)
  have A0 := Lib.hid ha
  obtain ⟨ao, cap, rfl, hcap, _⟩ := ha
  cases h2 : okRd ps
  · rw [moE_1 h2]
    rw [h2] at CL
    go_enter Try.func21, Try.ntmps21
    go_wp2_with fail
    refine (CL.out _ A0.out).mono ?_
    rintro e w1 ⟨rfl, hb⟩
    go_wp2_with fail
    go_ret2
    exact ⟨rfl, hb⟩
  rw [h2] at CL
  by_cases h3 : ps.length = 0
  · rw [moE_6 h2 h3]
    have hz : ((ps.length : Int) == 0) = true := beq_iff_eq.2 (by omega)
    clear h3
    go_enter Try.func21, Try.ntmps21
    go_wp2_with fail
    refine (CL.out _ A0.out).mono ?_
    rintro e w1 ⟨rfl, hb⟩
    go_wp2_with fail
    go_ret2
    exact ⟨rfl, hb⟩
  rw [moE_0 h2 h3]
  have hz : ((ps.length : Int) == 0) = false := beq_eq_false_iff_ne.2 (by omega)
  have HZ := Lib.hid h3
  have HL := Lib.hid (ofK_len ps ps.length)
  have HS := Lib.hid (srt_len (ofK ps ps.length))
  have hln := okRd_len h2
  have hq : (ps.length : Int) - 1 = ((ps.length - 1 : Nat) : Int) := by omega
  have hh := half_is (ps.length - 1)
  have hlt0 : (ps.length - 1) / 2 < ps.length := by omega
  clear h2 h3
  go_enter Try.func21, Try.ntmps21
  go_wp2_with fail
  refine (CL.out _ A0.out).mono ?_
  rintro e w1 ⟨rfl, hb⟩
  have L1 := Lib.hid hb
  obtain ⟨ao1, cap1, e1, _, ha1⟩ := A0.out
  cases e1
  have HA := Lib.hid ha1
  have R1 := Lib.hid (World.ownsRow_nil w1 w.heap.size 2 1)
  clear hb A0 CL ha1
  go_wp2_with fail
  go_loopw [4, 17] (fun vo vi wr => ∃ k : Nat, k ≤ ps.length ∧ vi = .int .i64 k ∧ wr.ownsRow w.heap.size 2 1 vo (ofK ps k).length (intC (ofK ps k)) ∧ Below w.heap.size w wr) (fun _ vi _ => ps.length - (intOf vi).toNat)
  case atStart => exact ⟨0, Nat.zero_le _, rfl, R1.out, L1.out⟩
  case round =>
    obtain ⟨k, hk, rfl, hrow, hbel⟩ := hrel
    have RW := Lib.hid hrow
    have BL := Lib.hid hbel
    clear hrow R1 L1
    by_cases hlt : k < ps.length
    · obtain ⟨g, o, rfl, hg, hc⟩ := HA.out (by omega)
      obtain ⟨c1, c2⟩ := (hc.keep hg hbel) k hlt
      have HT := Lib.hid (ofK_succ ps k)
      have hol : (ofK ps k).length ≤ 60 := by rw [ofK_len]; omega
      have hB := hbel.size
      clear hc HA HL HS hbel
      generalize ofK ps k = out at *
      generalize (pat ps k).1 = x at *
      generalize (pat ps k).2 = y at *
      have RX := Lib.hid (own_keep RW.out (bA (bR wr) (.cells #[.int .i64 x, .int .i64 y] 53)))
      have BX := Lib.hid (bA BL.out (.cells #[.int .i64 x, .int .i64 y] 53))
      have hBX := BX.out.size
      have hcx : (wr.alloc (.cells #[.int .i64 x, .int .i64 y] 53)).cell? ⟨wr.heap.size, 1, none⟩ = some (.int .i64 y) := by simp [go_sem]
      clear RW BL
      go_upto_region 9 with fail
      generalize wr.alloc (.cells #[.int .i64 x, .int .i64 y] 53) = wq at *
      go_wp2_with (at_builtin; refine app64w rfl _ _ rfl _ _ y rfl RX.out hBX (by show Value.slice (some ⟨wq.heap.size, 0, none⟩) 1 1 = _; rfl) (by omega) ?_)
      intro v' w5 hown hap
      have R5 := Lib.hid hown
      have B5 := Lib.hid (BX.out.trans (hap.below (fun r e => (own_blk RX.out r e).1) hBX))
      clear hown hap RX BX
      go_wp2_with fail
      go_roundw
      case rel => exact ⟨k + 1, by omega, by go_num, by rw [HT.out, List.length_append]; exact R5.out, B5.out⟩
      case measure => simp [intOf]; omega
    · obtain rfl : k = ps.length := by omega
      have hB := hbel.size
      rcases id RW.out.2 with ⟨_, h0⟩ | ⟨g, cap', cur, hv, hgB, hh0, _⟩
      · exact absurd (h0.symm.trans HL.out) (by have := HZ.out; omega)
      subst hv
      obtain ⟨g2, cap2, hv2, hg1, hg2, _, _, _, hH⟩ := Lib.holds_of_ownsRow (enc := Value.int .i64) RW.out (by simp)
      cases hv2
      have CS := Lib.hid (Try.slices_Sort_int g 0 cap' (ofK ps ps.length) wr hH hg2 (by rw [HL.out]; omega))
      have HH := Lib.hid hH
      have hlen := HL.out
      have HSS := Lib.hid (show (ofK ps ps.length).mergeSort (fun x y => decide (x ≤ y)) = srtL (ofK ps ps.length) from rfl)
      rw [HSS.out] at CS
      clear HA RW hh0 hH HSS HL
      generalize ofK ps ps.length = ts at *
      rw [hlen] at CS
      go_wp2_with fail
      refine CS.out.mono ?_
      rintro e w5 ⟨rfl, nn, os, hw5⟩
      have hH2 : Holds (Value.int .i64) w5 g 0 (srtL ts).toArray := by
        subst hw5
        exact holds_grow _ _ os g 0 _ (by simpa [putRow, mapBlock, Sort.ahead] using hg2) (holds_putRow _ _ g 0 _ _ (holds_ahead _ wr nn g 0 _ HH.out) (by simp [HS.out]))
      have hB2 : Below w.heap.size w w5 := by
        subst hw5
        exact BL.out.grown (grownBy_sortedI _) BL.out.size (fun j hj => by cases hj; exact hg1)
      have hsl : (srtL ts).length = ps.length := by rw [HS.out, hlen]
      have c1 := cell_holds hH2 ((ps.length - 1) / 2) (by omega)
      have LF := Lib.hid hB2
      clear hw5 hH2 hB2 hsl HH HS CS BL
      generalize at0 (srtL ts) ((ps.length - 1) / 2) = z at *
      have hn1 : ts.length = ps.length := hlen
      clear hlen
      go_wp2_with fail
      go_ret2
      exact ⟨rfl, LF.out⟩
end Go.Proofs.Ytmmmbchlkjljaaa

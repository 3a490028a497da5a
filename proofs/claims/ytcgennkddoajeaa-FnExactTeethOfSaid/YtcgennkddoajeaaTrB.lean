/-
  The contracts of impl.TeethOf, spec.l05Sum, TeethOf; slices.Equal at pairs, impl.SameTrain, spec.l05Same, SameTrain.
-/
import Derived.Test.YtcgennkddoajeaaTrA
namespace Go.Proofs.Ytcgennkddoajeaa
open Go.RowKit

/-- The sum of all teeth. -/
def tSum (ps : List (Int × Int)) : Int := (ps.map fun p => p.1 + p.2).sum
theorem tSum_succ {ps : List (Int × Int)} {k : Nat} (h : k < ps.length) : tSum (ps.take (k + 1)) = tSum (ps.take k) + ((pat ps k).1 + (pat ps k).2) := by
  rw [pat_take h]; simp [tSum]
theorem tSum_bd {ps : List (Int × Int)} (h : okT ps = true) (k : Nat) : 0 ≤ tSum (ps.take k) ∧ tSum (ps.take k) ≤ 480 * k := by
  induction k with
  | zero => simp [tSum]
  | succ k ih =>
    by_cases hk : k < ps.length
    · rw [tSum_succ hk]
      obtain ⟨a1, a2, a3, a4⟩ := okT_at h hk
      omega
    · rw [List.take_of_length_le (by omega)]
      rw [List.take_of_length_le (by omega)] at ih
      omega
/-- What TeethOf returns. -/
def tsN (ps : List (Int × Int)) : Int := if okT ps then tSum ps else 0
def tsC (ps : List (Int × Int)) : Int := if okT ps then 0 else 1
theorem ts_no {ps : List (Int × Int)} (h : okT ps = false) : tsN ps = 0 ∧ tsC ps = 1 := by simp [tsN, tsC, h]
theorem ts_yes {ps : List (Int × Int)} (h : okT ps = true) : tsN ps = tSum ps ∧ tsC ps = 0 := by simp [tsN, tsC, h]
theorem ret_two {a b a' b' : Int} (h1 : a = a') (h2 : b = b') : Ending.returned (.tuple #[.int .i64 a, .int .i64 b]) = .returned (.tuple #[.int .i64 a', .int .i64 b']) := by rw [h1, h2]
set_option maxHeartbeats 1000000 in
theorem l05Sum_any (ps : List (Int × Int)) (v : Value) (w : World) (ha : SlP w v ps) (hok : okT ps = true) :
    Calls Try.prog 74 #[v] w fun e w' => e = .returned (.int .i64 (tSum ps)) ∧ Below w.heap.size w w' := by
  have h5 := (okT_iff.1 hok).1
  obtain ⟨ao, cap, rfl, ha⟩ := ha
  have HA := Lib.hid ha
  have HOK := Lib.hid hok
  clear ha hok
  go_enter Try.func74, Try.ntmps74
  go_wp2_with fail
  go_loopw [3, 4] (fun s i wr => ∃ (k : Nat), k ≤ ps.length ∧ i = .int .i64 k ∧ s = .int .i64 (tSum (ps.take k)) ∧ Below w.heap.size w wr) (fun _ i _ => ps.length - (intOf i).toNat)
  case atStart => exact ⟨0, by omega, rfl, rfl, bR _⟩
  case round =>
    obtain ⟨k, hk, rfl, rfl, hbw⟩ := hrel
    have HB := Lib.hid hbw
    clear hbw
    by_cases hlt : k < ps.length
    · obtain ⟨g, rfl, hg, hc⟩ := HA.out (by omega)
      obtain ⟨c1, c2⟩ := (hc.keep hg HB.out) k hlt
      obtain ⟨t1, t2⟩ := tSum_bd HOK.out k
      obtain ⟨a1, a2, a3, a4⟩ := okT_at HOK.out hlt
      have HS := Lib.hid (tSum_succ hlt)
      clear hc hg
      go_wp2_with fail
      go_quiet (fail)
      go_wp2_with fail
      go_roundw
      case rel => exact ⟨k + 1, by omega, by go_num, by rw [HS.out], bD HB.out _⟩
      case measure => simp [intOf]; omega
    · obtain rfl : k = ps.length := by omega
      go_wp2_with fail
      go_ret
      exact ⟨ret_int (by rw [List.take_of_length_le (Nat.le_refl _)]), HB.out⟩
set_option maxHeartbeats 1000000 in
theorem TeethOfS_any (ps : List (Int × Int)) (v : Value) (w : World) (ha : SlP w v ps) (hmax : ps.length ≤ 1000000000000) :
    Calls Try.prog 40 #[v] w (TwoI (tsN ps) (tsC ps) w) := by
  cases h : okT ps
  · rw [(ts_no h).1, (ts_no h).2]
    go_enter Try.func40, Try.ntmps40
    go_wp2_with fail
    refine (l05Ok_any ps _ _ ha hmax).mono ?_
    rw [h]
    rintro e w1 ⟨rfl, hb⟩
    go_wp2_with fail
    go_ret2
    exact ⟨rfl, hb⟩
  · rw [(ts_yes h).1, (ts_yes h).2]
    have HH := Lib.hid h
    go_enter Try.func40, Try.ntmps40
    go_wp2_with fail
    refine (l05Ok_any ps _ _ ha hmax).mono ?_
    rw [h]
    rintro e w1 ⟨rfl, hb⟩
    have V := Lib.hid (ha.keep hb)
    have B := Lib.hid hb
    clear hb h
    go_wp2_with fail
    refine (l05Sum_any ps _ _ V.out HH.out).mono ?_
    rintro e w2 ⟨rfl, hb2⟩
    go_wp2_with fail
    go_ret2
    exact ⟨rfl, bT B.out hb2⟩
set_option maxHeartbeats 1000000 in
theorem TeethOfI_any (ps : List (Int × Int)) (v : Value) (w : World) (ha : SlP w v ps) (hmax : ps.length ≤ 1000000000000) :
    Calls Try.prog 41 #[v] w (TwoI (tsN ps) (tsC ps) w) := by
  cases h : okT ps
  · rw [(ts_no h).1, (ts_no h).2]
    go_enter Try.func41, Try.ntmps41
    go_wp2_with fail
    refine (isTrain_any ps _ _ ha hmax).mono ?_
    rw [h]
    rintro e w1 ⟨rfl, hb⟩
    go_wp2_with fail
    go_ret2
    exact ⟨rfl, hb⟩
  · rw [(ts_yes h).1, (ts_yes h).2]
    have h5 := (okT_iff.1 h).1
    have HOK := Lib.hid h
    have HV := Lib.hid ha
    obtain ⟨ao, cap, rfl, _⟩ := ha
    go_enter Try.func41, Try.ntmps41
    go_wp2_with fail
    refine (isTrain_any ps _ _ HV.out hmax).mono ?_
    rw [h]
    rintro e w1 ⟨rfl, hb⟩
    have V := Lib.hid (HV.out.keep hb)
    have B := Lib.hid hb
    clear hb h HV
    go_wp2_with fail
    go_loopw [4, 12] (fun s i wr => ∃ (k : Nat), k ≤ ps.length ∧ i = .int .i64 k ∧ s = .int .i64 (tSum (ps.take k)) ∧ Below w1.heap.size w1 wr) (fun _ i _ => ps.length - (intOf i).toNat)
    case atStart => exact ⟨0, by omega, rfl, rfl, bR _⟩
    case round =>
      obtain ⟨k, hk, rfl, rfl, hbw⟩ := hrel
      have HB := Lib.hid hbw
      by_cases hlt : k < ps.length
      · obtain ⟨ao', cap', e', ha'⟩ := V.out
        injection e' with e1 e2 e3
        subst e1 e3
        obtain ⟨g, rfl, hg, hc⟩ := ha' (by omega)
        obtain ⟨c1, c2⟩ := (hc.keep hg HB.out) k hlt
        have hg' : g < wr.heap.size := Nat.lt_of_lt_of_le hg hbw.size
        obtain ⟨t1, t2⟩ := tSum_bd HOK.out k
        obtain ⟨a1, a2, a3, a4⟩ := okT_at HOK.out hlt
        have HS := Lib.hid (tSum_succ hlt)
        clear hc hg ha' hbw e2
        go_wp2_with fail
        go_roundw
        case rel => exact ⟨k + 1, by omega, by go_num, by rw [HS.out], bA HB.out _⟩
        case measure => simp [intOf]; omega
      · obtain rfl : k = ps.length := by omega
        clear hbw
        go_wp2_with fail
        go_ret2
        exact ⟨ret_two (by rw [List.take_of_length_le (Nat.le_refl _)]) rfl, bT B.out HB.out⟩
/-- Two trains are the same. -/
def sameP (ps qs : List (Int × Int)) : Bool := decide (ps = qs)
def eqK (ps qs : List (Int × Int)) (k : Nat) : Prop := ∀ i, i < k → pat ps i = pat qs i
theorem eqK_zero (ps qs : List (Int × Int)) : eqK ps qs 0 := fun _ h => absurd h (Nat.not_lt_zero _)
theorem eqK_succ {ps qs : List (Int × Int)} {k : Nat} (h : eqK ps qs k) (h2 : pat ps k = pat qs k) : eqK ps qs (k + 1) := by
  intro i hi
  by_cases e : i = k
  · rw [e]; exact h2
  · exact h i (by omega)
theorem eqK_all {ps qs : List (Int × Int)} (hl : ps.length = qs.length) (h : eqK ps qs ps.length) : sameP ps qs = true := by
  refine decide_eq_true (List.ext_getElem hl fun i h1 h2 => ?_)
  rw [pat_get h1, pat_get h2]; exact h i h1
theorem same_no {ps qs : List (Int × Int)} {k : Nat} (h : pat ps k ≠ pat qs k) : sameP ps qs = false := decide_eq_false (fun e => h (by rw [e]))
theorem same_len {ps qs : List (Int × Int)} (h : ¬ ps.length = qs.length) : sameP ps qs = false := decide_eq_false (fun e => h (by rw [e]))
set_option maxHeartbeats 2000000 in
theorem l05Same_any (ps qs : List (Int × Int)) (va vb : Value) (w : World) (ha : SlP w va ps) (hb : SlP w vb qs) (hmax : ps.length ≤ 1000000000000) (_hmax2 : qs.length ≤ 1000000000000) :
    Calls Try.prog 67 #[va, vb] w (BoolBel (sameP ps qs) w) := by
  obtain ⟨ao, cap, rfl, ha⟩ := ha
  obtain ⟨bo, bcap, rfl, hb⟩ := hb
  have HA := Lib.hid ha
  have HB := Lib.hid hb
  clear ha hb
  by_cases hl : ps.length = qs.length
  · have HL := Lib.hid hl
    rw [← hl]
    rw [← hl] at HB
    clear hl
    have hne : ((ps.length : Int) != (ps.length : Int)) = false := by simp
    go_enter Try.func67, Try.ntmps67
    go_wp2_with fail
    go_loopw [5] (fun i wr => ∃ (k : Nat), k ≤ ps.length ∧ i = .int .i64 k ∧ eqK ps qs k ∧ Below w.heap.size w wr) (fun i _ => ps.length - (intOf i).toNat)
    case atStart => exact ⟨0, by omega, rfl, eqK_zero _ _, bR _⟩
    case round =>
      obtain ⟨k, hk, rfl, heq, hbw⟩ := hrel
      have HE := Lib.hid heq
      have HBW := Lib.hid hbw
      clear heq hbw
      by_cases hlt : k < ps.length
      · obtain ⟨g, rfl, hg, hc⟩ := HA.out (by omega)
        obtain ⟨g2, rfl, hg2, hc2⟩ := HB.out (by omega)
        obtain ⟨c1, c2⟩ := (hc.keep hg HBW.out) k hlt
        obtain ⟨d1, d2⟩ := (hc2.keep hg2 HBW.out) k (by rw [← HL.out]; exact hlt)
        have HP := Lib.hid (show pat ps k = ((pat ps k).1, (pat ps k).2) from rfl)
        have HQ := Lib.hid (show pat qs k = ((pat qs k).1, (pat qs k).2) from rfl)
        clear hc hc2 hg hg2 HA HB
        generalize (pat ps k).1 = x at *
        generalize (pat ps k).2 = y at *
        generalize (pat qs k).1 = x' at *
        generalize (pat qs k).2 = y' at *
        by_cases e1 : x = x'
        · subst e1
          by_cases e2 : y = y'
          · subst e2
            have NE := Lib.hid (eqK_succ HE.out (by rw [HP.out, HQ.out]))
            go_wp2_with fail
            go_quiet (fail)
            go_wp2_with fail
            go_roundw
            case rel => exact ⟨k + 1, by omega, by go_num, NE.out, bD HBW.out _⟩
            case measure => simp [intOf]; omega
          · have NE := Lib.hid (same_no (ps := ps) (qs := qs) (k := k) (by rw [HP.out, HQ.out]; simp [e2]))
            go_wp2_with fail
            go_quiet (fail)
            go_wp2_with fail
            go_ret
            exact ⟨ret_bool NE.out.symm, bD HBW.out _⟩
        · have NE := Lib.hid (same_no (ps := ps) (qs := qs) (k := k) (by rw [HP.out, HQ.out]; simp [e1]))
          go_wp2_with fail
          go_quiet (fail)
          go_wp2_with fail
          go_ret
          exact ⟨ret_bool NE.out.symm, bD HBW.out _⟩
      · obtain rfl : k = ps.length := by omega
        have HS := Lib.hid (eqK_all HL.out HE.out)
        go_wp2_with fail
        go_ret
        exact ⟨ret_bool HS.out.symm, HBW.out⟩
  · have HS := Lib.hid (same_len hl)
    have hne : ((ps.length : Int) != (qs.length : Int)) = true := by simp; omega
    clear hl
    go_enter Try.func67, Try.ntmps67
    go_wp2_with fail
    go_ret
    exact ⟨ret_bool HS.out.symm, bR _⟩
set_option maxHeartbeats 2000000 in
theorem equalP_any (ps qs : List (Int × Int)) (va vb : Value) (w : World) (ha : SlP w va ps) (hb : SlP w vb qs) (hmax : ps.length ≤ 1000000000000) (_hmax2 : qs.length ≤ 1000000000000) :
    Calls Try.prog 68 #[va, vb] w (BoolBel (sameP ps qs) w) := by
  obtain ⟨ao, cap, rfl, ha⟩ := ha
  obtain ⟨bo, bcap, rfl, hb⟩ := hb
  have HA := Lib.hid ha
  have HB := Lib.hid hb
  clear ha hb
  by_cases hl : ps.length = qs.length
  · have HL := Lib.hid hl
    rw [← hl]
    rw [← hl] at HB
    clear hl
    have hne : ((ps.length : Int) != (ps.length : Int)) = false := by simp
    go_enter Try.func68, Try.ntmps68
    go_wp2_with fail
    go_loopw [13] (fun i wr => ∃ (k : Nat), k ≤ ps.length ∧ i = .int .i64 k ∧ eqK ps qs k ∧ Below w.heap.size w wr) (fun i _ => ps.length - (intOf i).toNat)
    case atStart => exact ⟨0, by omega, rfl, eqK_zero _ _, bR _⟩
    case round =>
      obtain ⟨k, hk, rfl, heq, hbw⟩ := hrel
      have HE := Lib.hid heq
      have HBW := Lib.hid hbw
      clear heq hbw
      by_cases hlt : k < ps.length
      · obtain ⟨g, rfl, hg, hc⟩ := HA.out (by omega)
        obtain ⟨g2, rfl, hg2, hc2⟩ := HB.out (by omega)
        obtain ⟨c1, c2⟩ := (hc.keep hg HBW.out) k hlt
        obtain ⟨d1, d2⟩ := (hc2.keep hg2 HBW.out) k (by rw [← HL.out]; exact hlt)
        have HP := Lib.hid (show pat ps k = ((pat ps k).1, (pat ps k).2) from rfl)
        have HQ := Lib.hid (show pat qs k = ((pat qs k).1, (pat qs k).2) from rfl)
        clear hc hc2 hg hg2 HA HB
        generalize (pat ps k).1 = x at *
        generalize (pat ps k).2 = y at *
        generalize (pat qs k).1 = x' at *
        generalize (pat qs k).2 = y' at *
        by_cases e1 : x = x'
        · subst e1
          by_cases e2 : y = y'
          · subst e2
            have NE := Lib.hid (eqK_succ HE.out (by rw [HP.out, HQ.out]))
            go_wp2_with fail
            go_quiet (fail)
            go_wp2_with fail
            go_roundw
            case rel => exact ⟨k + 1, by omega, by go_num, NE.out, bD HBW.out _⟩
            case measure => simp [intOf]; omega
          · have NE := Lib.hid (same_no (ps := ps) (qs := qs) (k := k) (by rw [HP.out, HQ.out]; simp [e2]))
            go_wp2_with fail
            go_quiet (fail)
            go_wp2_with fail
            go_ret
            exact ⟨ret_bool NE.out.symm, bD HBW.out _⟩
        · have NE := Lib.hid (same_no (ps := ps) (qs := qs) (k := k) (by rw [HP.out, HQ.out]; simp [e1]))
          go_wp2_with fail
          go_quiet (fail)
          go_wp2_with fail
          go_ret
          exact ⟨ret_bool NE.out.symm, bD HBW.out _⟩
      · obtain rfl : k = ps.length := by omega
        have HS := Lib.hid (eqK_all HL.out HE.out)
        go_wp2_with fail
        go_ret
        exact ⟨ret_bool HS.out.symm, HBW.out⟩
  · have HS := Lib.hid (same_len hl)
    have hne : ((ps.length : Int) != (qs.length : Int)) = true := by simp; omega
    clear hl
    go_enter Try.func68, Try.ntmps68
    go_wp2_with fail
    go_ret
    exact ⟨ret_bool HS.out.symm, bR _⟩
theorem SameTrainS_any (ps qs : List (Int × Int)) (va vb : Value) (w : World) (ha : SlP w va ps) (hb : SlP w vb qs) (hmax : ps.length ≤ 1000000000000) (hmax2 : qs.length ≤ 1000000000000) :
    Calls Try.prog 32 #[va, vb] w (BoolBel (sameP ps qs) w) := by
  go_enter Try.func32, Try.ntmps32
  go_wp2_with fail
  refine (l05Same_any ps qs _ _ _ ha hb hmax hmax2).mono ?_
  rintro e w1 ⟨rfl, hb⟩
  go_wp2_with fail
  go_ret
  exact ⟨rfl, hb⟩
theorem SameTrainI_any (ps qs : List (Int × Int)) (va vb : Value) (w : World) (ha : SlP w va ps) (hb : SlP w vb qs) (hmax : ps.length ≤ 1000000000000) (hmax2 : qs.length ≤ 1000000000000) :
    Calls Try.prog 33 #[va, vb] w (BoolBel (sameP ps qs) w) := by
  go_enter Try.func33, Try.ntmps33
  go_wp2_with fail
  refine (equalP_any ps qs _ _ _ ha hb hmax hmax2).mono ?_
  rintro e w1 ⟨rfl, hb⟩
  go_wp2_with fail
  go_ret
  exact ⟨rfl, hb⟩
end Go.Proofs.Ytcgennkddoajeaa

/-
  The contracts of impl.TeethOf, spec.l05Sum, TeethOf; slices.Equal at pairs, impl.SameTrain, spec.l05Same, SameTrain.
-/
import Derived.Test.YtbfiacodglckiaaTrA
namespace Go.Proofs.Ytbfiacodglckiaa
open Go.RowKit

/-- The sum of all teeth. -/
def tSum (ps : List (Int × Int)) : Int := (ps.map fun p => p.1 + p.2).sum
theorem tSum_succ {ps : List (Int × Int)} {k : Nat} (h : k < ps.length) : tSum (ps.take (k + 1)) = tSum (ps.take k) + ((pat ps k).1 + (pat ps k).2) := by
  rw [pat_take h]; simp [tSum]
theorem tSum_bd {ps : List (Int × Int)} (h : okT ps = true) (k : Nat) : 0 ≤ tSum (ps.take k) ∧ tSum (ps.take k) ≤ 480 * k := by
  induction k with
  | zero => simp [tSum]
  | succ k ih =>
    by_cases hk : k < ps.length
    · rw [tSum_succ hk]
      obtain ⟨a1, a2, a3, a4⟩ := okT_at h hk
      omega
    · rw [List.take_of_length_le (by omega)]
      rw [List.take_of_length_le (by omega)] at ih
      omega
/-- What TeethOf returns. -/
def tsN (ps : List (Int × Int)) : Int := if okT ps then tSum ps else 0
def tsC (ps : List (Int × Int)) : Int := if okT ps then 0 else 1
theorem ts_no {ps : List (Int × Int)} (h : okT ps = false) : tsN ps = 0 ∧ tsC ps = 1 := by simp [tsN, tsC, h]
theorem ts_yes {ps : List (Int × Int)} (h : okT ps = true) : tsN ps = tSum ps ∧ tsC ps = 0 := by simp [tsN, tsC, h]
theorem ret_two {a b a' b' : Int} (h1 : a = a') (h2 : b = b') : Ending.returned (.tuple #[.int .i64 a, .int .i64 b]) = .returned (.tuple #[.int .i64 a', .int .i64 b']) := by rw [h1, h2]
set_option maxHeartbeats 1000000 in
theorem l05Sum_any (ps : List (Int × Int)) (v : Value) (w : World) (ha : SlP w v ps) (hok : okT ps = true) :
    Calls Try.prog 137 #[v] w fun e w' => e = .returned (.int .i64 (tSum ps)) ∧ Below w.heap.size w w' := by
  have h5 := (okT_iff.1 hok).1
  obtain ⟨ao, cap, rfl, ha⟩ := ha
  have HA := Lib.hid ha
  have HOK := Lib.hid hok
  clear ha hok
  go_enter Try.func137, Try.ntmps137
  go_wp2_with fail
  go_loopw [3, 4] (fun s i wr => ∃ (k : Nat), k ≤ ps.length ∧ i = .int .i64 k ∧ s = .int .i64 (tSum (ps.take k)) ∧ Below w.heap.size w wr) (fun _ i _ => ps.length - (intOf i).toNat)
  case atStart => exact ⟨0, by omega, rfl, rfl, bR _⟩
  case round =>
    obtain ⟨k, hk, rfl, rfl, hbw⟩ := hrel
    have HB := Lib.hid hbw
    clear hbw
    by_cases hlt : k < ps.length
    · obtain ⟨g, rfl, hg, hc⟩ := HA.out (by omega)
      obtain ⟨c1, c2⟩ := (hc.keep hg HB.out) k hlt
      obtain ⟨t1, t2⟩ := tSum_bd HOK.out k
      obtain ⟨a1, a2, a3, a4⟩ := okT_at HOK.out hlt
      have HS := Lib.hid (tSum_succ hlt)
      clear hc hg
      go_wp2_with fail
      go_quiet (fail)
      go_wp2_with fail
      go_roundw
      case rel => exact ⟨k + 1, by omega, by go_num, by rw [HS.out], bD HB.out _⟩
      case measure => simp [intOf]; omega
    · obtain rfl : k = ps.length := by omega
      go_wp2_with fail
      go_ret
      exact ⟨ret_int (by rw [List.take_of_length_le (Nat.le_refl _)]), HB.out⟩
set_option maxHeartbeats 1000000 in
theorem TeethOfI_any (ps : List (Int × Int)) (v : Value) (w : World) (ha : SlP w v ps) (hmax : ps.length ≤ 1000000000000) :
    Calls Try.prog 94 #[v] w (TwoI (tsN ps) (tsC ps) w) := by
  cases h : okT ps
  · rw [(ts_no h).1, (ts_no h).2]
    go_enter Try.func94, Try.ntmps94
    go_wp2_with fail
    refine (isTrain_any ps _ _ ha hmax).mono ?_
    rw [h]
    rintro e w1 ⟨rfl, hb⟩
    go_wp2_with fail
    go_ret2
    exact ⟨rfl, hb⟩
  · rw [(ts_yes h).1, (ts_yes h).2]
    have h5 := (okT_iff.1 h).1
    have HOK := Lib.hid h
    have HV := Lib.hid ha
    obtain ⟨ao, cap, rfl, _⟩ := ha
    go_enter Try.func94, Try.ntmps94
    go_wp2_with fail
    refine (isTrain_any ps _ _ HV.out hmax).mono ?_
    rw [h]
    rintro e w1 ⟨rfl, hb⟩
    have V := Lib.hid (HV.out.keep hb)
    have B := Lib.hid hb
    clear hb h HV
    go_wp2_with fail
    go_loopw [4, 12] (fun s i wr => ∃ (k : Nat), k ≤ ps.length ∧ i = .int .i64 k ∧ s = .int .i64 (tSum (ps.take k)) ∧ Below w1.heap.size w1 wr) (fun _ i _ => ps.length - (intOf i).toNat)
    case atStart => exact ⟨0, by omega, rfl, rfl, bR _⟩
    case round =>
      obtain ⟨k, hk, rfl, rfl, hbw⟩ := hrel
      have HB := Lib.hid hbw
      by_cases hlt : k < ps.length
      · obtain ⟨ao', cap', e', ha'⟩ := V.out
        injection e' with e1 e2 e3
        subst e1 e3
        obtain ⟨g, rfl, hg, hc⟩ := ha' (by omega)
        obtain ⟨c1, c2⟩ := (hc.keep hg HB.out) k hlt
        have hg' : g < wr.heap.size := Nat.lt_of_lt_of_le hg hbw.size
        obtain ⟨t1, t2⟩ := tSum_bd HOK.out k
        obtain ⟨a1, a2, a3, a4⟩ := okT_at HOK.out hlt
        have HS := Lib.hid (tSum_succ hlt)
        clear hc hg ha' hbw e2
        go_wp2_with fail
        go_roundw
        case rel => exact ⟨k + 1, by omega, by go_num, by rw [HS.out], bA HB.out _⟩
        case measure => simp [intOf]; omega
      · obtain rfl : k = ps.length := by omega
        clear hbw
        go_wp2_with fail
        go_ret2
        exact ⟨ret_two (by rw [List.take_of_length_le (Nat.le_refl _)]) rfl, bT B.out HB.out⟩
/-- Two trains are the same. -/
def sameP (ps qs : List (Int × Int)) : Bool := decide (ps = qs)
def eqK (ps qs : List (Int × Int)) (k : Nat) : Prop := ∀ i, i < k → pat ps i = pat qs i
theorem eqK_zero (ps qs : List (Int × Int)) : eqK ps qs 0 := fun _ h => absurd h (Nat.not_lt_zero _)
theorem eqK_succ {ps qs : List (Int × Int)} {k : Nat} (h : eqK ps qs k) (h2 : pat ps k = pat qs k) : eqK ps qs (k + 1) := by
  intro i hi
  by_cases e : i = k
  · rw [e]; exact h2
  · exact h i (by omega)
theorem eqK_all {ps qs : List (Int × Int)} (hl : ps.length = qs.length) (h : eqK ps qs ps.length) : sameP ps qs = true := by
  refine decide_eq_true (List.ext_getElem hl fun i h1 h2 => ?_)
  rw [pat_get h1, pat_get h2]; exact h i h1
theorem same_no {ps qs : List (Int × Int)} {k : Nat} (h : pat ps k ≠ pat qs k) : sameP ps qs = false := decide_eq_false (fun e => h (by rw [e]))
theorem same_len {ps qs : List (Int × Int)} (h : ¬ ps.length = qs.length) : sameP ps qs = false := decide_eq_false (fun e => h (by rw [e]))
end Go.Proofs.Ytbfiacodglckiaa

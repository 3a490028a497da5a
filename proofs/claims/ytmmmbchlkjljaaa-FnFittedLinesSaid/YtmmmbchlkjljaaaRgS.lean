/-
  Readings: validity, both sides.
-/
import Derived.Test.YtmmmbchlkjljaaaRgM
import Derived.Test.YtmmmbchlkjljaaaRgO
import Derived.Test.YtmmmbchlkjljaaaBl
import Derived.Test.YtmmmbchlkjljaaaEqP
namespace Go.Proofs.Ytmmmbchlkjljaaa
open Go.RowKit

def OneN (n : Int) (w : World) (e : Ending) (w' : World) : Prop := e = .returned (.int .i64 n) ∧ Below w.heap.size w w'
def TwoN (a b : Int) (w : World) (e : Ending) (w' : World) : Prop := e = .returned (.tuple #[.int .i64 a, .int .i64 b]) ∧ Below w.heap.size w w'
set_option maxRecDepth 100000 in
set_option maxHeartbeats 4000000 in
theorem l14Ok_any (ps : List (Int × Int)) (v : Value) (w : World) (ha : SlQ w v ps) (hmax : ps.length ≤ 1000000000000) :
    Calls Try.prog 51 #[v] w (BoolBel (okRd ps) w) := by
  obtain ⟨ao, cap, rfl, _, ha⟩ := ha
  have HA := Lib.hid ha
  clear ha
  go_enter Try.func51, Try.ntmps51
  go_wp2_with fail
  go_loopw [3] (fun i wr => ∃ (k : Nat), k ≤ ps.length ∧ i = .int .i64 k ∧ rdK ps k ∧ Below w.heap.size w wr) (fun i _ => ps.length - (intOf i).toNat)
  case atStart => exact ⟨0, by omega, rfl, rdK_zero _, bR _⟩
  case round =>
    obtain ⟨k, hk, rfl, hok, hbw⟩ := hrel
    have HK := Lib.hid hok
    clear hok
    by_cases hlt : k < ps.length
    · obtain ⟨g, o, rfl, hg, hc⟩ := HA.out (by omega)
      have HC := Lib.hid (hc.keep hg hbw)
      obtain ⟨c1, c2⟩ := HC.out k hlt
      have HBW := Lib.hid hbw
      have HE := Lib.hid (show pat ps k = ((pat ps k).1, (pat ps k).2) from rfl)
      clear hc HA hbw hg
      generalize (pat ps k).1 = x at *
      generalize (pat ps k).2 = y at *
      cases h1 : inB x 0 10000
      · have HN := Lib.hid (rd_no hlt (okAt_x HK.out HE.out h1))
        go_wp2_with fail
        go_quiet (first | (go_at_call 52; exact quiet_eq (l00In_any _ _ _ _)))
        go_wp2_with fail
        go_ret
        exact ⟨ret_bool HN.out.symm, by first | exact HBW.out | exact bD HBW.out _⟩
      · cases h2 : inB y (-100000) 100000
        · have HN := Lib.hid (rd_no hlt (okAt_y HE.out h2))
          go_wp2_with fail
          go_quiet (first | (go_at_call 52; exact quiet_eq (l00In_any _ _ _ _)))
          go_wp2_with fail
          go_ret
          exact ⟨ret_bool HN.out.symm, by first | exact HBW.out | exact bD HBW.out _⟩
        · by_cases h0 : k = 0
          · have HS := Lib.hid (rdK_succ HK.out (okAt_c HE.out h1 h2 (Or.inl h0)))
            have hk0 : ¬ (0 : Int) < (k : Int) := by omega
            have hz : (decide ((0 : Int) < (k : Int))) = false := by simpa using hk0
            have hk1 : ¬ 0 < k := by omega
            have hz1 : (decide (0 < k)) = false := by simpa using hk1
            clear h0
            go_wp2_with fail
            go_quiet (first | (go_at_call 52; exact quiet_eq (l00In_any _ _ _ _)))
            go_wp2_with fail
            go_roundw
            case rel => exact ⟨k + 1, by omega, by go_num, HS.out, by first | exact HBW.out | exact bD HBW.out _⟩
            case measure => simp [intOf]; omega
          · obtain ⟨d1, d2⟩ := HC.out (k - 1) (by omega)
            have hk0 : (0 : Int) < (k : Int) := by omega
            have hz : (decide ((0 : Int) < (k : Int))) = true := by simpa using hk0
            have hk1 : 0 < k := by omega
            have hz1 : (decide (0 < k)) = true := by simpa using hk1
            have e1 : (k : Int) - 1 = ((k - 1 : Nat) : Int) := by omega
            have hj : k - 1 < ps.length := by omega
            have w1 : IntKind.i64.wrap ((k : Int) - 1) = ((k - 1 : Nat) : Int) := by rw [e1]; exact IntWalk.i64_in _ (by omega)
            have w2 : IntKind.i64.wrap ((k - 1 : Nat) : Int) = ((k - 1 : Nat) : Int) := IntWalk.i64_in _ (by omega)
            have HB1 := Lib.hid (fun (h : x ≤ (pat ps (k - 1)).1) => rd_no hlt (okAt_b HE.out h0 h))
            have HB2 := Lib.hid (fun (h : (pat ps (k - 1)).1 < x) => rdK_succ HK.out (okAt_c HE.out h1 h2 (Or.inr h)))
            clear HC
            generalize (pat ps (k - 1)).1 = u at *
            generalize k - 1 = j at *
            by_cases h3 : x ≤ u
            · have h4 : (decide (x ≤ u)) = true := by simpa using h3
              have HN := Lib.hid (HB1.out h3)
              clear HB1 HB2
              go_wp2_with fail
              go_quiet (first | (go_at_call 52; exact quiet_eq (l00In_any _ _ _ _)))
              go_wp2_with fail
              go_ret
              exact ⟨ret_bool HN.out.symm, by first | exact HBW.out | exact bD HBW.out _⟩
            · have h4 : (decide (x ≤ u)) = false := by simpa using h3
              have HS := Lib.hid (HB2.out (by omega))
              clear HB1 HB2
              go_wp2_with fail
              go_quiet (first | (go_at_call 52; exact quiet_eq (l00In_any _ _ _ _)))
              go_wp2_with fail
              go_roundw
              case rel => exact ⟨k + 1, by omega, by go_num, HS.out, by first | exact HBW.out | exact bD HBW.out _⟩
              case measure => simp [intOf]; omega
    · obtain rfl : k = ps.length := by omega
      have HR := Lib.hid (rdK_all HK.out)
      go_wp2_with fail
      go_ret
      exact ⟨ret_bool (by rw [HR.out, Bool.eq_iff_iff]; simp; omega), hbw⟩
set_option maxRecDepth 100000 in
set_option maxHeartbeats 4000000 in
theorem ValidReadingsI_any (ps : List (Int × Int)) (v : Value) (w : World) (ha : SlQ w v ps) (hmax : ps.length ≤ 1000000000000) :
    Calls Try.prog 29 #[v] w (BoolBel (okRd ps) w) := by
  obtain ⟨ao, cap, rfl, _, ha⟩ := ha
  have HA := Lib.hid ha
  clear ha
  by_cases h60 : 60 < ps.length
  · have HN := Lib.hid (okRd_long (ps := ps) (by omega))
    go_enter Try.func29, Try.ntmps29
    go_wp2_with fail
    go_ret
    exact ⟨ret_bool HN.out.symm, bR _⟩
  go_enter Try.func29, Try.ntmps29
  go_wp2_with fail
  go_loopw [3, 11] (fun q i wr => ∃ (k : Nat), k ≤ ps.length ∧ i = .int .i64 k ∧ q = .int .i64 (erl ps k) ∧ rdK ps k ∧ Below w.heap.size w wr) (fun _ i _ => ps.length - (intOf i).toNat)
  case atStart => exact ⟨0, by omega, rfl, rfl, rdK_zero _, bR _⟩
  case round =>
    obtain ⟨k, hk, rfl, rfl, hok, hbw⟩ := hrel
    have HK := Lib.hid hok
    clear hok
    by_cases hlt : k < ps.length
    · obtain ⟨g, o, rfl, hg, hc⟩ := HA.out (by omega)
      obtain ⟨c1, c2⟩ := (hc.keep hg hbw) k hlt
      have HBW := Lib.hid hbw
      have HE := Lib.hid (show pat ps k = ((pat ps k).1, (pat ps k).2) from rfl)
      have HX := Lib.hid (erl_succ ps k)
      have hrl := rdK_erl HK.out
      have HZ := Lib.hid (fun h => okAt_z (ps := ps) (k := k) HE.out h)
      have HG := Lib.hid (fun h => okAt_go (ps := ps) (k := k) HE.out h)
      clear hc HA hbw hg
      generalize (pat ps k).1 = x at *
      generalize (pat ps k).2 = y at *
      generalize erl ps k = r at *
      cases h1 : inB x r 10000
      · have HN := Lib.hid (rd_no hlt (HZ.out h1))
        go_wp2_with (first | (go_at_call 55; refine (isBetween_any _ _ _ _).mono ?_; rintro e w1 ⟨rfl, rfl⟩))
        go_ret
        exact ⟨ret_bool HN.out.symm, by first | exact HBW.out | exact bA HBW.out _⟩
      · have hx := inB_true.1 h1
        cases h2 : inB y (-100000) 100000
        · have HN := Lib.hid (rd_no hlt (okAt_y HE.out h2))
          go_wp2_with (first | (go_at_call 55; refine (isBetween_any _ _ _ _).mono ?_; rintro e w1 ⟨rfl, rfl⟩))
          go_ret
          exact ⟨ret_bool HN.out.symm, by first | exact HBW.out | exact bA HBW.out _⟩
        · have HS := Lib.hid (rdK_succ HK.out (HG.out h1 h2))
          go_wp2_with (first | (go_at_call 55; refine (isBetween_any _ _ _ _).mono ?_; rintro e w1 ⟨rfl, rfl⟩))
          go_roundw
          case rel => exact ⟨k + 1, by omega, by go_num, by rw [HX.out], HS.out, by first | exact HBW.out | exact bA HBW.out _⟩
          case measure => simp [intOf]; omega
    · obtain rfl : k = ps.length := by omega
      have HR := Lib.hid (rdK_all HK.out)
      go_wp2_with fail
      go_ret
      exact ⟨ret_bool (by rw [HR.out, Bool.eq_iff_iff]; simp; omega), hbw⟩
theorem ValidReadingsS_any (ps : List (Int × Int)) (v : Value) (w : World) (ha : SlQ w v ps) (hmax : ps.length ≤ 1000000000000) :
    Calls Try.prog 30 #[v] w (BoolBel (okRd ps) w) := by
  go_enter Try.func30, Try.ntmps30
  go_wp2_with fail
  refine (l14Ok_any ps _ _ ha hmax).mono ?_
  rintro e w1 ⟨rfl, hb⟩
  go_wp2_with fail
  go_ret
  exact ⟨rfl, hb⟩
end Go.Proofs.Ytmmmbchlkjljaaa

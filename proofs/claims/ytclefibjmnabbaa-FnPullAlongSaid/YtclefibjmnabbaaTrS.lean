/-
  The contracts of spec.l05Teeth, l05Pair, ValidPair, l05Ok, ValidTrain.
-/
import Derived.Test.YtclefibjmnabbaaTrI
namespace Go.Proofs.Ytclefibjmnabbaa
open Go.RowKit

theorem l05Teeth_any (t : Int) (w : World) :
    Calls Try.prog 87 #[.int .i64 t] w fun e w' => e = .returned (.bool (inB t 6 240)) ∧ w = w' := by
  go_enter Try.func87, Try.ntmps87
  go_wp2_with fail
  refine (l00In_any _ _ _ _).mono ?_
  rintro e w1 ⟨rfl, rfl⟩
  go_wp2_with fail
  go_ret
  exact ⟨rfl, rfl⟩
set_option maxHeartbeats 1000000 in
theorem l05Pair_any (x y : Int) (w : World) :
    Calls Try.prog 74 #[.agg #[.int .i64 x, .int .i64 y]] w fun e w' => e = .returned (.bool (okP (x, y))) ∧ Below w.heap.size w w' := by
  cases h1 : inB x 6 240
  · rw [okP_no1 h1]
    go_enter Try.func74, Try.ntmps74
    go_wp2_with (go_at_call 87; refine (l05Teeth_any _ _).mono ?_; rintro e w1 ⟨rfl, rfl⟩)
    go_ret
    exact ⟨rfl, bA (bR _) _⟩
  · cases h2 : inB y 6 240
    · rw [okP_no2 h2]
      go_enter Try.func74, Try.ntmps74
      go_wp2_with (go_at_call 87; refine (l05Teeth_any _ _).mono ?_; rintro e w1 ⟨rfl, rfl⟩)
      go_ret
      exact ⟨rfl, bA (bR _) _⟩
    · rw [okP_yes h1 h2]
      go_enter Try.func74, Try.ntmps74
      go_wp2_with (go_at_call 87; refine (l05Teeth_any _ _).mono ?_; rintro e w1 ⟨rfl, rfl⟩)
      go_ret
      exact ⟨rfl, bA (bR _) _⟩
theorem okT_short {ps : List (Int × Int)} (h : ps.all okP = true) : okT ps = decide (ps.length ≤ 5) := by simp [okT, h]
theorem okT_bad {ps : List (Int × Int)} (h : ps.all okP = false) : okT ps = false := by simp [okT, h]
set_option maxHeartbeats 1000000 in
theorem l05Ok_any (ps : List (Int × Int)) (v : Value) (w : World) (ha : SlP w v ps) (hmax : ps.length ≤ 1000000000000) :
    Calls Try.prog 40 #[v] w (BoolBel (okT ps) w) := by
  obtain ⟨ao, cap, rfl, ha⟩ := ha
  have HA := Lib.hid ha
  clear ha
  go_enter Try.func40, Try.ntmps40
  go_wp2_with fail
  go_loopw [3] (fun i wr => ∃ (k : Nat), k ≤ ps.length ∧ i = .int .i64 k ∧ okK ps k ∧ Below w.heap.size w wr) (fun i _ => ps.length - (intOf i).toNat)
  case atStart => exact ⟨0, by omega, rfl, okK_zero _, bR _⟩
  case round =>
    obtain ⟨k, hk, rfl, hok, hbw⟩ := hrel
    have HK := Lib.hid hok
    clear hok
    by_cases hlt : k < ps.length
    · obtain ⟨g, rfl, hg, hc⟩ := HA.out (by omega)
      obtain ⟨c1, c2⟩ := (hc.keep hg hbw) k hlt
      have HBW := Lib.hid hbw
      have HE := Lib.hid (show okP (pat ps k) = okP ((pat ps k).1, (pat ps k).2) from rfl)
      clear hc HA hbw hg
      generalize (pat ps k).1 = x at *
      generalize (pat ps k).2 = y at *
      cases hp : okP (x, y)
      · rw [hp] at HE
        have HN := Lib.hid (okT_bad (all_no hlt HE.out))
        go_wp2_with fail
        refine (l05Pair_any _ _ _).mono ?_
        rw [hp]
        rintro e w1 ⟨rfl, hb1⟩
        have HB1 := Lib.hid (bT HBW.out hb1)
        clear hb1 hp
        go_wp2_with fail
        go_ret
        exact ⟨ret_bool HN.out.symm, HB1.out⟩
      · rw [hp] at HE
        have HS := Lib.hid (okK_succ HK.out HE.out)
        go_wp2_with fail
        refine (l05Pair_any _ _ _).mono ?_
        rw [hp]
        rintro e w1 ⟨rfl, hb1⟩
        have HB1 := Lib.hid (bT HBW.out hb1)
        clear hb1 hp
        go_wp2_with fail
        go_roundw
        case rel => exact ⟨k + 1, by omega, by go_num, HS.out, HB1.out⟩
        case measure => simp [intOf]; omega
    · obtain rfl : k = ps.length := by omega
      have HR := Lib.hid (okT_short (okK_all HK.out))
      go_wp2_with fail
      go_ret
      exact ⟨ret_bool (by rw [HR.out, Bool.eq_iff_iff]; simp; omega), hbw⟩
end Go.Proofs.Ytclefibjmnabbaa

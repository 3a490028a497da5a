/-
  Sums of hours times temperatures, the program's side.
-/
import Derived.Test.YtpmelgdhcjnagaaDoorRaP
import Derived.Test.YtpmelgdhcjnagaaDoorRaU
namespace Go.Proofs.YtpmelgdhcjnagaaDoor
open Go.RowKit

theorem degreeHoursI_any (x y : Int) (w : World) (hp : okSg (x, y) = true) :
    Calls Tryd.prog 37 #[.agg #[.int .i64 x, .int .i64 y]] w (OneN (dgS (x, y)) w) := by
  have hd := dgS_bd hp
  have hd2 : dgS (x, y) = x * y := rfl
  rw [hd2] at hd ⊢
  clear hp hd2
  go_enter Tryd.func37, Tryd.ntmps37
  go_wp2_with fail
  go_ret
  exact ⟨rfl, bA (bR _) _⟩
set_option maxRecDepth 100000 in
set_option maxHeartbeats 2000000 in
theorem sumG_any (ps : List (Int × Int)) (v : Value) (w : World) (ha : SlP w v ps) (hp : okSl ps = true) :
    Calls Tryd.prog 36 #[v, .func (.func 37) #[] #[]] w (OneN (smF dgS ps) w) := by
  obtain ⟨ao, cap, rfl, ha⟩ := ha
  have HA := Lib.hid ha
  have HS := Lib.hid (sumG_bd hp)
  have CA := Lib.hid (fun k (hk : k < ps.length) W => degreeHoursI_any (pat ps k).1 (pat ps k).2 W ((okSl_iff.1 hp).2 _ (pat_mem hk)))
  have hlen := (okSl_iff.1 hp).1
  clear ha hp
  go_enter Tryd.func36, Tryd.ntmps36
  go_wp2_with fail
  go_loopw [5, 10] (fun vs vi wr => ∃ k : Nat, k ≤ ps.length ∧ vi = .int .i64 k ∧ vs = .int .i64 (smF dgS (ps.take k)) ∧ Below w.heap.size w wr) (fun _ vi _ => ps.length - (intOf vi).toNat)
  case atStart => exact ⟨0, Nat.zero_le _, rfl, by simp [smF], bR _⟩
  case round =>
    obtain ⟨k, hk, rfl, rfl, hbel⟩ := hrel
    have BL := Lib.hid hbel
    by_cases hlt : k < ps.length
    · obtain ⟨g, rfl, hg, hc⟩ := HA.out (by omega)
      obtain ⟨c1, c2⟩ := (hc.keep hg hbel) k hlt
      have C1 := Lib.hid (CA.out k hlt)
      have h0 := HS.out k
      have h1 := HS.out (k + 1)
      have HT := Lib.hid (smF_take (dgS) hlt)
      rw [HT.out] at h1
      clear hc HA HS CA hbel
      generalize dgS (pat ps k) = d at *
      generalize (pat ps k).1 = x at *
      generalize (pat ps k).2 = y at *
      generalize smF (dgS) (ps.take k) = s at *
      go_wp2_with fail
      refine (C1.out _).mono ?_
      rintro en w2 ⟨rfl, hb⟩
      have BL2 := Lib.hid (bT (bA BL.out _) hb)
      clear hb c1 c2
      go_wp2_with fail
      go_roundw
      case rel => exact ⟨k + 1, by omega, by go_num, by rw [HT.out], BL2.out⟩
      case measure => simp [intOf]; omega
    · obtain rfl : k = ps.length := by omega
      rw [List.take_of_length_le (Nat.le_refl _)]
      go_wp2_with fail
      go_ret
      exact ⟨rfl, BL.out⟩
end Go.Proofs.YtpmelgdhcjnagaaDoor

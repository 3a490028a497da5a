/-
  The contracts of impl.rootOf and spec.l09Root.
-/
import Derived.Test.YtclefibjmnabbaaRt
namespace Go.Proofs.Ytclefibjmnabbaa
open Go.RowKit

set_option maxHeartbeats 1000000 in
theorem l09Root_any (n : Int) (w : World) (h0 : 0 ≤ n) (h1 : n ≤ 1000000000000000000) :
    Calls Try.prog 51 #[.int .i64 n] w fun e w' => e = .returned (.int .i64 (rt n)) ∧ w = w' := by
  go_enter Try.func51, Try.ntmps51
  go_wp2_with fail
  go_loop [3, 4] (fun x y => ∃ l h : Int, x = .int .i64 l ∧ y = .int .i64 h ∧ 0 ≤ l ∧ l ≤ h ∧ h ≤ 1000000000 ∧ l * l ≤ n ∧ n < (h + 1) * (h + 1)) (fun x y => (intOf y - intOf x).toNat)
  case atStart => exact ⟨0, 1000000000, rfl, rfl, by omega, by omega, by omega, by omega, by omega⟩
  case round =>
    obtain ⟨l, h, rfl, rfl, l0, lh, h9, hl, hh⟩ := hrel
    have HL := Lib.hid hl
    have HH := Lib.hid hh
    clear hl hh
    by_cases hlt : l < h
    · have m0 : 0 ≤ l + h + 1 := by omega
      have e1 : (l + h + 1).tdiv 2 = (l + h + 1) / 2 := Int.tdiv_eq_ediv_of_nonneg m0
      have m1 : l < (l + h + 1) / 2 := by omega
      have m2 : (l + h + 1) / 2 ≤ h := by omega
      generalize hm : (l + h + 1) / 2 = m at *
      have sq := sq_bd (x := m) (m := 1000000000) (by omega) (by omega)
      have HM := Lib.hid hm
      clear hm
      by_cases hc : m * m ≤ n
      · go_wp2_with fail
        go_round
        case rel => exact ⟨m, h, by go_num, rfl, by omega, by omega, by omega, hc, HH.out⟩
        case measure => simp [intOf]; omega
      · have HN := Lib.hid (show n < (m - 1 + 1) * (m - 1 + 1) by rw [show m - 1 + 1 = m by omega]; omega)
        go_wp2_with fail
        go_round
        case rel => exact ⟨l, m - 1, rfl, by go_num, by omega, by omega, by omega, HL.out, HN.out⟩
        case measure => simp [intOf]; omega
    · obtain rfl : l = h := by omega
      have HR := Lib.hid (rt_only l0 HL.out HH.out)
      go_wp2_with fail
      go_ret
      exact ⟨ret_int HR.out.symm, rfl⟩
set_option maxHeartbeats 1000000 in
theorem rootOf_any (n : Int) (w : World) (h0 : 0 ≤ n) (h1 : n < 4611686018427387904) :
    Calls Try.prog 57 #[.int .i64 n] w fun e w' => e = .returned (.int .i64 (rt n)) ∧ w = w' := by
  go_enter Try.func57, Try.ntmps57
  go_wp2_with fail
  go_loop [3, 4] (fun x y => ∃ (r : Int) (k : Nat), x = .int .i64 r ∧ y = .int .i64 ((2 : Int) ^ k / 2) ∧ 0 ≤ r ∧ r + (2 : Int) ^ k ≤ 2147483648 ∧ k ≤ 31 ∧ r * r ≤ n ∧ n < (r + (2 : Int) ^ k) * (r + (2 : Int) ^ k)) (fun _ y => (intOf y).toNat)
  case atStart => exact ⟨0, 31, rfl, rfl, by omega, by omega, by omega, by omega, by omega⟩
  case round =>
    obtain ⟨r, k, rfl, rfl, r0, rk, hk, hl, hh⟩ := hrel
    match k, hk with
    | 0, _ =>
      have HR := Lib.hid (rt_only r0 hl (by simpa using hh))
      clear hl hh rk
      have e0 : (2 : Int) ^ 0 / 2 = 0 := by decide
      rw [e0]
      go_wp2_with fail
      go_ret
      exact ⟨ret_int HR.out.symm, rfl⟩
    | k + 1, hk =>
      have p2 : (2 : Int) ^ (k + 1) = 2 * (2 : Int) ^ k := by rw [Int.pow_succ]; omega
      have p1 : 1 ≤ (2 : Int) ^ k := by have := Int.pow_pos (n := 2) (m := k) (by omega); omega
      have e2 : (2 : Int) ^ (k + 1) / 2 = (2 : Int) ^ k := by omega
      rw [e2]
      rw [p2] at rk hh
      have HP := Lib.hid (show ∀ r' : Int, 0 ≤ r' → r' + (2 : Int) ^ k ≤ 2147483648 → r' * r' ≤ n → n < (r' + (2 : Int) ^ k) * (r' + (2 : Int) ^ k) → ∃ (r2 : Int) (k2 : Nat), (Value.int .i64 r') = .int .i64 r2 ∧ (Value.int .i64 ((2 : Int) ^ k / 2)) = .int .i64 ((2 : Int) ^ k2 / 2) ∧ 0 ≤ r2 ∧ r2 + (2 : Int) ^ k2 ≤ 2147483648 ∧ k2 ≤ 31 ∧ r2 * r2 ≤ n ∧ n < (r2 + (2 : Int) ^ k2) * (r2 + (2 : Int) ^ k2) from
        fun r' a b c d => ⟨r', k, rfl, rfl, a, b, by omega, c, d⟩)
      clear p2 e2 hk
      generalize (2 : Int) ^ k = p at *
      have hq : p.tdiv 2 = p / 2 := Int.tdiv_eq_ediv_of_nonneg (by omega)
      have hq0 : 0 ≤ p / 2 := by omega
      have hq1 : p / 2 < p := by omega
      have sq := sq_bd (x := r + p) (m := 2147483648) (by omega) (by omega)
      have HL := Lib.hid hl
      have HH := Lib.hid (show n < (r + p + p) * (r + p + p) by rw [show r + p + p = r + 2 * p by omega]; exact hh)
      clear hl hh
      by_cases hc : (r + p) * (r + p) ≤ n
      · have HN := Lib.hid (HP.out (r + p) (by omega) (by omega) hc HH.out)
        go_wp2_with fail
        go_round
        case rel => exact HN.out
        case measure => simp [intOf]; omega
      · have HN := Lib.hid (HP.out r (by omega) (by omega) HL.out (by omega))
        go_wp2_with fail
        go_round
        case rel => exact HN.out
        case measure => simp [intOf]; omega
end Go.Proofs.Ytclefibjmnabbaa

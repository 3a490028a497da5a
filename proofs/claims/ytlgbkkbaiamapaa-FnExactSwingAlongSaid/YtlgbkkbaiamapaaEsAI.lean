/-
  Swings along a list of torques: the program's side.
-/
import Derived.Test.YtlgbkkbaiamapaaEsA
import Derived.Test.YtlgbkkbaiamapaaEsI
namespace Go.Proofs.Ytlgbkkbaiamapaa
open Go.RowKit

/-- What IndexFunc returns: the place of the first number that is no torque. -/
def IdqRet (qs : List Int) (w : World) (e : Ending) (w' : World) : Prop := ∃ r : Int, e = .returned (.int .i64 r) ∧ decide (0 ≤ r) = !qs.all (fun q => inB q 0 1000) ∧ -1 ≤ r ∧ r ≤ qs.length ∧ ∃ n, w' = w.drewN n
set_option maxHeartbeats 1000000 in
theorem idxQ_any (qs : List Int) (v : Value) (w : World) (ha : Sl64 w v qs) (hmax : qs.length ≤ 1000000000000) :
    Calls Try.prog 51 #[v, .func (.func 40) #[] #[]] w (IdqRet qs w) := by
  obtain ⟨ao, cap, rfl, ha⟩ := ha
  have HA := Lib.hid ha
  clear ha
  go_enter Try.func51, Try.ntmps51
  go_wp2_with fail
  go_loopw [8] (fun i wr => ∃ (k n : Nat), k ≤ qs.length ∧ i = .int .i64 k ∧ (∀ j, j < k → inB (at0 qs j) 0 1000 = true) ∧ wr = w.drewN n) (fun i _ => qs.length - (intOf i).toNat)
  case atStart => exact ⟨0, 0, by omega, rfl, fun j h => absurd h (Nat.not_lt_zero _), rfl⟩
  case round =>
    obtain ⟨k, n, hk, rfl, hok, rfl⟩ := hrel
    have HK := Lib.hid hok
    clear hok
    by_cases hlt : k < qs.length
    · obtain ⟨g, rfl, hg, hc⟩ := HA.out (by omega)
      have c1 : w.cell? ⟨g, k, none⟩ = some (.int .i64 (at0 qs k)) := hc k hlt
      have HM := Lib.hid (at0_mem hlt)
      have HE := Lib.hid (show at0 qs k = at0 qs k from rfl)
      clear hc HA hg
      generalize hx : at0 qs k = x at c1 HM
      have HX := Lib.hid hx
      clear hx HE
      cases hp : inB x 0 1000
      · have HN := Lib.hid (show qs.all (fun q => inB q 0 1000) = false from by
          rw [List.all_eq_false]
          exact ⟨x, HM.out, by simp [hp]⟩)
        go_wp2_with (go_at_call 40; refine (isNoTorque_any _ _).mono ?_; rw [hp]; rintro e w1 ⟨rfl, rfl⟩)
        go_ret
        exact ⟨k, rfl, by rw [HN.out]; simp, by omega, by omega, _, rfl⟩
      · have HS := Lib.hid (show ∀ j, j < k + 1 → inB (at0 qs j) 0 1000 = true from fun j hj => by
          by_cases e : j = k
          · subst e; rw [HX.out]; exact hp
          · exact HK.out j (by omega))
        go_wp2_with (go_at_call 40; refine (isNoTorque_any _ _).mono ?_; rw [hp]; rintro e w1 ⟨rfl, rfl⟩)
        go_roundw
        case rel => exact ⟨k + 1, _, by omega, by go_num, HS.out, by first | rfl | exact World.drewN_drewN _ _ _⟩
        case measure => simp [intOf]; omega
    · obtain rfl : k = qs.length := by omega
      have HR := Lib.hid (show qs.all (fun q => inB q 0 1000) = true from by
        rw [List.all_eq_true]
        intro x hx
        obtain ⟨j, hj, rfl⟩ := List.getElem_of_mem hx
        have := HK.out j hj
        unfold at0 at this
        rw [List.getElem?_eq_getElem hj] at this
        exact this)
      go_wp2_with fail
      go_ret
      exact ⟨-1, rfl, by rw [HR.out]; rfl, by omega, by omega, _, rfl⟩
theorem containsQ_any (qs : List Int) (v : Value) (w : World) (ha : Sl64 w v qs) (hmax : qs.length ≤ 1000000000000) :
    Calls Try.prog 42 #[v, .func (.func 40) #[] #[]] w fun e w' => e = .returned (.bool (!qs.all (fun q => inB q 0 1000))) ∧ ∃ n, w' = w.drewN n := by
  have hv := idxQ_any qs v w ha hmax
  obtain ⟨ao, cap, rfl, _⟩ := ha
  go_enter Try.func42, Try.ntmps42
  go_wp2_with fail
  refine hv.mono ?_
  rintro e w1 ⟨r, rfl, hr, h1, h2, n, rfl⟩
  have HR := Lib.hid hr
  clear hr
  go_wp2_with fail
  go_ret
  exact ⟨ret_bool HR.out, n, rfl⟩
end Go.Proofs.Ytlgbkkbaiamapaa

/-
  Names: the plain test, and the contracts of spec.l01Small, spec.l01Digit, impl.isLetter, impl.isDigitOrHyphen.
-/
import Derived.Test.YtpbepibklipfpaaDoorRat
import Derived.Laws.RangeAny
namespace Go.Proofs.YtpbepibklipfpaaDoor
open Go.RowKit

def smB (c : Int) : Bool := decide (97 ≤ c ∧ c ≤ 122)
def dgB (c : Int) : Bool := decide (48 ≤ c ∧ c ≤ 57)
def dhB (c : Int) : Bool := decide ((48 ≤ c ∧ c ≤ 57) ∨ c = 45)
def at' (s : ByteArray) (j : Nat) : Int := ((s.data.toList.getD j 0).toNat : Int)
def nameB (s : ByteArray) : Bool := decide (s.size ≠ 0 ∧ s.size ≤ 12 ∧ smB (at' s 0) = true ∧ ∀ j, j < s.size → (smB (at' s j) || dhB (at' s j)) = true)
theorem at_eq {s : ByteArray} {j : Nat} (h : j < s.size) : at' s j = ((s[j].toNat : Nat) : Int) := by
  unfold at'
  rw [List.getD_eq_getElem?_getD, List.getElem?_eq_getElem (by simpa using h)]
  rfl

theorem l01Small_any (c : Int) (w : World) :
    Calls Tryd.prog 102 #[.int .u8 c] w fun e w' => e = .returned (.bool (smB c)) ∧ w = w' := by
  by_cases h : 97 ≤ c
  · go_enter Tryd.func102, Tryd.ntmps102
    go_wp2
    go_ret
    exact ⟨ret_bool (by simp [smB, h]), rfl⟩
  · go_enter Tryd.func102, Tryd.ntmps102
    go_wp2
    go_ret
    exact ⟨ret_bool (by simp [smB]; omega), rfl⟩
theorem l01Digit_any (c : Int) (w : World) :
    Calls Tryd.prog 103 #[.int .u8 c] w fun e w' => e = .returned (.bool (dgB c)) ∧ w = w' := by
  by_cases h : 48 ≤ c
  · go_enter Tryd.func103, Tryd.ntmps103
    go_wp2
    go_ret
    exact ⟨ret_bool (by simp [dgB, h]), rfl⟩
  · go_enter Tryd.func103, Tryd.ntmps103
    go_wp2
    go_ret
    exact ⟨ret_bool (by simp [dgB]; omega), rfl⟩
theorem isLetter_any (c : Int) (w : World) :
    Calls Tryd.prog 119 #[.int .i32 c] w fun e w' => e = .returned (.bool (smB c)) ∧ w = w' := by
  by_cases h : 97 ≤ c
  · go_enter Tryd.func119, Tryd.ntmps119
    go_wp2
    go_ret
    exact ⟨ret_bool (by simp [smB, h]), rfl⟩
  · go_enter Tryd.func119, Tryd.ntmps119
    go_wp2
    go_ret
    exact ⟨ret_bool (by simp [smB]; omega), rfl⟩
theorem isDigitOrHyphen_any (c : Int) (w : World) :
    Calls Tryd.prog 120 #[.int .i32 c] w fun e w' => e = .returned (.bool (dhB c)) ∧ w = w' := by
  by_cases h : 48 ≤ c
  · by_cases h2 : c ≤ 57
    · go_enter Tryd.func120, Tryd.ntmps120
      go_wp2
      go_ret
      exact ⟨ret_bool (by simp [dhB, h, h2]), rfl⟩
    · have h3 : (c == 45) = false := by simp; omega
      go_enter Tryd.func120, Tryd.ntmps120
      go_wp2
      go_ret
      exact ⟨ret_bool (by simp [dhB]; omega), rfl⟩
  · go_enter Tryd.func120, Tryd.ntmps120
    go_wp2
    go_ret
    exact ⟨ret_bool (by rw [Bool.eq_iff_iff]; simp [dhB]; omega), rfl⟩

theorem empty_yes {s : ByteArray} (h : s.size = 0) : s.toList.isEmpty = true := by
  rw [ByteArray.toList_eq]
  have : s.data.toList.length = 0 := h
  rw [List.isEmpty_iff]
  exact List.length_eq_zero_iff.1 this
theorem empty_no {s : ByteArray} (h : s.size ≠ 0) : s.toList.isEmpty = false := by
  rw [ByteArray.toList_eq]
  have : s.data.toList.length ≠ 0 := h
  rw [List.isEmpty_eq_false_iff]
  exact fun e => this (by rw [e]; rfl)
theorem nameB_no (s : ByteArray) (h : s.size = 0 ∨ 12 < s.size ∨ smB (at' s 0) = false ∨ ∃ j, j < s.size ∧ (smB (at' s j) || dhB (at' s j)) = false) : false = nameB s := by
  symm
  unfold nameB
  rw [decide_eq_false_iff_not]
  rintro ⟨h1, h2, h3, h4⟩
  rcases h with h | h | h | ⟨j, hj, h⟩
  · exact h1 h
  · omega
  · rw [h] at h3; cases h3
  · rw [h4 j hj] at h; cases h
theorem nameB_yes (s : ByteArray) (h1 : s.size ≠ 0) (h2 : s.size ≤ 12) (h3 : smB (at' s 0) = true) (h4 : ∀ j, j < s.size → (smB (at' s j) || dhB (at' s j)) = true) : true = nameB s := by
  symm
  unfold nameB
  rw [decide_eq_true_iff]
  exact ⟨h1, h2, h3, h4⟩
theorem dh_of {c : Int} (h1 : dgB c = false) (h2 : (c != 45) = true) : dhB c = false := by
  simp [dgB, dhB] at *; omega
theorem dh_of1 {c : Int} (h1 : dgB c = true) : dhB c = true := by simp [dgB, dhB] at *; omega
theorem dh_of2 {c : Int} (h1 : (c != 45) = false) : dhB c = true := by simp [dhB] at *; omega

set_option maxHeartbeats 1000000 in
theorem IsNameS_any (s : ByteArray) (w : World) (hs : s.size ≤ maxLen) :
    Calls Tryd.prog 69 #[.string s] w fun e w' => e = .returned (.bool (nameB s)) ∧ w = w' := by
  unfold maxLen at hs
  by_cases h0 : s.size = 0
  · have HN := Lib.hid (nameB_no s (.inl h0))
    have he := empty_yes h0
    go_enter Tryd.func69, Tryd.ntmps69
    go_wp2_with fail
    go_ret
    exact ⟨ret_bool HN.out, rfl⟩
  · have he := empty_no h0
    have hp : 0 < s.size := by omega
    by_cases h12 : 12 < s.size
    · have HN := Lib.hid (nameB_no s (.inr (.inl h12)))
      go_enter Tryd.func69, Tryd.ntmps69
      go_wp2_with fail
      go_ret
      exact ⟨ret_bool HN.out, rfl⟩
    · cases hsm : smB (at' s 0)
      · have HN := Lib.hid (nameB_no s (.inr (.inr (.inl hsm))))
        have h00 : smB ((s[0].toNat : Nat) : Int) = false := by rw [← at_eq hp]; exact hsm
        clear hsm
        go_enter Tryd.func69, Tryd.ntmps69
        go_wp2_with fail
        refine (l01Small_any _ _).mono ?_
        rintro e w1 ⟨rfl, rfl⟩
        go_wp2_with fail
        go_ret
        exact ⟨ret_bool HN.out, rfl⟩
      · have h00 : smB ((s[0].toNat : Nat) : Int) = true := by rw [← at_eq hp]; exact hsm
        have HSM := Lib.hid hsm
        clear hsm
        go_enter Tryd.func69, Tryd.ntmps69
        go_wp2_with fail
        refine (l01Small_any _ _).mono ?_
        rintro e w1 ⟨rfl, rfl⟩
        go_wp2_with fail
        go_loop [3] (fun i => ∃ k : Nat, k ≤ s.size ∧ i = .int .i64 k ∧ ∀ j, j < k → (smB (at' s j) || dhB (at' s j)) = true) (fun i => s.size - (intOf i).toNat)
        case atStart => exact ⟨0, Nat.zero_le _, rfl, fun j h => by omega⟩
        case round =>
          obtain ⟨k, hk, rfl, hall⟩ := hrel
          have HA := Lib.hid hall
          clear hall
          by_cases hlt : k < s.size
          · cases c1 : smB ((s[k].toNat : Nat) : Int)
            · cases c2 : dgB ((s[k].toNat : Nat) : Int)
              · cases c3 : (((s[k].toNat : Nat) : Int) != 45)
                · have HX := Lib.hid (show (smB (at' s k) || dhB (at' s k)) = true by rw [at_eq hlt, dh_of2 c3]; simp)
                  go_wp2_with fail
                  refine (l01Small_any _ _).mono ?_
                  rintro e w1 ⟨rfl, rfl⟩
                  go_wp2_with fail
                  refine (l01Digit_any _ _).mono ?_
                  rintro e w1 ⟨rfl, rfl⟩
                  go_wp2_with fail
                  go_round
                  case rel => exact ⟨k + 1, by omega, by go_num, fun j hj => by rcases Nat.lt_succ_iff_lt_or_eq.1 hj with h | h; exact HA.out j h; rw [h]; exact HX.out⟩
                  case measure => simp [intOf]; omega
                · have HN := Lib.hid (nameB_no s (.inr (.inr (.inr ⟨k, hlt, by rw [at_eq hlt, c1, dh_of c2 c3]; rfl⟩))))
                  go_wp2_with fail
                  refine (l01Small_any _ _).mono ?_
                  rintro e w1 ⟨rfl, rfl⟩
                  go_wp2_with fail
                  refine (l01Digit_any _ _).mono ?_
                  rintro e w1 ⟨rfl, rfl⟩
                  go_wp2_with fail
                  go_ret
                  exact ⟨ret_bool HN.out, rfl⟩
              · have HX := Lib.hid (show (smB (at' s k) || dhB (at' s k)) = true by rw [at_eq hlt, dh_of1 c2]; simp)
                go_wp2_with fail
                refine (l01Small_any _ _).mono ?_
                rintro e w1 ⟨rfl, rfl⟩
                go_wp2_with fail
                refine (l01Digit_any _ _).mono ?_
                rintro e w1 ⟨rfl, rfl⟩
                go_wp2_with fail
                go_round
                case rel => exact ⟨k + 1, by omega, by go_num, fun j hj => by rcases Nat.lt_succ_iff_lt_or_eq.1 hj with h | h; exact HA.out j h; rw [h]; exact HX.out⟩
                case measure => simp [intOf]; omega
            · have HX := Lib.hid (show (smB (at' s k) || dhB (at' s k)) = true by rw [at_eq hlt, c1]; simp)
              go_wp2_with fail
              refine (l01Small_any _ _).mono ?_
              rintro e w1 ⟨rfl, rfl⟩
              go_wp2_with fail
              go_round
              case rel => exact ⟨k + 1, by omega, by go_num, fun j hj => by rcases Nat.lt_succ_iff_lt_or_eq.1 hj with h | h; exact HA.out j h; rw [h]; exact HX.out⟩
              case measure => simp [intOf]; omega
          · have HN := Lib.hid (nameB_yes s h0 (by omega) HSM.out (fun j hj => HA.out j (by omega)))
            go_wp2_with fail
            go_ret
            exact ⟨ret_bool HN.out, rfl⟩
end Go.Proofs.YtpbepibklipfpaaDoor

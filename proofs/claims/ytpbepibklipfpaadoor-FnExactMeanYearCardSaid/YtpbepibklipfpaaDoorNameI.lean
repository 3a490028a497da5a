/-
  The contract of impl.IsName, and the walk of laws.FnExactIsName.
-/
import Derived.Test.YtpbepibklipfpaaDoorName
namespace Go.Proofs.YtpbepibklipfpaaDoor
open Go.RowKit

theorem bIter (w : World) (s : ByteArray) (k : Nat) : Below w.heap.size w (w.iter s k) := bA (bR _) _
theorem high_no {c : Int} (h : 128 ≤ c) : smB c = false ∧ dhB c = false := by simp [smB, dhB]; omega

set_option maxHeartbeats 2000000 in
theorem IsNameI_any (s : ByteArray) (w : World) (hs : s.size ≤ maxLen) :
    Calls Tryd.prog 97 #[.string s] w fun e w' => e = .returned (.bool (nameB s)) ∧ Below w.heap.size w w' := by
  unfold maxLen at hs
  by_cases h0 : s.size = 0
  · have HN := Lib.hid (nameB_no s (.inl h0))
    have h0' : s.size < 1 := by omega
    clear h0
    go_enter Tryd.func97, Tryd.ntmps97
    go_wp2_with fail
    go_ret
    exact ⟨ret_bool HN.out, bR _⟩
  · by_cases h12 : 12 < s.size
    · have HN := Lib.hid (nameB_no s (.inr (.inl h12)))
      go_enter Tryd.func97, Tryd.ntmps97
      go_wp2_with fail
      go_ret
      exact ⟨ret_bool HN.out, bR _⟩
    · have hp : 0 < s.size := by omega
      go_enter Tryd.func97, Tryd.ntmps97
      go_wp2_with fail
      go_loopw [] (fun wr => ∃ k : Nat, k ≤ s.size ∧ wr = w.iter s k ∧ (∀ j, j < k → (smB (at' s j) || dhB (at' s j)) = true) ∧ (0 < k → smB (at' s 0) = true)) (fun wr => s.size - wr.iterPos w.heap.size)
      case atStart => exact ⟨0, Nat.zero_le _, rfl, fun j h => by omega, fun h => by omega⟩
      case round =>
        obtain ⟨k, hk, rfl, hall, hfst⟩ := hrel
        have HA := Lib.hid hall
        have HF := Lib.hid hfst
        clear hall hfst
        by_cases hlt : k < s.size
        · by_cases hasc : s[k].toNat < 128
          · have hnx : ∀ ty, (Instr.next (.pointer (some ⟨w.heap.size, 0, none⟩)) true ty).run Tryd.prog (w.iter s k) = _ := fun ty => run_next_ascii w s k ty hlt hasc
            cases c1 : smB ((s[k].toNat : Nat) : Int)
            · by_cases hz : k = 0
              · subst hz
                have HN := Lib.hid (nameB_no s (.inr (.inr (.inl (by rw [at_eq hlt]; exact c1)))))
                go_wp2_with fail
                refine (isLetter_any _ _).mono ?_
                rintro e w1 ⟨rfl, rfl⟩
                go_wp2_with fail
                go_ret
                exact ⟨ret_bool HN.out, bIter _ _ _⟩
              · have hz' : ((k : Int) == 0) = false := by simp; omega
                cases c2 : dhB ((s[k].toNat : Nat) : Int)
                · have HN := Lib.hid (nameB_no s (.inr (.inr (.inr ⟨k, hlt, by rw [at_eq hlt, c1, c2]; rfl⟩))))
                  go_wp2_with fail
                  refine (isLetter_any _ _).mono ?_
                  rintro e w1 ⟨rfl, rfl⟩
                  go_wp2_with fail
                  refine (isDigitOrHyphen_any _ _).mono ?_
                  rintro e w1 ⟨rfl, rfl⟩
                  go_wp2_with fail
                  go_ret
                  exact ⟨ret_bool HN.out, bIter _ _ _⟩
                · have HX := Lib.hid (show (smB (at' s k) || dhB (at' s k)) = true by rw [at_eq hlt, c2]; simp)
                  have HY := Lib.hid (show 0 < k + 1 → smB (at' s 0) = true from fun _ => HF.out (by omega))
                  go_wp2_with fail
                  refine (isLetter_any _ _).mono ?_
                  rintro e w1 ⟨rfl, rfl⟩
                  go_wp2_with fail
                  refine (isDigitOrHyphen_any _ _).mono ?_
                  rintro e w1 ⟨rfl, rfl⟩
                  go_wp2_with fail
                  go_roundw
                  case rel => exact ⟨k + 1, by omega, rfl, fun j hj => by rcases Nat.lt_succ_iff_lt_or_eq.1 hj with h | h; exact HA.out j h; rw [h]; exact HX.out, HY.out⟩
                  case measure => simp; omega
            · have HX := Lib.hid (show (smB (at' s k) || dhB (at' s k)) = true by rw [at_eq hlt, c1]; simp)
              have HY := Lib.hid (show 0 < k + 1 → smB (at' s 0) = true from fun _ => by by_cases hz : k = 0; (subst hz; rw [at_eq hlt]; exact c1); exact HF.out (by omega))
              go_wp2_with fail
              refine (isLetter_any _ _).mono ?_
              rintro e w1 ⟨rfl, rfl⟩
              go_wp2_with fail
              go_roundw
              case rel => exact ⟨k + 1, by omega, rfl, fun j hj => by rcases Nat.lt_succ_iff_lt_or_eq.1 hj with h | h; exact HA.out j h; rw [h]; exact HX.out, HY.out⟩
              case measure => simp; omega
          · have hnx : ∀ ty, (Instr.next (.pointer (some ⟨w.heap.size, 0, none⟩)) true ty).run Tryd.prog (w.iter s k) = _ := fun ty => run_next_any w s k ty hlt
            have hhi := (decode_high s k hlt (by omega)).1
            generalize (Utf8.decode s k).1 = rn at *
            generalize (Utf8.decode s k).2 = wd at *
            obtain ⟨c1, c2⟩ := high_no (c := (rn : Int)) (by omega)
            obtain ⟨g1, g2⟩ := high_no (c := ((s[k].toNat : Nat) : Int)) (by omega)
            have HN := Lib.hid (nameB_no s (.inr (.inr (.inr ⟨k, hlt, by rw [at_eq hlt, g1, g2]; rfl⟩))))
            clear g1 g2
            by_cases hz : k = 0
            · subst hz
              go_wp2_with fail
              refine (isLetter_any _ _).mono ?_
              rintro e w1 ⟨rfl, rfl⟩
              go_wp2_with fail
              go_ret
              exact ⟨ret_bool HN.out, bIter _ _ _⟩
            · have hz' : ((k : Int) == 0) = false := by simp; omega
              go_wp2_with fail
              refine (isLetter_any _ _).mono ?_
              rintro e w1 ⟨rfl, rfl⟩
              go_wp2_with fail
              refine (isDigitOrHyphen_any _ _).mono ?_
              rintro e w1 ⟨rfl, rfl⟩
              go_wp2_with fail
              go_ret
              exact ⟨ret_bool HN.out, bIter _ _ _⟩
        · have hnx : ∀ ty, (Instr.next (.pointer (some ⟨w.heap.size, 0, none⟩)) true ty).run Tryd.prog (w.iter s k) = _ := fun ty => run_next_end w s k ty hlt
          have HN := Lib.hid (nameB_yes s h0 (by omega) (HF.out (by omega)) (fun j hj => HA.out j (by omega)))
          go_wp2_with fail
          go_ret
          exact ⟨ret_bool HN.out, bIter _ _ _⟩

end Go.Proofs.YtpbepibklipfpaaDoor

/-
  The contract of spec.RatioOfPath.
-/
import Derived.Test.YtgmedfpklgjgoaaDoorRopM
import Derived.Test.YtgmedfpklgjgoaaDoorBox
import Derived.Laws.BytesArg
namespace Go.Proofs.YtgmedfpklgjgoaaDoor
open Go.RowKit

def RopRet (w : World) (l : List UInt8) (e : Ending) (w' : World) : Prop := e = .returned (.tuple #[.agg #[.int .i64 (rpN l), .int .i64 (rpD l)], .int .i64 (rpC l)]) ∧ Below w.heap.size w w'
theorem at_get (s : ByteArray) (k : Nat) (h : k < s.size) : s.data.toList[k]? = some s[k] := by
  have h' : k < s.data.toList.length := by simpa using h
  rw [List.getElem?_eq_getElem h']; rfl
theorem at_drop (s : ByteArray) (k : Nat) (h : k < s.size) : s.data.toList.drop k = s[k] :: s.data.toList.drop (k + 1) := by
  have h' : k < s.data.toList.length := by simpa using h
  rw [List.drop_eq_getElem_cons h']; rfl
theorem sz_eq (s : ByteArray) : s.data.toList.length = s.size := Array.length_toList
/-- The three kinds of letters. -/
theorem letter (c : UInt8) : (((c.toNat : Nat) : Int) = 76 ∧ c = 76) ∨ (¬ ((c.toNat : Nat) : Int) = 76 ∧ ((c.toNat : Nat) : Int) = 82 ∧ c = 82) ∨ (¬ ((c.toNat : Nat) : Int) = 76 ∧ ¬ ((c.toNat : Nat) : Int) = 82 ∧ c ≠ 76 ∧ c ≠ 82) := by
  by_cases h1 : c = 76
  · subst h1; left; exact ⟨rfl, rfl⟩
  · have e1 : ¬ ((c.toNat : Nat) : Int) = 76 := fun e => h1 (UInt8.toNat_inj.1 (show c.toNat = 76 by omega))
    by_cases h2 : c = 82
    · subst h2; right; left; exact ⟨e1, rfl, rfl⟩
    · have e2 : ¬ ((c.toNat : Nat) : Int) = 82 := fun e => h2 (UInt8.toNat_inj.1 (show c.toNat = 82 by omega))
      right; right; exact ⟨e1, e2, h1, h2⟩
theorem lr_bad {s : ByteArray} {k : Nat} (h : k < s.size) (h1 : s[k] ≠ 76) (h2 : s[k] ≠ 82) : lr s.data.toList = false := by
  cases hl : lr s.data.toList
  · rfl
  · unfold lr at hl
    rw [List.all_eq_true] at hl
    have := hl s[k] (List.mem_of_getElem? (at_get s k h))
    simp [h1, h2] at this
theorem lr_good {s : ByteArray} (h : ∀ k (hk : k < s.size), s[k] = 76 ∨ s[k] = 82) : lr s.data.toList = true := by
  unfold lr
  rw [List.all_eq_true]
  intro b hb
  obtain ⟨k, hk⟩ := List.mem_iff_getElem?.1 hb
  have hl : k < s.size := by have := (List.getElem?_eq_some_iff.1 hk).1; rw [sz_eq] at this; exact this
  rw [at_get s k hl] at hk
  have := h k hl
  rw [← Option.some.inj hk]
  rcases this with e | e <;> rw [e] <;> rfl
def OkTo (s : ByteArray) (k : Nat) : Prop := ∀ j (hj : j < s.size), j < k → s[j] = 76 ∨ s[j] = 82
def RpRel (s : ByteArray) (va vb vc vd vi : Value) : Prop :=
  ∃ (k : Nat) (a b c d : Int), k ≤ s.size ∧ vi = .int .i64 k ∧ va = .int .i64 a ∧ vb = .int .i64 b ∧ vc = .int .i64 c ∧ vd = .int .i64 d ∧ RpI ⟨a, b, c, d⟩ ∧ rp s.data.toList rp0 = rp (s.data.toList.drop k) ⟨a, b, c, d⟩
set_option maxRecDepth 100000 in
set_option maxHeartbeats 8000000 in
theorem RatioOfPathS_any (s : ByteArray) (w : World) (hs : s.size ≤ 1048576) :
    Calls Tryd.prog 10 #[.string s] w (RopRet w s.data.toList) := by
  have hsz := sz_eq s
  have B0 := Lib.hid (Box2.new w 0 0 25)
  have L0 := Lib.hid (bA (bR w) (.cells #[.int .i64 0, .int .i64 0] 25))
  by_cases hlong : 200 < s.size
  · have HR := Lib.hid (rp_long (l := s.data.toList) (by omega))
    clear hsz
    go_enter Tryd.func10, Tryd.ntmps10
    go_wp2_with fail
    exact bodyPost_ret (v := .tuple #[.agg #[.int .i64 0, .int .i64 0], .int .i64 5]) (by simp [results, Tryd.results10, go_sem]) rfl ⟨ret_rc HR.out.1.symm HR.out.2.1.symm HR.out.2.2.symm, L0.out⟩
  · have HL := Lib.hid (show ¬ 200 < s.data.toList.length by omega)
    have hs2 : s.size ≤ 200 := by omega
    clear hsz hlong hs
    go_enter Tryd.func10, Tryd.ntmps10
    go_wp2_with fail
    go_loop [4] (fun i => ∃ k : Nat, k ≤ s.size ∧ i = .int .i64 k ∧ OkTo s k) (fun i => s.size - (intOf i).toNat)
    case atStart => exact ⟨0, Nat.zero_le _, rfl, fun j _ h => by omega⟩
    case round =>
      obtain ⟨k, hk, rfl, hok⟩ := hrel
      have HOK := Lib.hid hok
      clear hok
      by_cases hlt : k < s.size
      · rcases letter s[k] with ⟨h1, h2⟩ | ⟨h1, h2, h3⟩ | ⟨h1, h2, h3, h4⟩
        · have z1 : (((s[k].toNat : Nat) : Int) != 76) = false := by rw [h1]; rfl
          have HN := Lib.hid (show OkTo s (k + 1) from fun j hj hl => by rcases Nat.lt_succ_iff_lt_or_eq.1 hl with h | rfl; exact HOK.out j hj h; exact .inl h2)
          clear h1 h2
          go_wp2_with fail
          go_round
          case rel => exact ⟨k + 1, by omega, by go_num, HN.out⟩
          case measure => simp [intOf]; omega
        · have z1 : (((s[k].toNat : Nat) : Int) != 76) = true := by rw [bne_iff_ne]; exact h1
          have z2 : (((s[k].toNat : Nat) : Int) != 82) = false := by rw [h2]; rfl
          have HN := Lib.hid (show OkTo s (k + 1) from fun j hj hl => by rcases Nat.lt_succ_iff_lt_or_eq.1 hl with h | rfl; exact HOK.out j hj h; exact .inr h3)
          clear h1 h2 h3
          go_wp2_with fail
          go_round
          case rel => exact ⟨k + 1, by omega, by go_num, HN.out⟩
          case measure => simp [intOf]; omega
        · have z1 : (((s[k].toNat : Nat) : Int) != 76) = true := by rw [bne_iff_ne]; exact h1
          have z2 : (((s[k].toNat : Nat) : Int) != 82) = true := by rw [bne_iff_ne]; exact h2
          have HR := Lib.hid (rp_syn HL.out (lr_bad hlt h3 h4))
          clear h1 h2 h3 h4
          go_wp2_with fail
          exact bodyPost_ret (v := .tuple #[.agg #[.int .i64 0, .int .i64 0], .int .i64 7]) (by simp [results, Tryd.results10, go_sem]) rfl ⟨ret_rc HR.out.1.symm HR.out.2.1.symm HR.out.2.2.symm, L0.out⟩
      · obtain rfl : k = s.size := by omega
        have HLR := Lib.hid (lr_good fun k hk => HOK.out k hk hk)
        have RS := Lib.hid (show RpRel s (.int .i64 0) (.int .i64 1) (.int .i64 1) (.int .i64 0) (.int .i64 0) from ⟨0, 0, 1, 1, 0, Nat.zero_le _, rfl, rfl, rfl, rfl, rfl, rpI_start, rfl⟩)
        clear HOK
        go_wp2_with fail
        go_loop [5, 6, 7, 8, 9] (fun a b c d i => RpRel s a b c d i) (fun _ _ _ _ i => s.size - (intOf i).toNat)
        case atStart => exact RS.out
        case round =>
          obtain ⟨k, a, b, c, d, hk2, rfl, rfl, rfl, rfl, rfl, hI, hrp⟩ := hrel
          have HI := Lib.hid hI
          have HRP := Lib.hid hrp
          obtain ⟨a0, b0, c0, d0, _, ac, bd, sm, sm2⟩ := hI
          simp only [] at a0 b0 c0 d0 ac bd sm sm2
          clear hrp
          by_cases hlt : k < s.size
          · have HD := Lib.hid (at_drop s k hlt)
            by_cases h1 : s[k] = 76
            · have z : (((s[k].toNat : Nat) : Int) == 76) = true := by rw [h1]; rfl
              have HST := Lib.hid (show rpStep ⟨a, b, c, d⟩ s[k] = ⟨a, b, c + a, d + b⟩ by unfold rpStep; rw [if_pos h1])
              clear h1
              by_cases hb1 : 1000000000 < a + (c + a)
              · have HR := Lib.hid (rp_none HL.out HLR.out (by rw [HRP.out, HD.out]; exact rp_no (by rw [HST.out]; simp [rpBig, hb1])))
                go_wp2_with fail
                exact bodyPost_ret (v := .tuple #[.agg #[.int .i64 0, .int .i64 0], .int .i64 2]) (by simp [results, Tryd.results10, go_sem]) rfl ⟨ret_rc HR.out.1.symm HR.out.2.1.symm HR.out.2.2.symm, L0.out⟩
              · by_cases hb2 : 1000000000 < b + (d + b)
                · have HR := Lib.hid (rp_none HL.out HLR.out (by rw [HRP.out, HD.out]; exact rp_no (by rw [HST.out]; simp [rpBig, hb2])))
                  go_wp2_with fail
                  exact bodyPost_ret (v := .tuple #[.agg #[.int .i64 0, .int .i64 0], .int .i64 2]) (by simp [results, Tryd.results10, go_sem]) rfl ⟨ret_rc HR.out.1.symm HR.out.2.1.symm HR.out.2.2.symm, L0.out⟩
                · have hbig : rpBig (rpStep ⟨a, b, c, d⟩ s[k]) = false := by rw [HST.out]; simp [rpBig]; omega
                  have HN := Lib.hid (rpI_step HI.out s[k] hbig)
                  have HG := Lib.hid (show rp s.data.toList rp0 = rp (s.data.toList.drop (k + 1)) ⟨a, b, c + a, d + b⟩ by rw [HRP.out, HD.out, rp_go hbig, HST.out])
                  clear hbig
                  go_wp2_with fail
                  go_round
                  case rel => exact ⟨k + 1, a, b, c + a, d + b, by omega, by go_num, rfl, rfl, rfl, rfl, by have := HN.out; rw [HST.out] at this; exact this, HG.out⟩
                  case measure => simp [intOf]; omega
            · have z : (((s[k].toNat : Nat) : Int) == 76) = false := by rw [beq_eq_false_iff_ne]; exact fun e => h1 (UInt8.toNat_inj.1 (show s[k].toNat = 76 by omega))
              have HST := Lib.hid (show rpStep ⟨a, b, c, d⟩ s[k] = ⟨a + c, b + d, c, d⟩ by unfold rpStep; rw [if_neg h1])
              clear h1
              by_cases hb1 : 1000000000 < a + c + c
              · have HR := Lib.hid (rp_none HL.out HLR.out (by rw [HRP.out, HD.out]; exact rp_no (by rw [HST.out]; simp [rpBig, hb1])))
                go_wp2_with fail
                exact bodyPost_ret (v := .tuple #[.agg #[.int .i64 0, .int .i64 0], .int .i64 2]) (by simp [results, Tryd.results10, go_sem]) rfl ⟨ret_rc HR.out.1.symm HR.out.2.1.symm HR.out.2.2.symm, L0.out⟩
              · by_cases hb2 : 1000000000 < b + d + d
                · have HR := Lib.hid (rp_none HL.out HLR.out (by rw [HRP.out, HD.out]; exact rp_no (by rw [HST.out]; simp [rpBig, hb2])))
                  go_wp2_with fail
                  exact bodyPost_ret (v := .tuple #[.agg #[.int .i64 0, .int .i64 0], .int .i64 2]) (by simp [results, Tryd.results10, go_sem]) rfl ⟨ret_rc HR.out.1.symm HR.out.2.1.symm HR.out.2.2.symm, L0.out⟩
                · have hbig : rpBig (rpStep ⟨a, b, c, d⟩ s[k]) = false := by rw [HST.out]; simp [rpBig]; omega
                  have HN := Lib.hid (rpI_step HI.out s[k] hbig)
                  have HG := Lib.hid (show rp s.data.toList rp0 = rp (s.data.toList.drop (k + 1)) ⟨a + c, b + d, c, d⟩ by rw [HRP.out, HD.out, rp_go hbig, HST.out])
                  clear hbig
                  go_wp2_with fail
                  go_round
                  case rel => exact ⟨k + 1, a + c, b + d, c, d, by omega, by go_num, rfl, rfl, rfl, rfl, by have := HN.out; rw [HST.out] at this; exact this, HG.out⟩
                  case measure => simp [intOf]; omega
          · obtain rfl : k = s.size := by omega
            have HR := Lib.hid (rp_some HL.out HLR.out (s := ⟨a, b, c, d⟩) (by rw [HRP.out, List.drop_of_length_le (by rw [sz_eq]; exact Nat.le_refl _)]; rfl))
            go_wp2_with fail
            exact bodyPost_ret (v := .tuple #[.agg #[.int .i64 (a + c), .int .i64 (b + d)], .int .i64 0]) (by simp [results, Tryd.results10, go_sem]) rfl ⟨ret_rc HR.out.1.symm HR.out.2.1.symm HR.out.2.2.symm, bA (bR w) _⟩
end Go.Proofs.YtgmedfpklgjgoaaDoor

/-
  Least numbers by sort.Search: impl.leastUpTo, with a function that holds three boxes.
-/
import Derived.Test.YtkagciekoeaijaaEsK
namespace Go.Proofs.Ytkagciekoeaijaa
open Go.RowKit

/-- What a function value answers, from world w on: p at each number up to n. -/
def AnsrS (p : Nat → Bool) (n : Nat) (b1 b2 b3 : Nat) (w : World) : Prop :=
  ∀ (j : Nat) (W : World), j < n → Below w.heap.size w W → Calls Try.prog 56 #[.int .i64 j, .pointer (some ⟨b1, 0, none⟩), .pointer (some ⟨b2, 0, none⟩), .pointer (some ⟨b3, 0, none⟩)] W (BoolBel (p j) W)
set_option maxRecDepth 100000 in
set_option maxHeartbeats 2000000 in
theorem least1_anyS (p : Nat → Bool) (n b j : Nat) (b1 b2 b3 : Nat) (w W : World) (hf : AnsrS p n b1 b2 b3 w) (hj : j < n) (hW : Below w.heap.size w W) (hc : W.cell? ⟨b, 0, none⟩ = some (.func (.func 56) #[] #[.pointer (some ⟨b1, 0, none⟩), .pointer (some ⟨b2, 0, none⟩), .pointer (some ⟨b3, 0, none⟩)])) :
    Calls Try.prog 66 #[.int .i64 j, .pointer (some ⟨b, 0, none⟩)] W (BoolBel (p j) W) := by
  have HC := Lib.hid (hf j W hj hW)
  clear hf hj hW
  go_enter Try.func66, Try.ntmps66
  go_wp2_with fail
  refine HC.out.mono ?_
  rintro en w1 ⟨rfl, hb⟩
  go_wp2_with fail
  go_ret
  exact ⟨rfl, hb⟩
set_option maxRecDepth 100000 in
set_option maxHeartbeats 4000000 in
theorem search_anyS (p : Nat → Bool) (n b : Nat) (b1 b2 b3 : Nat) (w : World) (hn : n ≤ 1000000) (hf : AnsrS p n b1 b2 b3 w) (hm : ∀ x y, x ≤ y → p x = true → p y = true) (hb : b < w.heap.size) (hc : w.cell? ⟨b, 0, none⟩ = some (.func (.func 56) #[] #[.pointer (some ⟨b1, 0, none⟩), .pointer (some ⟨b2, 0, none⟩), .pointer (some ⟨b3, 0, none⟩)])) :
    Calls Try.prog 65 #[.int .i64 n, .func (.func 66) #[] #[.pointer (some ⟨b, 0, none⟩)]] w (IntBl (lstU p n) w) := by
  have CL := Lib.hid (fun (j : Nat) (W : World) (hj : j < n) (hW : Below w.heap.size w W) => least1_anyS p n b j b1 b2 b3 w W hf hj hW ((hW.cell (p := ⟨b, 0, none⟩) hb).trans hc))
  have MO := Lib.hid hm
  clear hf hc hb hm
  go_enter Try.func65, Try.ntmps65
  go_wp2_with fail
  go_loopw [5, 6] (fun v5 v6 wr => ∃ lo hi : Nat, v5 = .int .i64 lo ∧ v6 = .int .i64 hi ∧ lo ≤ hi ∧ hi ≤ n ∧ ((∀ j, j < lo → p j = false) ∧ (∀ j, hi ≤ j → j < n → p j = true)) ∧ Below w.heap.size w wr) (fun v5 v6 _ => (intOf v6).toNat - (intOf v5).toNat)
  case atStart => exact ⟨0, n, rfl, rfl, Nat.zero_le _, Nat.le_refl _, ⟨fun j h => absurd h (Nat.not_lt_zero _), fun j h1 h2 => absurd h2 (by omega)⟩, bR _⟩
  case round =>
    obtain ⟨lo, hi, rfl, rfl, hle, hin, hs, hb⟩ := hrel
    have HB := Lib.hid hb
    have HS := Lib.hid hs
    clear hb hs
    by_cases hlt : lo < hi
    · obtain ⟨mid, hmid⟩ : ∃ mid, (lo + hi) / 2 = mid := ⟨_, rfl⟩
      have ec : ((lo : Int) + (hi : Int)) / 2 = (mid : Int) := by omega
      have hm1 : lo ≤ mid := by omega
      have hm2 : mid < hi := by omega
      have A2 := Lib.hid (CL.out mid wr (by omega) HB.out)
      clear hmid
      go_wp2_with fail
      refine A2.out.mono ?_
      rintro en w3 ⟨rfl, hb⟩
      have L := Lib.hid (bT HB.out hb)
      clear hb
      cases hp : p mid
      · have HN := Lib.hid (show ∀ j, j < mid + 1 → p j = false from fun j hj => by
          cases e : p j
          · rfl
          · rw [MO.out j mid (by omega) e] at hp; cases hp)
        go_wp2_with fail
        go_roundw
        case rel => exact ⟨mid + 1, hi, by first | rfl | go_num, rfl, by omega, hin, ⟨HN.out, HS.out.2⟩, L.out⟩
        case measure => simp [intOf]; omega
      · have HN := Lib.hid (show ∀ j, mid ≤ j → j < n → p j = true from fun j hj _ => MO.out mid j hj hp)
        go_wp2_with fail
        go_roundw
        case rel => exact ⟨lo, mid, rfl, by first | rfl | go_num, by omega, by omega, ⟨HS.out.1, HN.out⟩, L.out⟩
        case measure => simp [intOf]; omega
    · obtain rfl : hi = lo := by omega
      have HV := Lib.hid (show (hi : Int) = ((lstU p n : Nat) : Int) by rw [lstU_only hin HS.out.1 HS.out.2])
      go_wp2_with fail
      go_ret
      exact ⟨by rw [← HV.out]; rfl, HB.out⟩
set_option maxRecDepth 100000 in
set_option maxHeartbeats 2000000 in
theorem leastUpTo_anyS (p : Nat → Bool) (n : Nat) (b1 b2 b3 : Nat) (w : World) (hn : n ≤ 100000) (hf : AnsrS p (n + 1) b1 b2 b3 w) (hm : ∀ x y, x ≤ y → p x = true → p y = true) :
    Calls Try.prog 52 #[.int .i64 n, .func (.func 56) #[] #[.pointer (some ⟨b1, 0, none⟩), .pointer (some ⟨b2, 0, none⟩), .pointer (some ⟨b3, 0, none⟩)]] w (TwoBl (luE p n).1 (luE p n).2 w) := by
  have hL : Below w.heap.size w (w.alloc (.cells #[.func (.func 56) #[] #[.pointer (some ⟨b1, 0, none⟩), .pointer (some ⟨b2, 0, none⟩), .pointer (some ⟨b3, 0, none⟩)]] 25)) := bA (bR _) _
  clear hL
  have SE := Lib.hid (fun (T : TypeId) => search_anyS p (n + 1) w.heap.size b1 b2 b3 (w.alloc (.cells #[.func (.func 56) #[] #[.pointer (some ⟨b1, 0, none⟩), .pointer (some ⟨b2, 0, none⟩), .pointer (some ⟨b3, 0, none⟩)]] T)) (by omega) (fun j W hj hW => hf j W hj ((bA (bR w) _).trans (hW.mono (by simp)))) hm (by simp) (by simp [go_sem]))
  have hle := lstU_le (p := p) (n + 1)
  have h3 := Lib.hid (luE_3 (p := p) (n := n))
  have h0 := Lib.hid (luE_0 (p := p) (n := n))
  clear hf hm
  generalize lstU p (n + 1) = r at *
  have en : ((n + 1 : Nat) : Int) = (n : Int) + 1 := by omega
  rw [en] at SE
  go_enter Try.func52, Try.ntmps52
  go_wp2_with fail
  refine (SE.out _).mono ?_
  rintro e w1 ⟨rfl, hb⟩
  have L := Lib.hid (bT (bA (bR w) _) hb)
  clear hb
  by_cases hr : r = n + 1
  · have HR := Lib.hid (h3.out hr)
    have hgt : (n : Int) < (r : Int) := by omega
    go_wp2_with fail
    go_ret2
    exact ⟨by rw [HR.out]; rfl, L.out⟩
  · have HR := Lib.hid (h0.out hr)
    have hgt : ¬ (n : Int) < (r : Int) := by omega
    go_wp2_with fail
    go_ret2
    exact ⟨by rw [HR.out]; rfl, L.out⟩
end Go.Proofs.Ytkagciekoeaijaa

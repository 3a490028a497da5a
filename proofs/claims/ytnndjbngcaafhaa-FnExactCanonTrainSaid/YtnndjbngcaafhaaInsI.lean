/-
  Sorting a short row of tooth counts in place: cmp.Compare, impl.toothOrder.compare, slices.insertionSortCmpFunc, slices.pdqsortCmpFunc and slices.SortFunc at 12 elements or fewer.
-/
import Derived.Test.YtnndjbngcaafhaaSrt
import Derived.Test.YtnndjbngcaafhaaShelf
import Derived.Sort.WalkA
import Derived.Sort.WalkC
import Derived.BigQuiet
import Derived.Deep.QuietTactic
namespace Go.Proofs.Ytnndjbngcaafhaa
open Go.RowKit Go.Sort

theorem isNaNT_any (x : Int) (w : World) :
    Calls Try.prog 90 #[.int .i64 x] w fun e w' => e = .returned (.bool false) ∧ w = w' := by
  have h : (x != x) = false := by simp
  go_enter Try.func90, Try.ntmps90
  go_wp2
  go_ret
  exact ⟨rfl, rfl⟩
theorem ret_intS {a b : Int} (h : a = b) : Ending.returned (.int .i64 a) = .returned (.int .i64 b) := by rw [h]
theorem cmpT_any (x y : Int) (w : World) :
    Calls Try.prog 69 #[.int .i64 x, .int .i64 y] w fun e w' => e = .returned (.int .i64 (c3 x y)) ∧ w = w' := by
  by_cases h : x < y
  · have HE := Lib.hid (show -1 = c3 x y by simp [c3, h])
    go_enter Try.func69, Try.ntmps69
    go_wp2_with (go_at_call 90; refine (isNaNT_any _ _).mono ?_; rintro e w1 ⟨rfl, rfl⟩)
    go_ret
    exact ⟨ret_intS HE.out, rfl⟩
  · by_cases h2 : y < x
    · have HE := Lib.hid (show 1 = c3 x y by simp [c3, h, h2])
      go_enter Try.func69, Try.ntmps69
      go_wp2_with (go_at_call 90; refine (isNaNT_any _ _).mono ?_; rintro e w1 ⟨rfl, rfl⟩)
      go_ret
      exact ⟨ret_intS HE.out, rfl⟩
    · have HE := Lib.hid (show 0 = c3 x y by simp [c3, h, h2])
      go_enter Try.func69, Try.ntmps69
      go_wp2_with (go_at_call 90; refine (isNaNT_any _ _).mono ?_; rintro e w1 ⟨rfl, rfl⟩)
      go_ret
      exact ⟨ret_intS HE.out, rfl⟩
theorem c3_bd (x y : Int) : -1 ≤ c3 x y ∧ c3 x y ≤ 1 := by unfold c3; split <;> (try split) <;> omega
theorem compareT_any (s x y : Int) (hs : s = 1 ∨ s = -1) (w : World) :
    Calls Try.prog 44 #[.int .i64 s, .int .i64 x, .int .i64 y] w fun e w' => e = .returned (.int .i64 (cfS s x y)) ∧ w = w' := by
  have C := Lib.hid (fun W => cmpT_any x y W)
  obtain ⟨b1, b2⟩ := c3_bd x y
  have HE := Lib.hid (show s * c3 x y = cfS s x y from rfl)
  generalize c3 x y = k at *
  have hw : IntKind.i64.wrap (s * k) = s * k := IntWalk.i64_in _ (by rcases hs with rfl | rfl <;> omega)
  go_enter Try.func44, Try.ntmps44
  go_wp2_with fail
  refine (C.out _).mono ?_
  rintro e w1 ⟨rfl, rfl⟩
  go_wp2_with fail
  go_ret
  exact ⟨ret_intS HE.out, rfl⟩
def encT (x : Int) : Value := .int .i64 x
set_option maxHeartbeats 4000000 in
set_option maxRecDepth 1000000 in
theorem insSort_any (s : Int) (hs : s = 1 ∨ s = -1) (blk off cap : Nat) (d : Array Int) (w : World) (hH : Holds encT w blk off d) (hsz : d.size ≤ 12) :
    Calls Try.prog 80 #[.slice (some ⟨blk, off, none⟩) d.size cap, .int .i64 0, .int .i64 d.size, .func (.func 44) #[.int .i64 s] #[]] w fun e w' =>
      e = .returned (.tuple #[]) ∧ ∃ n, w' = (putRow encT w blk off (Sort.insertionSort (ltS s) d 0 d.size)).drewN n := by
  have HST := Lib.hid (show w = (putRow encT w blk off d).drewN 0 from (putRow_self encT w blk off d hH).symm)
  have HH := Lib.hid hH
  have HC := Lib.hid (fun x y W => (compareT_any s x y hs W).mono fun _ _ ⟨h1, h2⟩ => And.intro h1 h2.symm)
  clear hH
  go_enter Try.func80, Try.ntmps80
  go_wp2_with fail
  go_loopw [8] (fun vi wr => ∃ (i n : Nat) (dk : Array Int), vi = .int .i64 i ∧ 0 < i ∧ i ≤ d.size + 1 ∧ dk.size = d.size ∧ wr = (putRow encT w blk off dk).drewN n ∧ Hid (insOuter (ltS s) 0 d.size i dk = insOuter (ltS s) 0 d.size 1 d)) (fun vi _ => d.size + 1 - (intOf vi).toNat)
  case atStart => exact ⟨1, 0, d, by go_num, by omega, by omega, rfl, HST.out, Lib.hid rfl⟩
  case round =>
    obtain ⟨i, n, dk, rfl, hai, hib, hsk, rfl, HO⟩ := hrel
    by_cases hlt : i < d.size
    · have hltz : (i : Int) < (d.size : Int) := by omega
      go_wp2_with fail
      go_loopw [9] (fun vj wr2 => ∃ (j m : Nat) (dj : Array Int), vj = .int .i64 j ∧ j ≤ i ∧ dj.size = d.size ∧ wr2 = (putRow encT w blk off dj).drewN m ∧ Hid (insInner (ltS s) 0 j dj = insInner (ltS s) 0 i dk)) (fun vj _ => (intOf vj).toNat)
      case atStart => exact ⟨i, n, dk, rfl, Nat.le_refl _, hsk, rfl, Lib.hid rfl⟩
      case round =>
        obtain ⟨j, m, dj, rfl, hji, hsj, rfl, HI⟩ := hrel
        have OUT := Lib.hid (show (j ≤ 0 ∨ ltS s dj[j]! dj[j - 1]! = false) → insOuter (ltS s) 0 d.size (i + 1) dj = insOuter (ltS s) 0 d.size 1 d from fun h => by
          rw [← HO.out, insOuter_go _ _ _ _ _ hlt, ← HI.out, insInner_stop _ _ _ _ h])
        by_cases hja : 0 < j
        · have hHj := holds_putRow encT w blk off d dj HH.out hsj
          obtain ⟨xj, hxj⟩ : ∃ x, dj[j]! = x := ⟨_, rfl⟩
          obtain ⟨xp, hxp⟩ : ∃ x, dj[j - 1]! = x := ⟨_, rfl⟩
          obtain ⟨cj, fj⟩ := hHj j (by omega)
          obtain ⟨cp, fp⟩ := hHj (j - 1) (by omega)
          rw [hxj] at cj
          rw [hxp] at cp
          obtain ⟨jp, rfl⟩ : ∃ jp, j = jp + 1 := ⟨j - 1, by omega⟩
          simp only [Nat.add_sub_cancel] at cp fp hxp
          have jz : (jp : Int) + 1 < (d.size : Int) := by omega
          have jz1 : (jp : Int) < (d.size : Int) := by omega
          have jz2 : (0 : Int) < (jp : Int) + 1 := by omega
          have jz3 : decide ((0 : Int) < (jp : Int) + 1) = true := decide_eq_true (by omega)
          have p0 : (0 : Int) ≤ (jp : Int) + 1 := by omega
          have hwp : IntKind.i64.wrap (jp : Int) = (jp : Int) := by rw [IntKind.wrap_i64]; omega
          have e0 : ((jp : Int) + 1).toNat = jp + 1 := by omega
          clear hHj
          have cj' : ((putRow encT w blk off dj).drewN m).cell? ⟨blk, off + (jp + 1), none⟩ = some (.int .i64 xj) := cj
          have cp' : ((putRow encT w blk off dj).drewN m).cell? ⟨blk, off + jp, none⟩ = some (.int .i64 xp) := cp
          have fj' : ((putRow encT w blk off dj).drewN m).frozen? ⟨blk, off + (jp + 1), none⟩ = false := fj
          have fp' : ((putRow encT w blk off dj).drewN m).frozen? ⟨blk, off + jp, none⟩ = false := fp
          clear cj cp fj fp
          have HX := Lib.hid (And.intro hxj hxp)
          clear hxj hxp
          generalize hwq : (putRow encT w blk off dj).drewN m = wq at cj' cp' fj' fp' ⊢
          have HWQ := Lib.hid hwq
          clear hwq
          by_cases hlv : cfS s xj xp < 0
          · have hlv' : decide (cfS s xj xp < 0) = true := decide_eq_true hlv
            go_wp2_with fail
            go_quiet (first | (go_at_call 44; exact Calls.quiet_of_same (HC.out _ _ _)))
            have cj2 : (wq.drewN nq).cell? ⟨blk, off + (jp + 1), none⟩ = some (.int .i64 xj) := cj'
            have cp2 : (wq.drewN nq).cell? ⟨blk, off + jp, none⟩ = some (.int .i64 xp) := cp'
            have fj2 : (wq.drewN nq).frozen? ⟨blk, off + (jp + 1), none⟩ = false := fj'
            have fp2 : (wq.drewN nq).frozen? ⟨blk, off + jp, none⟩ = false := fp'
            have HW2 := Lib.hid (show wq.drewN nq = (putRow encT w blk off dj).drewN (m + nq) by rw [← HWQ.out, World.drewN_drewN])
            have hne : off + jp ≠ off + (jp + 1) := by omega
            have hne2 : off + (jp + 1) ≠ off + jp := by omega
            clear cj' cp' fj' fp' jz3
            go_wp2_with fail
            generalize wq.drewN nq = wq2 at *
            obtain ⟨j1, hj1⟩ : ∃ j1, j1 = jp + 1 := ⟨_, rfl⟩
            rw [← hj1] at cj2 fj2 e0 hne hne2
            have J1 := Lib.hid hj1
            clear hj1
            go_region
            all_goals go_wp2_with fail
            all_goals
              refine ⟨⟨jp, m + nq + 1, swp dj (jp + 1) jp, by first | rfl | go_num | (congr 1; omega), by omega, by rw [size_swp]; exact hsj, ?_, Lib.hid ?_⟩, by simp [intOf]⟩
            · rw [J1.out, HW2.out, ← HX.out.1, ← HX.out.2]
              exact swap_worldC encT w blk off dj (m + nq) (jp + 1) jp (by omega) (by omega)
            · have := insInner_go (ltS s) 0 (jp + 1) dj hja (by simp only [Nat.add_sub_cancel]; rw [HX.out.1, HX.out.2]; exact hlv')
              simp only [Nat.add_sub_cancel] at this
              rw [← HI.out, this]
          · have hlv' : decide (cfS s xj xp < 0) = false := decide_eq_false hlv
            go_wp2_with fail
            go_quiet (first | (go_at_call 44; exact Calls.quiet_of_same (HC.out _ _ _)))
            go_wp2_with fail
            exact ⟨⟨i + 1, m + nq, dj, by go_num, by omega, by omega, hsj, by rw [← HWQ.out, World.drewN_drewN], Lib.hid (OUT.out (Or.inr (by simp only [Nat.add_sub_cancel]; rw [HX.out.1, HX.out.2]; exact hlv')))⟩, by simp [intOf]; omega⟩
        · have hjaz : decide ((0 : Int) < (j : Int)) = false := decide_eq_false (by omega)
          generalize hwq : (putRow encT w blk off dj).drewN m = wq
          go_wp2_with fail
          go_quiet (fail)
          go_wp2_with fail
          exact ⟨⟨i + 1, m + nq, dj, by go_num, by omega, by omega, hsj, by rw [← hwq, World.drewN_drewN], Lib.hid (OUT.out (Or.inl (by omega)))⟩, by simp [intOf]; omega⟩
    · have hltz : ¬ (i : Int) < (d.size : Int) := by omega
      go_wp2_with fail
      go_end0
      exact ⟨rfl, n, by unfold Sort.insertionSort; rw [← HO.out, insOuter_stop _ _ _ _ _ hlt]⟩
end Go.Proofs.Ytnndjbngcaafhaa

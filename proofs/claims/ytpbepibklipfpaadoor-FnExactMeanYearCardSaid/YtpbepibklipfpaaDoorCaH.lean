/-
  The program's side: IsLeapYear, DaysInMonth, DaysInYear, CycleOf, LastDay.
-/
import Derived.Test.YtpbepibklipfpaaDoorCaG
import Derived.Test.YtpbepibklipfpaaDoorCaJ
import Derived.Test.YtpbepibklipfpaaDoorCaF
namespace Go.Proofs.YtpbepibklipfpaaDoor
open Go.RowKit

/-- A calendar lies in the box of a call. -/
def CaH (W0 : World) (nb : Nat) (c : Cal) (a1 : Option Addr) (n1 : Nat) (a2 : Option Addr) (n2 : Nat) (w' : World) : Prop :=
  w'.cell? ⟨nb, 0, none⟩ = some (.string c.nm) ∧ w'.cell? ⟨nb, 1, none⟩ = some (.slice a1 c.ms.length n1) ∧ w'.cell? ⟨nb, 2, none⟩ = some (.slice a2 c.rs.length n2) ∧ w'.cell? ⟨nb, 3, none⟩ = some (.int .i64 c.wk) ∧ nb < w'.heap.size ∧ SlMo w' (.slice a1 c.ms.length n1) c.ms ∧ SlRu w' (.slice a2 c.rs.length n2) c.rs ∧ Below W0.heap.size W0 w'
theorem CaH.keep {W0 : World} {nb : Nat} {c : Cal} {a1 : Option Addr} {n1 : Nat} {a2 : Option Addr} {n2 : Nat} {w' w2 : World} (hb : Below w'.heap.size w' w2) (h : CaH W0 nb c a1 n1 a2 n2 w') : CaH W0 nb c a1 n1 a2 n2 w2 := by
  obtain ⟨a0, a1, a2, a3, e1, e2, e3, e4⟩ := h
  exact ⟨(hb.cell (p := ⟨nb, 0, none⟩) e1).trans a0, (hb.cell (p := ⟨nb, 1, none⟩) e1).trans a1, (hb.cell (p := ⟨nb, 2, none⟩) e1).trans a2, (hb.cell (p := ⟨nb, 3, none⟩) e1).trans a3, Nat.lt_of_lt_of_le e1 hb.size, e2.keep hb, e3.keep hb, bT e4 hb⟩
theorem CaH.drew {W0 : World} {nb : Nat} {c : Cal} {a1 : Option Addr} {n1 : Nat} {a2 : Option Addr} {n2 : Nat} {w' : World} (h : CaH W0 nb c a1 n1 a2 n2 w') : CaH W0 nb c a1 n1 a2 n2 w'.drew := h.keep (bR _).drew
theorem CaH.new (w : World) (c : Cal) (a1 : Option Addr) (n1 : Nat) (a2 : Option Addr) (n2 : Nat) (T : TypeId) (hM : SlMo w (.slice a1 c.ms.length n1) c.ms) (hR : SlRu w (.slice a2 c.rs.length n2) c.rs) : CaH w w.heap.size c a1 n1 a2 n2 (w.alloc (.cells #[.string c.nm, .slice a1 c.ms.length n1, .slice a2 c.rs.length n2, .int .i64 c.wk] T)) := by
  obtain ⟨c0, c1, c2, c3, c4⟩ := (BoxL.new w [.string c.nm, .slice a1 c.ms.length n1, .slice a2 c.rs.length n2, .int .i64 c.wk] T).c4q
  exact ⟨c0, c1, c2, c3, c4, hM.keep (bA (bR _) _), hR.keep (bA (bR _) _), bA (bR _) _⟩
theorem CaH.isC {W0 : World} {nb : Nat} {c : Cal} {a1 : Option Addr} {n1 : Nat} {a2 : Option Addr} {n2 : Nat} {w' : World} (h : CaH W0 nb c a1 n1 a2 n2 w') (hs : c.nm.size ≤ maxLen) : IsC w' (.agg #[.string c.nm, .slice a1 c.ms.length n1, .slice a2 c.rs.length n2, .int .i64 c.wk]) c :=
  ⟨_, _, rfl, hs, h.2.2.2.2.2.1, h.2.2.2.2.2.2.1⟩
theorem CaH.bel {W0 : World} {nb : Nat} {c : Cal} {a1 : Option Addr} {n1 : Nat} {a2 : Option Addr} {n2 : Nat} {w' : World} (h : CaH W0 nb c a1 n1 a2 n2 w') : Below W0.heap.size W0 w' := h.2.2.2.2.2.2.2
theorem isLeapV_any (c : Cal) (y : Int) (x : Value) (w : World) (h : IsC w x c) (hc : okC c = true) (hy : 0 ≤ y) :
    Calls Tryd.prog 147 #[x, .int .i64 y] w (BoolBel (lpY c.rs y) w) := by
  obtain ⟨r1, r2, _, _⟩ := okRu_parts (okC_parts hc).1
  exact isLeap_any c y x w h r1 (by omega) hy
theorem cycleYearsV_any (c : Cal) (v : Value) (w : World) (h : SlRu w v c.rs) (hc : okC c = true) : Calls Tryd.prog 106 #[v] w (OneC (lcA c.rs) w) := by
  obtain ⟨r1, r2, _, _⟩ := okRu_parts (okC_parts hc).1
  exact cycleYears_any c.rs v w h r1 r2
set_option maxRecDepth 100000 in
set_option maxHeartbeats 4000000 in
theorem leapsBefore_any (c : Cal) (n : Nat) (x : Value) (w : World) (h : IsC w x c) (hc : okC c = true) (hn : n ≤ 1000000) :
    Calls Tryd.prog 128 #[x, .int .i64 (n : Int)] w (OneC (lnK c.rs n) w) := by
  have CL := Lib.hid (fun y (hy : 0 ≤ y) x W (h : IsC W x c) => isLeapV_any c y x W h hc hy)
  have CY := Lib.hid (fun v W (h : SlRu W v c.rs) => cycleYearsV_any c v W h hc)
  obtain ⟨r1, r2, r3, r4⟩ := okRu_parts (okC_parts hc).1
  obtain ⟨Y, hY⟩ := Int.eq_ofNat_of_zero_le (show 0 ≤ lcA c.rs by omega)
  have SP := Lib.hid (ln_split r1 hY.symm n)
  have LB := Lib.hid (fun k => lnK_bd c.rs k)
  have LY := Lib.hid (fun k : Nat => lnK_yes (rs := c.rs) (k := k))
  have LN := Lib.hid (fun k : Nat => lnK_no (rs := c.rs) (k := k))
  rw [hY] at r3 r4 CY
  have e1 : ((n : Int) / (Y : Int)) = ((n / Y : Nat) : Int) := by push_cast; rfl
  have e2 : ((n : Int) % (Y : Int)) = ((n % Y : Nat) : Int) := by push_cast; rfl
  have hr : n % Y < Y := Nat.mod_lt _ (by omega)
  have hqY : ((n / Y : Nat) : Int) * lnK c.rs Y ≤ (n : Int) ∧ 0 ≤ ((n / Y : Nat) : Int) * lnK c.rs Y := by
    have h1 := LB.out Y
    have h2 := LB.out n
    have h3 := LB.out (n % Y)
    have h4 := SP.out
    refine ⟨by omega, Int.mul_nonneg (Int.natCast_nonneg _) h1.1⟩
  have v1 : IntKind.i64.wrap (((n / Y : Nat) : Int) * lnK c.rs Y) = ((n / Y : Nat) : Int) * lnK c.rs Y := IntWalk.i64_in _ (by omega)
  have hY0 : ¬ (Y : Int) = 0 := by omega
  have hY1 : (0 : Int) < (Y : Int) := by omega
  have hqn : n / Y ≤ 1000000 := Nat.le_trans (Nat.div_le_self _ _) hn
  obtain ⟨hq1, hq2⟩ := hqY
  clear r1 r2 hY hc
  generalize n / Y = q at *
  generalize n % Y = r at *
  generalize hYI : (Y : Int) = YI at *
  have HYI := Lib.hid hYI
  have E1 := Lib.hid e1
  clear hYI e1
  obtain ⟨u, v, rfl, hs, hM, hR⟩ := h
  obtain ⟨a1, n1, rfl, l1, _⟩ := hM.open
  obtain ⟨a2, n2, rfl, l2, _⟩ := hR.open
  unfold maxLen at l1 l2
  have HSZ := Lib.hid hs
  have H0 := Lib.hid (CaH.new w c a1 n1 a2 n2 34 hM hR)
  clear hM hR hs
  obtain ⟨c0, c1, c2, c3, c4, _, _, _⟩ := H0.out
  go_enter Tryd.func128, Tryd.ntmps128
  go_wp2_with fail
  generalize w.alloc (.cells #[.string c.nm, .slice a1 c.ms.length n1, .slice a2 c.rs.length n2, .int .i64 c.wk] 34) = W0 at *
  generalize w.heap.size = nb at H0 c0 c1 c2 c3 c4 ⊢
  refine (CY.out _ _ H0.out.2.2.2.2.2.2.1).mono ?_
  rintro e w1 ⟨rfl, hb⟩
  have H1 := Lib.hid (H0.out.keep hb)
  clear hb c0 c1 c2 c3 c4
  go_wp2_with fail
  go_loopw [6, 7, 13] (fun a b i wr => ∃ (k : Nat), k ≤ Y ∧ i = .int .i64 k ∧ a = .int .i64 (lnK c.rs k) ∧ b = .int .i64 (lnK c.rs (min k r)) ∧ CaH w nb c a1 n1 a2 n2 wr) (fun _ _ i _ => Y - (intOf i).toNat)
  case atStart => exact ⟨0, by omega, rfl, rfl, by simp [lnK], H1.out⟩
  case round =>
    obtain ⟨k, hk, rfl, rfl, rfl, hH⟩ := hrel
    have H2 := Lib.hid hH
    have b1 := LB.out k
    have b3 := LB.out (min k r)
    have hyi := HYI.out
    clear hH
    obtain ⟨c0, c1, c2, c3, c4, _, _, _⟩ := H2.out
    by_cases hlt : k < Y
    · have C1 := Lib.hid (CL.out (k : Int) (by omega))
      have l1 := Lib.hid (LY.out k)
      have l2 := Lib.hid (LN.out k)
      cases hq : lpY c.rs (k : Int)
      · rw [hq] at C1
        have E := Lib.hid (l2.out hq)
        have E3 := Lib.hid (show lnK c.rs (min (k + 1) r) = lnK c.rs (min k r) by
          by_cases h : k < r
          · rw [show min (k + 1) r = k + 1 by omega, show min k r = k by omega]; exact E.out
          · rw [show min (k + 1) r = r by omega, show min k r = r by omega])
        clear b3
        generalize lnK c.rs (min k r) = s2 at *
        generalize lnK c.rs k = s at *
        go_wp2_with fail
        refine (C1.out _ _ (H2.out.isC HSZ.out)).mono ?_
        rintro e w2 ⟨rfl, hb⟩
        have H3 := Lib.hid (H2.out.keep hb)
        clear hb
        go_wp2_with fail
        go_roundw
        case rel => exact ⟨k + 1, by omega, by go_num, by rw [E.out], by rw [E3.out], H3.out⟩
        case measure => simp [intOf]; omega
      · rw [hq] at C1
        have E := Lib.hid (l1.out hq)
        by_cases hkr : k < r
        · have E3 := Lib.hid (show lnK c.rs (min (k + 1) r) = lnK c.rs (min k r) + 1 by rw [show min (k + 1) r = k + 1 by omega, show min k r = k by omega]; exact E.out)
          generalize lnK c.rs (min k r) = s2 at *
          generalize lnK c.rs k = s at *
          go_wp2_with fail
          refine (C1.out _ _ (H2.out.isC HSZ.out)).mono ?_
          rintro e w2 ⟨rfl, hb⟩
          have H3 := Lib.hid (H2.out.keep hb)
          clear hb
          go_wp2_with fail
          go_roundw
          case rel => exact ⟨k + 1, by omega, by go_num, by rw [E.out], by rw [E3.out], H3.out⟩
          case measure => simp [intOf]; omega
        · have E3 := Lib.hid (show lnK c.rs (min (k + 1) r) = lnK c.rs (min k r) by rw [show min (k + 1) r = r by omega, show min k r = r by omega])
          generalize lnK c.rs (min k r) = s2 at *
          generalize lnK c.rs k = s at *
          go_wp2_with fail
          refine (C1.out _ _ (H2.out.isC HSZ.out)).mono ?_
          rintro e w2 ⟨rfl, hb⟩
          have H3 := Lib.hid (H2.out.keep hb)
          clear hb
          go_wp2_with fail
          go_roundw
          case rel => exact ⟨k + 1, by omega, by go_num, by rw [E.out], by rw [E3.out], H3.out⟩
          case measure => simp [intOf]; omega
    · obtain rfl : k = Y := by omega
      have e1 := E1.out
      have E4 := Lib.hid (show lnK c.rs (min k r) = lnK c.rs r by rw [show min k r = r by omega])
      rw [E4.out] at b3
      rw [E4.out]
      have E5 := Lib.hid SP.out
      generalize lnK c.rs r = s2 at *
      generalize lnK c.rs k = s at *
      go_wp2_with fail
      go_ret
      exact ⟨by rw [E5.out]; rfl, H2.out.bel⟩
set_option maxRecDepth 100000 in
set_option maxHeartbeats 4000000 in
theorem daysBefore_any (c : Cal) (n : Nat) (x : Value) (w : World) (h : IsC w x c) (hc : okC c = true) (hn : n ≤ 1000000) :
    Calls Tryd.prog 107 #[x, .int .i64 (n : Int)] w (OneC (cyK c.ms c.rs n) w) := by
  have CL := Lib.hid (fun x W (h : IsC W x c) => leapsBefore_any c n x W h hc hn)
  have ho := (okC_parts hc).2.2.1
  have C1 := Lib.hid (fun v W (h : SlMo W v c.ms) => sumL_any c.ms v W h ho)
  have C2 := Lib.hid (fun v W (h : SlMo W v c.ms) => sumC_any c.ms v W h ho)
  have HE := Lib.hid (cyK_ln c.ms c.rs n)
  have hl := lnK_bd c.rs n
  have ha := smA_bd ho true
  have hbb := smA_bd ho false
  rw [HE.out]
  clear ho hc HE
  generalize lnK c.rs n = l at *
  generalize smA c.ms true = sl at *
  generalize smA c.ms false = sc at *
  have p1 := Int.mul_le_mul_of_nonneg_left ha.2 (show 0 ≤ l by omega)
  have p2 := Int.mul_nonneg (show 0 ≤ l by omega) (show 0 ≤ sl by omega)
  have p3 := Int.mul_le_mul_of_nonneg_left hbb.2 (show 0 ≤ (n : Int) - l by omega)
  have p4 := Int.mul_nonneg (show 0 ≤ (n : Int) - l by omega) (show 0 ≤ sc by omega)
  have v0 : IntKind.i64.wrap ((n : Int) - l) = (n : Int) - l := IntWalk.i64_in _ (by omega)
  have v1 : IntKind.i64.wrap (l * sl) = l * sl := IntWalk.i64_in _ (by omega)
  have v2 : IntKind.i64.wrap (((n : Int) - l) * sc) = ((n : Int) - l) * sc := IntWalk.i64_in _ (by omega)
  have v3 : IntKind.i64.wrap (l * sl + ((n : Int) - l) * sc) = l * sl + ((n : Int) - l) * sc := IntWalk.i64_in _ (by omega)
  obtain ⟨u, v, rfl, hs, hM, hR⟩ := h
  obtain ⟨a1, n1, rfl, l1, _⟩ := hM.open
  obtain ⟨a2, n2, rfl, l2, _⟩ := hR.open
  unfold maxLen at l1 l2
  have HSZ := Lib.hid hs
  have H0 := Lib.hid (CaH.new w c a1 n1 a2 n2 34 hM hR)
  clear hM hR hs
  obtain ⟨c0, c1, c2, c3, c4, _, _, _⟩ := H0.out
  go_enter Tryd.func107, Tryd.ntmps107
  go_wp2_with fail
  generalize w.alloc (.cells #[.string c.nm, .slice a1 c.ms.length n1, .slice a2 c.rs.length n2, .int .i64 c.wk] 34) = W0 at *
  generalize w.heap.size = nb at H0 c0 c1 c2 c3 c4 ⊢
  refine (CL.out _ _ (H0.out.isC HSZ.out)).mono ?_
  rintro e w1 ⟨rfl, hb⟩
  have H1 := Lib.hid (H0.out.keep hb)
  clear hb c0 c1 c2 c3 c4
  obtain ⟨c0, c1, c2, c3, c4, _, _, _⟩ := H1.out
  go_wp2_with fail
  clear c0 c1 c2 c3 c4
  go_region_held3 (fun w' => w'.cell? ⟨nb, 0, none⟩ = some (.string c.nm) ∧ w'.cell? ⟨nb, 1, none⟩ = some (.slice a1 c.ms.length n1) ∧ w'.cell? ⟨nb, 2, none⟩ = some (.slice a2 c.rs.length n2) ∧ w'.cell? ⟨nb, 3, none⟩ = some (.int .i64 c.wk) ∧ nb < w'.heap.size ∧ SlMo w' (.slice a1 c.ms.length n1) c.ms ∧ SlRu w' (.slice a2 c.rs.length n2) c.rs ∧ Below w.heap.size w w') (first | exact H1.out.drew | exact CaH.keep hb (by first | assumption | exact H1.out.drew))
    ((go_at_call 129; have hS : CaH w nb c a1 n1 a2 n2 _ := (by first | assumption | exact H1.out.drew); have hM := hS.2.2.2.2.2.1; clear hS; (first | (with_reducible refine Calls.mono (C1.out _ _ hM) ?_) | (with_reducible refine Calls.mono (C2.out _ _ hM) ?_)); clear hM; rintro e w' ⟨rfl, hb⟩))
  have HT : CaH w nb c a1 n1 a2 n2 w' := by assumption
  have HU := Lib.hid HT.bel
  clear HT H0 H1
  go_wp2_with fail
  go_ret
  exact ⟨rfl, HU.out⟩
end Go.Proofs.YtpbepibklipfpaaDoor

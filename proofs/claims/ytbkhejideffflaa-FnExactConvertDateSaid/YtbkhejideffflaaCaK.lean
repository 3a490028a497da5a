/-
  The program's side: cycles, the last day, days of months.
-/
import Derived.Test.YtbkhejideffflaaCaH
namespace Go.Proofs.Ytbkhejideffflaa
open Go.RowKit

/-- A calendar lies in the box of a call, and a month beside. -/
def CmH (W0 : World) (nb : Nat) (c : Cal) (a1 : Option Addr) (n1 : Nat) (a2 : Option Addr) (n2 : Nat) (g i : Nat) (m0 : ByteArray) (m1 m2 : Int) (w' : World) : Prop :=
  w'.cell? ⟨nb, 0, none⟩ = some (.string c.nm) ∧ w'.cell? ⟨nb, 1, none⟩ = some (.slice a1 c.ms.length n1) ∧ w'.cell? ⟨nb, 2, none⟩ = some (.slice a2 c.rs.length n2) ∧ w'.cell? ⟨nb, 3, none⟩ = some (.int .i64 c.wk) ∧ nb < w'.heap.size ∧ SlMo w' (.slice a1 c.ms.length n1) c.ms ∧ SlRu w' (.slice a2 c.rs.length n2) c.rs ∧
  w'.cell? ⟨g, i, none⟩ = some (.string m0) ∧ w'.cell? ⟨g, i + 1, none⟩ = some (.int .i64 m1) ∧ w'.cell? ⟨g, i + 2, none⟩ = some (.int .i64 m2) ∧ g < w'.heap.size ∧ Below W0.heap.size W0 w'
theorem CmH.keep {W0 : World} {nb : Nat} {c : Cal} {a1 : Option Addr} {n1 : Nat} {a2 : Option Addr} {n2 : Nat} {g i : Nat} {m0 : ByteArray} {m1 m2 : Int} {w' w2 : World} (hb : Below w'.heap.size w' w2) (h : CmH W0 nb c a1 n1 a2 n2 g i m0 m1 m2 w') : CmH W0 nb c a1 n1 a2 n2 g i m0 m1 m2 w2 := by
  obtain ⟨a0, a1, a2, a3, e1, e2, e3, d0, d1, d2, d3, e4⟩ := h
  exact ⟨(hb.cell (p := ⟨nb, 0, none⟩) e1).trans a0, (hb.cell (p := ⟨nb, 1, none⟩) e1).trans a1, (hb.cell (p := ⟨nb, 2, none⟩) e1).trans a2, (hb.cell (p := ⟨nb, 3, none⟩) e1).trans a3, Nat.lt_of_lt_of_le e1 hb.size, e2.keep hb, e3.keep hb,
    (hb.cell (p := ⟨g, i, none⟩) d3).trans d0, (hb.cell (p := ⟨g, i + 1, none⟩) d3).trans d1, (hb.cell (p := ⟨g, i + 2, none⟩) d3).trans d2, Nat.lt_of_lt_of_le d3 hb.size, bT e4 hb⟩
theorem CmH.drew {W0 : World} {nb : Nat} {c : Cal} {a1 : Option Addr} {n1 : Nat} {a2 : Option Addr} {n2 : Nat} {g i : Nat} {m0 : ByteArray} {m1 m2 : Int} {w' : World} (h : CmH W0 nb c a1 n1 a2 n2 g i m0 m1 m2 w') : CmH W0 nb c a1 n1 a2 n2 g i m0 m1 m2 w'.drew := h.keep (bR _).drew
theorem CmH.isC {W0 : World} {nb : Nat} {c : Cal} {a1 : Option Addr} {n1 : Nat} {a2 : Option Addr} {n2 : Nat} {g i : Nat} {m0 : ByteArray} {m1 m2 : Int} {w' : World} (h : CmH W0 nb c a1 n1 a2 n2 g i m0 m1 m2 w') (hs : c.nm.size ≤ maxLen) : IsC w' (.agg #[.string c.nm, .slice a1 c.ms.length n1, .slice a2 c.rs.length n2, .int .i64 c.wk]) c :=
  ⟨_, _, rfl, hs, h.2.2.2.2.2.1, h.2.2.2.2.2.2.1⟩
theorem CmH.bel {W0 : World} {nb : Nat} {c : Cal} {a1 : Option Addr} {n1 : Nat} {a2 : Option Addr} {n2 : Nat} {g i : Nat} {m0 : ByteArray} {m1 m2 : Int} {w' : World} (h : CmH W0 nb c a1 n1 a2 n2 g i m0 m1 m2 w') : Below W0.heap.size W0 w' := h.2.2.2.2.2.2.2.2.2.2.2
theorem daysWhereT_any (w : World) : Calls Try.prog 68 #[.bool true] w fun e w' => e = .returned (.func (.func 72) #[] #[]) ∧ w = w' := daysWhere_any true w
theorem daysWhereF_any (w : World) : Calls Try.prog 68 #[.bool false] w fun e w' => e = .returned (.func (.func 73) #[] #[]) ∧ w = w' := daysWhere_any false w
set_option maxRecDepth 100000 in
set_option maxHeartbeats 4000000 in
theorem cycle_any (c : Cal) (x : Value) (w : World) (h : IsC w x c) (hc : okC c = true) :
    Calls Try.prog 104 #[x] w (TwoR2 (lcA c.rs) (cyA c) w) := by
  have CY := Lib.hid (fun v W (h : SlRu W v c.rs) => cycleYearsV_any c v W h hc)
  obtain ⟨_, _, r3, r4⟩ := okRu_parts (okC_parts hc).1
  obtain ⟨Y, hY⟩ := Int.eq_ofNat_of_zero_le (show 0 ≤ lcA c.rs by omega)
  have CB := Lib.hid (fun x W (h : IsC W x c) => daysBefore_any c Y x W h hc (by omega))
  unfold cyA
  rw [hY] at CY ⊢
  simp only [Int.toNat_natCast]
  clear hY hc r3 r4
  generalize cyK c.ms c.rs Y = d at *
  generalize (Y : Int) = YI at *
  obtain ⟨u, v, rfl, hs, hM, hR⟩ := h
  obtain ⟨a1, n1, rfl, l1, _⟩ := hM.open
  obtain ⟨a2, n2, rfl, l2, _⟩ := hR.open
  unfold maxLen at l1 l2
  have HSZ := Lib.hid hs
  have H0 := Lib.hid (CaH.new w c a1 n1 a2 n2 33 hM hR)
  clear hM hR hs
  obtain ⟨c0, c1, c2, c3, c4, _, _, _⟩ := H0.out
  go_enter Try.func104, Try.ntmps104
  go_wp2_with fail
  generalize w.alloc (.cells #[.string c.nm, .slice a1 c.ms.length n1, .slice a2 c.rs.length n2, .int .i64 c.wk] 33) = W0 at *
  generalize w.heap.size = nb at H0 c0 c1 c2 c3 c4 ⊢
  refine (CY.out _ _ H0.out.2.2.2.2.2.2.1).mono ?_
  rintro e w1 ⟨rfl, hb⟩
  have H1 := Lib.hid (H0.out.keep hb)
  clear hb c0 c1 c2 c3 c4
  obtain ⟨c0, c1, c2, c3, c4, _, _, _⟩ := H1.out
  go_wp2_with fail
  refine (CB.out _ _ (H1.out.isC HSZ.out)).mono ?_
  rintro e w2 ⟨rfl, hb⟩
  have H2 := Lib.hid (H1.out.keep hb)
  clear hb
  go_wp2_with fail
  go_ret2
  exact ⟨rfl, H2.out.bel⟩
set_option maxRecDepth 100000 in
set_option maxHeartbeats 4000000 in
theorem lastDay_any (c : Cal) (x : Value) (w : World) (h : IsC w x c) (hc : okC c = true) :
    Calls Try.prog 81 #[x] w (OneC (cyK c.ms c.rs 10000 - 1) w) := by
  have hB := cyK_bd (okC_parts hc).2.2.1 c.rs 10000
  have CB := Lib.hid (fun x W (h : IsC W x c) => (show Calls Try.prog 44 #[x, .int .i64 10000] W (OneC (cyK c.ms c.rs 10000) W) from daysBefore_any c 10000 x W h hc (by omega)))
  clear hc
  generalize cyK c.ms c.rs 10000 = d at *
  obtain ⟨u, v, rfl, hs, hM, hR⟩ := h
  obtain ⟨a1, n1, rfl, l1, _⟩ := hM.open
  obtain ⟨a2, n2, rfl, l2, _⟩ := hR.open
  unfold maxLen at l1 l2
  have HSZ := Lib.hid hs
  have H0 := Lib.hid (CaH.new w c a1 n1 a2 n2 33 hM hR)
  clear hM hR hs
  obtain ⟨c0, c1, c2, c3, c4, _, _, _⟩ := H0.out
  go_enter Try.func81, Try.ntmps81
  go_wp2_with fail
  generalize w.alloc (.cells #[.string c.nm, .slice a1 c.ms.length n1, .slice a2 c.rs.length n2, .int .i64 c.wk] 33) = W0 at *
  generalize w.heap.size = nb at H0 c0 c1 c2 c3 c4 ⊢
  refine (CB.out _ _ (H0.out.isC HSZ.out)).mono ?_
  rintro e w1 ⟨rfl, hb⟩
  have H1 := Lib.hid (H0.out.keep hb)
  clear hb
  go_wp2_with fail
  go_ret
  exact ⟨rfl, H1.out.bel⟩
set_option maxRecDepth 100000 in
set_option maxHeartbeats 4000000 in
theorem DaysInMonthI_any (c : Cal) (y m : Int) (x : Value) (w : World) (h : IsC w x c) (hm : -9223372036854775808 ≤ m ∧ m ≤ 9223372036854775807) :
    Calls Try.prog 42 #[x, .int .i64 y, .int .i64 m] w (TwoR2 (dmE c y m).1 (dmE c y m).2 w) := by
  obtain ⟨u, v, rfl, hs, hM, hR⟩ := h
  obtain ⟨a1, n1, rfl, l1, _⟩ := hM.open
  obtain ⟨a2, n2, rfl, l2, _⟩ := hR.open
  unfold maxLen at l1 l2
  have HSZ := Lib.hid hs
  have H0 := Lib.hid (CaH.new w c a1 n1 a2 n2 33 hM hR)
  clear hM hR hs
  obtain ⟨c0, c1, c2, c3, c4, _, _, _⟩ := H0.out
  go_enter Try.func42, Try.ntmps42
  go_wp2_with fail
  generalize w.alloc (.cells #[.string c.nm, .slice a1 c.ms.length n1, .slice a2 c.rs.length n2, .int .i64 c.wk] 33) = W0 at *
  generalize w.heap.size = nb at H0 c0 c1 c2 c3 c4 ⊢
  refine (ValidCalendarI_any c _ _ (H0.out.isC HSZ.out)).mono ?_
  rintro e w1 ⟨rfl, hb⟩
  have H1 := Lib.hid (H0.out.keep hb)
  clear hb c0 c1 c2 c3 c4
  obtain ⟨c0, c1, c2, c3, c4, _, _, _⟩ := H1.out
  cases h1 : okC c
  · have HN := Lib.hid (dmE_1 (y := y) (m := m) h1)
    go_wp2_with fail
    go_ret2
    exact ⟨by rw [HN.out]; rfl, H1.out.bel⟩
  go_wp2_with fail
  refine (isYear_any _ _).mono ?_
  rintro e w9 ⟨rfl, rfl⟩
  cases h2 : inB y 0 9999
  · have HN := Lib.hid (dmE_2 (m := m) h1 h2)
    go_wp2_with fail
    go_ret2
    exact ⟨by rw [HN.out]; rfl, H1.out.bel⟩
  go_wp2_with fail
  refine (isBetween_any _ _ _ _).mono ?_
  rintro e w9 ⟨rfl, rfl⟩
  cases h3 : inB m 1 (c.ms.length : Int)
  · have HN := Lib.hid (dmE_3 (y := y) h1 h3)
    go_wp2_with fail
    go_ret2
    exact ⟨by rw [HN.out]; rfl, H1.out.bel⟩
  · have HN := Lib.hid (dmE_0 h1 h2 h3)
    have b2 := inB_true.1 h2
    have b3 := inB_true.1 h3
    obtain ⟨k, hk⟩ := Int.eq_ofNat_of_zero_le (show 0 ≤ m - 1 by omega)
    have hkl : k < c.ms.length := by omega
    have e1 : (m - 1).toNat = k := by omega
    rw [e1] at HN
    obtain rfl : m = (k : Int) + 1 := by omega
    have e3 : (k : Int) + 1 - 1 = (k : Int) := by omega
    have CL := Lib.hid (fun x W (h : IsC W x c) => isLeapV_any c y x W h h1 (by omega))
    have CD := Lib.hid (fun b W => daysOf_any b (moAt c.ms k) W)
    have HX := Lib.hid (fun W (h : SlMo W (.slice a1 c.ms.length n1) c.ms) => h.open)
    clear hk e1 h1 h2 h3
    go_wp2_with fail
    obtain ⟨_, _, e', _, hx⟩ := H1.out.2.2.2.2.2.1.open
    injection e' with q1 q2 q3
    subst q1 q3
    obtain ⟨g, o, rfl, hg, hx⟩ := hx (by omega)
    obtain ⟨d0, d1, d2, _⟩ := hx k hkl
    have v0 : IntKind.i64.wrap ((k : Int) + 1 - 1) = (k : Int) := by rw [e3]; exact IntWalk.i64_in _ (by omega)
    have v1 : IntKind.i64.wrap (k : Int) = (k : Int) := IntWalk.i64_in _ (by omega)
    unfold moV at CD
    clear hx q2 HX
    generalize moAt c.ms k = mo at *
    generalize mo.nm = m0 at *
    generalize mo.d = m1 at *
    generalize mo.l = m2 at *
    have HS0 : CmH w nb c (some ⟨g, o, none⟩) n1 a2 n2 g (o + k * 3) m0 m1 m2 w1 := ⟨c0, c1, c2, c3, c4, H1.out.2.2.2.2.2.1, H1.out.2.2.2.2.2.2.1, d0, d1, d2, hg, H1.out.bel⟩
    have HS := Lib.hid HS0
    clear HS0 c0 c1 c2 c3 c4 d0 d1 d2 hg H0 H1
    cases hq : lpY c.rs y
    · rw [hq] at CL HN
      have CE := Lib.hid (CD.out false)
      go_region_held3 (fun w' => w'.cell? ⟨nb, 0, none⟩ = some (.string c.nm) ∧ w'.cell? ⟨nb, 1, none⟩ = some (.slice (some ⟨g, o, none⟩) c.ms.length n1) ∧ w'.cell? ⟨nb, 2, none⟩ = some (.slice a2 c.rs.length n2) ∧ w'.cell? ⟨nb, 3, none⟩ = some (.int .i64 c.wk) ∧ nb < w'.heap.size ∧ SlMo w' (.slice (some ⟨g, o, none⟩) c.ms.length n1) c.ms ∧ SlRu w' (.slice a2 c.rs.length n2) c.rs ∧ w'.cell? ⟨g, o + k * 3, none⟩ = some (.string m0) ∧ w'.cell? ⟨g, o + k * 3 + 1, none⟩ = some (.int .i64 m1) ∧ w'.cell? ⟨g, o + k * 3 + 2, none⟩ = some (.int .i64 m2) ∧ g < w'.heap.size ∧ Below w.heap.size w w') (first | exact HS.out.drew | exact CmH.keep hb (by first | assumption | exact HS.out.drew))
        (first
          | (go_at_call 69; have hS : CmH w nb c (some ⟨g, o, none⟩) n1 a2 n2 g (o + k * 3) m0 m1 m2 _ := (by first | assumption | exact HS.out.drew); refine (CL.out _ _ (hS.isC HSZ.out)).mono ?_; clear hS; rintro e w' ⟨rfl, hb⟩)
          | (go_at_call 68; refine (daysWhereF_any _).mono ?_; rintro e w' ⟨rfl, rfl⟩; have hb := bR w')
          | (go_at_call 73; refine (CE.out _).mono ?_; rintro e w' ⟨rfl, hb⟩))
      have HT : CmH w nb c (some ⟨g, o, none⟩) n1 a2 n2 g (o + k * 3) m0 m1 m2 w' := by assumption
      have HU := Lib.hid HT.bel
      clear HT HS
      go_wp2_with fail
      go_ret2
      exact ⟨by rw [HN.out]; rfl, HU.out⟩
    · rw [hq] at CL HN
      have CE := Lib.hid (CD.out true)
      go_region_held3 (fun w' => w'.cell? ⟨nb, 0, none⟩ = some (.string c.nm) ∧ w'.cell? ⟨nb, 1, none⟩ = some (.slice (some ⟨g, o, none⟩) c.ms.length n1) ∧ w'.cell? ⟨nb, 2, none⟩ = some (.slice a2 c.rs.length n2) ∧ w'.cell? ⟨nb, 3, none⟩ = some (.int .i64 c.wk) ∧ nb < w'.heap.size ∧ SlMo w' (.slice (some ⟨g, o, none⟩) c.ms.length n1) c.ms ∧ SlRu w' (.slice a2 c.rs.length n2) c.rs ∧ w'.cell? ⟨g, o + k * 3, none⟩ = some (.string m0) ∧ w'.cell? ⟨g, o + k * 3 + 1, none⟩ = some (.int .i64 m1) ∧ w'.cell? ⟨g, o + k * 3 + 2, none⟩ = some (.int .i64 m2) ∧ g < w'.heap.size ∧ Below w.heap.size w w') (first | exact HS.out.drew | exact CmH.keep hb (by first | assumption | exact HS.out.drew))
        (first
          | (go_at_call 69; have hS : CmH w nb c (some ⟨g, o, none⟩) n1 a2 n2 g (o + k * 3) m0 m1 m2 _ := (by first | assumption | exact HS.out.drew); refine (CL.out _ _ (hS.isC HSZ.out)).mono ?_; clear hS; rintro e w' ⟨rfl, hb⟩)
          | (go_at_call 68; refine (daysWhereT_any _).mono ?_; rintro e w' ⟨rfl, rfl⟩; have hb := bR w')
          | (go_at_call 72; refine (CE.out _).mono ?_; rintro e w' ⟨rfl, hb⟩))
      have HT : CmH w nb c (some ⟨g, o, none⟩) n1 a2 n2 g (o + k * 3) m0 m1 m2 w' := by assumption
      have HU := Lib.hid HT.bel
      clear HT HS
      go_wp2_with fail
      go_ret2
      exact ⟨by rw [HN.out]; rfl, HU.out⟩
end Go.Proofs.Ytbkhejideffflaa

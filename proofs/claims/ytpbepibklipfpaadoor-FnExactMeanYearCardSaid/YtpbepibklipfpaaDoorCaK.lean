/-
  The program's side: cycles, the last day, days of months.
-/
import Derived.Test.YtpbepibklipfpaaDoorCaH
namespace Go.Proofs.YtpbepibklipfpaaDoor
open Go.RowKit

/-- A calendar lies in the box of a call, and a month beside. -/
def CmH (W0 : World) (nb : Nat) (c : Cal) (a1 : Option Addr) (n1 : Nat) (a2 : Option Addr) (n2 : Nat) (g i : Nat) (m0 : ByteArray) (m1 m2 : Int) (w' : World) : Prop :=
  w'.cell? ⟨nb, 0, none⟩ = some (.string c.nm) ∧ w'.cell? ⟨nb, 1, none⟩ = some (.slice a1 c.ms.length n1) ∧ w'.cell? ⟨nb, 2, none⟩ = some (.slice a2 c.rs.length n2) ∧ w'.cell? ⟨nb, 3, none⟩ = some (.int .i64 c.wk) ∧ nb < w'.heap.size ∧ SlMo w' (.slice a1 c.ms.length n1) c.ms ∧ SlRu w' (.slice a2 c.rs.length n2) c.rs ∧
  w'.cell? ⟨g, i, none⟩ = some (.string m0) ∧ w'.cell? ⟨g, i + 1, none⟩ = some (.int .i64 m1) ∧ w'.cell? ⟨g, i + 2, none⟩ = some (.int .i64 m2) ∧ g < w'.heap.size ∧ Below W0.heap.size W0 w'
theorem CmH.keep {W0 : World} {nb : Nat} {c : Cal} {a1 : Option Addr} {n1 : Nat} {a2 : Option Addr} {n2 : Nat} {g i : Nat} {m0 : ByteArray} {m1 m2 : Int} {w' w2 : World} (hb : Below w'.heap.size w' w2) (h : CmH W0 nb c a1 n1 a2 n2 g i m0 m1 m2 w') : CmH W0 nb c a1 n1 a2 n2 g i m0 m1 m2 w2 := by
  obtain ⟨a0, a1, a2, a3, e1, e2, e3, d0, d1, d2, d3, e4⟩ := h
  exact ⟨(hb.cell (p := ⟨nb, 0, none⟩) e1).trans a0, (hb.cell (p := ⟨nb, 1, none⟩) e1).trans a1, (hb.cell (p := ⟨nb, 2, none⟩) e1).trans a2, (hb.cell (p := ⟨nb, 3, none⟩) e1).trans a3, Nat.lt_of_lt_of_le e1 hb.size, e2.keep hb, e3.keep hb,
    (hb.cell (p := ⟨g, i, none⟩) d3).trans d0, (hb.cell (p := ⟨g, i + 1, none⟩) d3).trans d1, (hb.cell (p := ⟨g, i + 2, none⟩) d3).trans d2, Nat.lt_of_lt_of_le d3 hb.size, bT e4 hb⟩
theorem CmH.drew {W0 : World} {nb : Nat} {c : Cal} {a1 : Option Addr} {n1 : Nat} {a2 : Option Addr} {n2 : Nat} {g i : Nat} {m0 : ByteArray} {m1 m2 : Int} {w' : World} (h : CmH W0 nb c a1 n1 a2 n2 g i m0 m1 m2 w') : CmH W0 nb c a1 n1 a2 n2 g i m0 m1 m2 w'.drew := h.keep (bR _).drew
theorem CmH.isC {W0 : World} {nb : Nat} {c : Cal} {a1 : Option Addr} {n1 : Nat} {a2 : Option Addr} {n2 : Nat} {g i : Nat} {m0 : ByteArray} {m1 m2 : Int} {w' : World} (h : CmH W0 nb c a1 n1 a2 n2 g i m0 m1 m2 w') (hs : c.nm.size ≤ maxLen) : IsC w' (.agg #[.string c.nm, .slice a1 c.ms.length n1, .slice a2 c.rs.length n2, .int .i64 c.wk]) c :=
  ⟨_, _, rfl, hs, h.2.2.2.2.2.1, h.2.2.2.2.2.2.1⟩
theorem CmH.bel {W0 : World} {nb : Nat} {c : Cal} {a1 : Option Addr} {n1 : Nat} {a2 : Option Addr} {n2 : Nat} {g i : Nat} {m0 : ByteArray} {m1 m2 : Int} {w' : World} (h : CmH W0 nb c a1 n1 a2 n2 g i m0 m1 m2 w') : Below W0.heap.size W0 w' := h.2.2.2.2.2.2.2.2.2.2.2
set_option maxRecDepth 100000 in
set_option maxHeartbeats 4000000 in
theorem cycle_any (c : Cal) (x : Value) (w : World) (h : IsC w x c) (hc : okC c = true) :
    Calls Tryd.prog 77 #[x] w (TwoR2 (lcA c.rs) (cyA c) w) := by
  have CY := Lib.hid (fun v W (h : SlRu W v c.rs) => cycleYearsV_any c v W h hc)
  obtain ⟨_, _, r3, r4⟩ := okRu_parts (okC_parts hc).1
  obtain ⟨Y, hY⟩ := Int.eq_ofNat_of_zero_le (show 0 ≤ lcA c.rs by omega)
  have CB := Lib.hid (fun x W (h : IsC W x c) => daysBefore_any c Y x W h hc (by omega))
  unfold cyA
  rw [hY] at CY ⊢
  simp only [Int.toNat_natCast]
  clear hY hc r3 r4
  generalize cyK c.ms c.rs Y = d at *
  generalize (Y : Int) = YI at *
  obtain ⟨u, v, rfl, hs, hM, hR⟩ := h
  obtain ⟨a1, n1, rfl, l1, _⟩ := hM.open
  obtain ⟨a2, n2, rfl, l2, _⟩ := hR.open
  unfold maxLen at l1 l2
  have HSZ := Lib.hid hs
  have H0 := Lib.hid (CaH.new w c a1 n1 a2 n2 34 hM hR)
  clear hM hR hs
  obtain ⟨c0, c1, c2, c3, c4, _, _, _⟩ := H0.out
  go_enter Tryd.func77, Tryd.ntmps77
  go_wp2_with fail
  generalize w.alloc (.cells #[.string c.nm, .slice a1 c.ms.length n1, .slice a2 c.rs.length n2, .int .i64 c.wk] 34) = W0 at *
  generalize w.heap.size = nb at H0 c0 c1 c2 c3 c4 ⊢
  refine (CY.out _ _ H0.out.2.2.2.2.2.2.1).mono ?_
  rintro e w1 ⟨rfl, hb⟩
  have H1 := Lib.hid (H0.out.keep hb)
  clear hb c0 c1 c2 c3 c4
  obtain ⟨c0, c1, c2, c3, c4, _, _, _⟩ := H1.out
  go_wp2_with fail
  refine (CB.out _ _ (H1.out.isC HSZ.out)).mono ?_
  rintro e w2 ⟨rfl, hb⟩
  have H2 := Lib.hid (H1.out.keep hb)
  clear hb
  go_wp2_with fail
  go_ret2
  exact ⟨rfl, H2.out.bel⟩
set_option maxRecDepth 100000 in
set_option maxHeartbeats 4000000 in
theorem CycleOfI_any (c : Cal) (x : Value) (w : World) (h : IsC w x c) :
    Calls Tryd.prog 39 #[x] w (ThreeN3 (coE c).1 (coE c).2.1 (coE c).2.2 w) := by
  obtain ⟨u, v, rfl, hs, hM, hR⟩ := h
  obtain ⟨a1, n1, rfl, l1, _⟩ := hM.open
  obtain ⟨a2, n2, rfl, l2, _⟩ := hR.open
  unfold maxLen at l1 l2
  have HSZ := Lib.hid hs
  have H0 := Lib.hid (CaH.new w c a1 n1 a2 n2 34 hM hR)
  clear hM hR hs
  obtain ⟨c0, c1, c2, c3, c4, _, _, _⟩ := H0.out
  go_enter Tryd.func39, Tryd.ntmps39
  go_wp2_with fail
  generalize w.alloc (.cells #[.string c.nm, .slice a1 c.ms.length n1, .slice a2 c.rs.length n2, .int .i64 c.wk] 34) = W0 at *
  generalize w.heap.size = nb at H0 c0 c1 c2 c3 c4 ⊢
  refine (ValidCalendarI_any c _ _ (H0.out.isC HSZ.out)).mono ?_
  rintro e w1 ⟨rfl, hb⟩
  have H1 := Lib.hid (H0.out.keep hb)
  clear hb c0 c1 c2 c3 c4
  obtain ⟨c0, c1, c2, c3, c4, _, _, _⟩ := H1.out
  cases h1 : okC c
  · have HN := Lib.hid (coE_1 h1)
    go_wp2_with fail
    go_ret3
    exact ⟨by rw [HN.out]; rfl, H1.out.bel⟩
  · have HN := Lib.hid (coE_0 h1)
    go_wp2_with fail
    refine (cycle_any c _ _ (H1.out.isC HSZ.out) h1).mono ?_
    rintro e w2 ⟨rfl, hb⟩
    have H2 := Lib.hid (H1.out.keep hb)
    clear hb
    generalize lcA c.rs = a at *
    generalize cyA c = b at *
    go_wp2_with fail
    go_ret3
    exact ⟨by rw [HN.out]; rfl, H2.out.bel⟩
end Go.Proofs.YtpbepibklipfpaaDoor

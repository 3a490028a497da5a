/-
  Days of calendars, the document's side: ValidDate, DayOf, WeekdayOf, DaysBetween.
-/
import Derived.Test.YtbkhejideffflaaDyS
namespace Go.Proofs.Ytbkhejideffflaa
open Go.RowKit

theorem CalAt.wk {W : World} {b : Nat} {c : Cal} (h : CalAt W b c) : W.cell? ⟨b, 3, none⟩ = some (.int .i64 c.wk) := by
  obtain ⟨u, v, X, _⟩ := h
  exact X.c4q.2.2.2.1
def vdE (c : Cal) (a0 a1 a2 : Int) : Bool := okC c && okD c a0 a1 a2
def wdE (c : Cal) (a0 a1 a2 f : Int) : Int × Int := if okC c then (if okD c a0 a1 a2 && inB f 1 c.wk then ((dyN c a0 a1 a2 + f - 1) % c.wk + 1, 0) else (0, 2)) else (0, 1)
theorem wdE_1 {c : Cal} {a0 a1 a2 f : Int} (h : okC c = false) : wdE c a0 a1 a2 f = (0, 1) := by simp [wdE, h]
theorem wdE_2 {c : Cal} {a0 a1 a2 f : Int} (h : okC c = true) (h2 : okD c a0 a1 a2 = false) : wdE c a0 a1 a2 f = (0, 2) := by simp [wdE, h, h2]
theorem wdE_3 {c : Cal} {a0 a1 a2 f : Int} (h : okC c = true) (h2 : inB f 1 c.wk = false) : wdE c a0 a1 a2 f = (0, 2) := by simp [wdE, h, h2]
theorem wdE_0 {c : Cal} {a0 a1 a2 f : Int} (h : okC c = true) (h2 : okD c a0 a1 a2 = true) (h3 : inB f 1 c.wk = true) : wdE c a0 a1 a2 f = ((dyN c a0 a1 a2 + f - 1) % c.wk + 1, 0) := by simp [wdE, h, h2, h3]
def dbE (c : Cal) (a0 a1 a2 b0 b1 b2 : Int) : Int × Int := if okC c then (if okD c a0 a1 a2 && okD c b0 b1 b2 then (dyN c b0 b1 b2 - dyN c a0 a1 a2, 0) else (0, 2)) else (0, 1)
theorem dbE_1 {c : Cal} {a0 a1 a2 b0 b1 b2 : Int} (h : okC c = false) : dbE c a0 a1 a2 b0 b1 b2 = (0, 1) := by simp [dbE, h]
theorem dbE_2 {c : Cal} {a0 a1 a2 b0 b1 b2 : Int} (h : okC c = true) (h2 : okD c a0 a1 a2 = false) : dbE c a0 a1 a2 b0 b1 b2 = (0, 2) := by simp [dbE, h, h2]
theorem dbE_3 {c : Cal} {a0 a1 a2 b0 b1 b2 : Int} (h : okC c = true) (h2 : okD c b0 b1 b2 = false) : dbE c a0 a1 a2 b0 b1 b2 = (0, 2) := by simp [dbE, h, h2]
theorem dbE_0 {c : Cal} {a0 a1 a2 b0 b1 b2 : Int} (h : okC c = true) (h2 : okD c a0 a1 a2 = true) (h3 : okD c b0 b1 b2 = true) : dbE c a0 a1 a2 b0 b1 b2 = (dyN c b0 b1 b2 - dyN c a0 a1 a2, 0) := by simp [dbE, h, h2, h3]
/-- What stands while the day of the week is taken. -/
def CwH (W0 : World) (b p : Nat) (c : Cal) (a0 a1 a2 : Int) (w' : World) : Prop := w'.cell? ⟨p, 0, none⟩ = some (.int .i64 a0) ∧ w'.cell? ⟨p, 1, none⟩ = some (.int .i64 a1) ∧ w'.cell? ⟨p, 2, none⟩ = some (.int .i64 a2) ∧ p < w'.heap.size ∧ CalAt w' b c ∧ w'.cell? ⟨b, 3, none⟩ = some (.int .i64 c.wk) ∧ b < w'.heap.size ∧ Below W0.heap.size W0 w'
theorem CwH.keep {W0 : World} {b p : Nat} {c : Cal} {a0 a1 a2 : Int} {w' w2 : World} (hb : Below w'.heap.size w' w2) (h : CwH W0 b p c a0 a1 a2 w') : CwH W0 b p c a0 a1 a2 w2 := by
  obtain ⟨c0, c1, c2, e1, e2, e3, e4, e5⟩ := h
  exact ⟨(hb.cell (p := ⟨p, 0, none⟩) e1).trans c0, (hb.cell (p := ⟨p, 1, none⟩) e1).trans c1, (hb.cell (p := ⟨p, 2, none⟩) e1).trans c2, Nat.lt_of_lt_of_le e1 hb.size, e2.keep hb, (hb.cell (p := ⟨b, 3, none⟩) e4).trans e3, Nat.lt_of_lt_of_le e4 hb.size, bT e5 hb⟩
theorem CwH.drew {W0 : World} {b p : Nat} {c : Cal} {a0 a1 a2 : Int} {w' : World} (h : CwH W0 b p c a0 a1 a2 w') : CwH W0 b p c a0 a1 a2 w'.drew := h.keep (bR _).drew
/-- What stands while two days are looked at. -/
def CbH (W0 : World) (b p q : Nat) (c : Cal) (a0 a1 a2 b0 b1 b2 : Int) (w' : World) : Prop := w'.cell? ⟨p, 0, none⟩ = some (.int .i64 a0) ∧ w'.cell? ⟨p, 1, none⟩ = some (.int .i64 a1) ∧ w'.cell? ⟨p, 2, none⟩ = some (.int .i64 a2) ∧ w'.cell? ⟨q, 0, none⟩ = some (.int .i64 b0) ∧ w'.cell? ⟨q, 1, none⟩ = some (.int .i64 b1) ∧ w'.cell? ⟨q, 2, none⟩ = some (.int .i64 b2) ∧ p < w'.heap.size ∧ q < w'.heap.size ∧ CalAt w' b c ∧ Below W0.heap.size W0 w'
theorem CbH.keep {W0 : World} {b p q : Nat} {c : Cal} {a0 a1 a2 b0 b1 b2 : Int} {w' w2 : World} (hb : Below w'.heap.size w' w2) (h : CbH W0 b p q c a0 a1 a2 b0 b1 b2 w') : CbH W0 b p q c a0 a1 a2 b0 b1 b2 w2 := by
  obtain ⟨c0, c1, c2, d0, d1, d2, e1, e2, e3, e4⟩ := h
  exact ⟨(hb.cell (p := ⟨p, 0, none⟩) e1).trans c0, (hb.cell (p := ⟨p, 1, none⟩) e1).trans c1, (hb.cell (p := ⟨p, 2, none⟩) e1).trans c2, (hb.cell (p := ⟨q, 0, none⟩) e2).trans d0, (hb.cell (p := ⟨q, 1, none⟩) e2).trans d1, (hb.cell (p := ⟨q, 2, none⟩) e2).trans d2, Nat.lt_of_lt_of_le e1 hb.size, Nat.lt_of_lt_of_le e2 hb.size, e3.keep hb, bT e4 hb⟩
theorem CbH.drew {W0 : World} {b p q : Nat} {c : Cal} {a0 a1 a2 b0 b1 b2 : Int} {w' : World} (h : CbH W0 b p q c a0 a1 a2 b0 b1 b2 w') : CbH W0 b p q c a0 a1 a2 b0 b1 b2 w'.drew := h.keep (bR _).drew
set_option maxRecDepth 100000 in
set_option maxHeartbeats 8000000 in
theorem ValidDateS_any (c : Cal) (a0 a1 a2 : Int) (x : Value) (w : World) (h : IsC w x c) (hb1 : -9223372036854775808 ≤ a1 ∧ a1 ≤ 9223372036854775807) :
    Calls Try.prog 12 #[x, .agg #[.int .i64 a0, .int .i64 a1, .int .i64 a2]] w (BoolBel (vdE c a0 a1 a2) w) := by
  obtain ⟨u, v, rfl, hs, hM, hR⟩ := h
  obtain ⟨a1_, n1, rfl, _⟩ := id hM.open
  obtain ⟨a2_, n2, rfl, _⟩ := id hR.open
  have HC := Lib.hid (show CalAt ((w.alloc (.cells #[.string c.nm, .slice a1_ c.ms.length n1, .slice a2_ c.rs.length n2, .int .i64 c.wk] 33)).alloc (.cells #[.int .i64 a0, .int .i64 a1, .int .i64 a2] 35)) w.heap.size c from (CalAt.new (c := c) 33 hs hM hR).keep (bA (bR _) _))
  have L0 := Lib.hid (show Below w.heap.size w ((w.alloc (.cells #[.string c.nm, .slice a1_ c.ms.length n1, .slice a2_ c.rs.length n2, .int .i64 c.wk] 33)).alloc (.cells #[.int .i64 a0, .int .i64 a1, .int .i64 a2] 35)) from bA (bA (bR w) _) _)
  have D0 := Lib.hid ((BoxL.at_ (w := (w.alloc (.cells #[.string c.nm, .slice a1_ c.ms.length n1, .slice a2_ c.rs.length n2, .int .i64 c.wk] 33))) (b := w.heap.size + 1) (vs := [.int .i64 a0, .int .i64 a1, .int .i64 a2]) (T := 35) (by simp)))
  clear hM hR hs
  go_enter Try.func12, Try.ntmps12
  go_wp2_with fail
  generalize ((w.alloc (.cells #[.string c.nm, .slice a1_ c.ms.length n1, .slice a2_ c.rs.length n2, .int .i64 c.wk] 33)).alloc (.cells #[.int .i64 a0, .int .i64 a1, .int .i64 a2] 35)) = W0 at *
  generalize hcb : w.heap.size = cb at HC D0 ⊢
  have HCB := Lib.hid hcb
  obtain ⟨d00, d01, d02, _⟩ := D0.out.c3
  refine (l15Ok_any cb c _ HC.out).mono ?_
  rintro e w1 ⟨rfl, hb⟩
  have C1 := Lib.hid (HC.out.keep hb)
  have L1 := Lib.hid (bT L0.out hb)
  have D0_ := Lib.hid (D0.out.keep hb)
  clear d00 d01 d02
  obtain ⟨d00, d01, d02, _⟩ := D0_.out.c3
  clear hb
  cases h1 : okC c
  · skip
    go_wp2_with fail
    go_ret
    exact ⟨by rw [show vdE c a0 a1 a2 = false by simp [vdE, h1]]; rfl, L1.out⟩
  · go_wp2_with fail
    refine (l16Ok_any cb c a0 a1 a2 _ C1.out h1 hb1).mono ?_
    rintro e w2 ⟨rfl, hb⟩
    have C2 := Lib.hid (C1.out.keep hb)
    have L2 := Lib.hid (bT L1.out hb)
    have D0__ := Lib.hid (D0_.out.keep hb)
    clear d00 d01 d02
    obtain ⟨d00, d01, d02, _⟩ := D0__.out.c3
    clear hb
    go_wp2_with fail
    go_ret
    exact ⟨by rw [show vdE c a0 a1 a2 = okD c a0 a1 a2 by simp [vdE, h1]]; rfl, L2.out⟩
set_option maxRecDepth 100000 in
set_option maxHeartbeats 8000000 in
theorem DayOfS_any (c : Cal) (a0 a1 a2 : Int) (x : Value) (w : World) (h : IsC w x c) (hb1 : -9223372036854775808 ≤ a1 ∧ a1 ≤ 9223372036854775807) :
    Calls Try.prog 17 #[x, .agg #[.int .i64 a0, .int .i64 a1, .int .i64 a2]] w (TwoR2 (doE c a0 a1 a2).1 (doE c a0 a1 a2).2 w) := by
  obtain ⟨u, v, rfl, hs, hM, hR⟩ := h
  obtain ⟨a1_, n1, rfl, _⟩ := id hM.open
  obtain ⟨a2_, n2, rfl, _⟩ := id hR.open
  have HC := Lib.hid (show CalAt ((w.alloc (.cells #[.string c.nm, .slice a1_ c.ms.length n1, .slice a2_ c.rs.length n2, .int .i64 c.wk] 33)).alloc (.cells #[.int .i64 a0, .int .i64 a1, .int .i64 a2] 35)) w.heap.size c from (CalAt.new (c := c) 33 hs hM hR).keep (bA (bR _) _))
  have L0 := Lib.hid (show Below w.heap.size w ((w.alloc (.cells #[.string c.nm, .slice a1_ c.ms.length n1, .slice a2_ c.rs.length n2, .int .i64 c.wk] 33)).alloc (.cells #[.int .i64 a0, .int .i64 a1, .int .i64 a2] 35)) from bA (bA (bR w) _) _)
  have D0 := Lib.hid ((BoxL.at_ (w := (w.alloc (.cells #[.string c.nm, .slice a1_ c.ms.length n1, .slice a2_ c.rs.length n2, .int .i64 c.wk] 33))) (b := w.heap.size + 1) (vs := [.int .i64 a0, .int .i64 a1, .int .i64 a2]) (T := 35) (by simp)))
  clear hM hR hs
  go_enter Try.func17, Try.ntmps17
  go_wp2_with fail
  generalize ((w.alloc (.cells #[.string c.nm, .slice a1_ c.ms.length n1, .slice a2_ c.rs.length n2, .int .i64 c.wk] 33)).alloc (.cells #[.int .i64 a0, .int .i64 a1, .int .i64 a2] 35)) = W0 at *
  generalize hcb : w.heap.size = cb at HC D0 ⊢
  have HCB := Lib.hid hcb
  obtain ⟨d00, d01, d02, _⟩ := D0.out.c3
  refine (l15Ok_any cb c _ HC.out).mono ?_
  rintro e w1 ⟨rfl, hb⟩
  have C1 := Lib.hid (HC.out.keep hb)
  have L1 := Lib.hid (bT L0.out hb)
  have D0_ := Lib.hid (D0.out.keep hb)
  clear d00 d01 d02
  obtain ⟨d00, d01, d02, _⟩ := D0_.out.c3
  clear hb
  cases h1 : okC c
  · have HN := Lib.hid (doE_1 (a0 := a0) (a1 := a1) (a2 := a2) h1)
    go_wp2_with fail
    go_ret2
    exact ⟨by rw [HN.out]; rfl, L1.out⟩
  · go_wp2_with fail
    refine (l16Ok_any cb c a0 a1 a2 _ C1.out h1 hb1).mono ?_
    rintro e w2 ⟨rfl, hb⟩
    have C2 := Lib.hid (C1.out.keep hb)
    have L2 := Lib.hid (bT L1.out hb)
    have D0__ := Lib.hid (D0_.out.keep hb)
    clear d00 d01 d02
    obtain ⟨d00, d01, d02, _⟩ := D0__.out.c3
    clear hb
    cases h2 : okD c a0 a1 a2
    · have HN := Lib.hid (doE_2 h1 h2)
      go_wp2_with fail
      go_ret2
      exact ⟨by rw [HN.out]; rfl, L2.out⟩
    · have HN := Lib.hid (doE_0 h1 h2)
      go_wp2_with fail
      refine (l16Day_any cb c a0 a1 a2 _ C2.out h1 h2).mono ?_
      rintro e w3 ⟨rfl, hb⟩
      have C3 := Lib.hid (C2.out.keep hb)
      have L3 := Lib.hid (bT L2.out hb)
      have D0___ := Lib.hid (D0__.out.keep hb)
      clear d00 d01 d02
      obtain ⟨d00, d01, d02, _⟩ := D0___.out.c3
      clear hb
      go_wp2_with fail
      go_ret2
      exact ⟨by rw [HN.out]; rfl, L3.out⟩
set_option maxRecDepth 100000 in
set_option maxHeartbeats 8000000 in
theorem WeekdayOfS_any (c : Cal) (a0 a1 a2 f : Int) (x : Value) (w : World) (h : IsC w x c) (hb1 : -9223372036854775808 ≤ a1 ∧ a1 ≤ 9223372036854775807) :
    Calls Try.prog 26 #[x, .agg #[.int .i64 a0, .int .i64 a1, .int .i64 a2], .int .i64 f] w (TwoR2 (wdE c a0 a1 a2 f).1 (wdE c a0 a1 a2 f).2 w) := by
  obtain ⟨u, v, rfl, hs, hM, hR⟩ := h
  obtain ⟨a1_, n1, rfl, _⟩ := id hM.open
  obtain ⟨a2_, n2, rfl, _⟩ := id hR.open
  have HC := Lib.hid (show CalAt ((w.alloc (.cells #[.string c.nm, .slice a1_ c.ms.length n1, .slice a2_ c.rs.length n2, .int .i64 c.wk] 33)).alloc (.cells #[.int .i64 a0, .int .i64 a1, .int .i64 a2] 35)) w.heap.size c from (CalAt.new (c := c) 33 hs hM hR).keep (bA (bR _) _))
  have L0 := Lib.hid (show Below w.heap.size w ((w.alloc (.cells #[.string c.nm, .slice a1_ c.ms.length n1, .slice a2_ c.rs.length n2, .int .i64 c.wk] 33)).alloc (.cells #[.int .i64 a0, .int .i64 a1, .int .i64 a2] 35)) from bA (bA (bR w) _) _)
  have D0 := Lib.hid ((BoxL.at_ (w := (w.alloc (.cells #[.string c.nm, .slice a1_ c.ms.length n1, .slice a2_ c.rs.length n2, .int .i64 c.wk] 33))) (b := w.heap.size + 1) (vs := [.int .i64 a0, .int .i64 a1, .int .i64 a2]) (T := 35) (by simp)))
  clear hM hR hs
  go_enter Try.func26, Try.ntmps26
  go_wp2_with fail
  generalize ((w.alloc (.cells #[.string c.nm, .slice a1_ c.ms.length n1, .slice a2_ c.rs.length n2, .int .i64 c.wk] 33)).alloc (.cells #[.int .i64 a0, .int .i64 a1, .int .i64 a2] 35)) = W0 at *
  generalize hcb : w.heap.size = cb at HC D0 ⊢
  have HCB := Lib.hid hcb
  obtain ⟨d00, d01, d02, _⟩ := D0.out.c3
  refine (l15Ok_any cb c _ HC.out).mono ?_
  rintro e w1 ⟨rfl, hb⟩
  have C1 := Lib.hid (HC.out.keep hb)
  have L1 := Lib.hid (bT L0.out hb)
  have D0_ := Lib.hid (D0.out.keep hb)
  clear d00 d01 d02
  obtain ⟨d00, d01, d02, _⟩ := D0_.out.c3
  clear hb
  cases h1 : okC c
  · have HN := Lib.hid (wdE_1 (a0 := a0) (a1 := a1) (a2 := a2) (f := f) h1)
    go_wp2_with fail
    go_ret2
    exact ⟨by rw [HN.out]; rfl, L1.out⟩
  · go_wp2_with fail
    refine (l16Ok_any cb c a0 a1 a2 _ C1.out h1 hb1).mono ?_
    rintro e w2 ⟨rfl, hb⟩
    have C2 := Lib.hid (C1.out.keep hb)
    have L2 := Lib.hid (bT L1.out hb)
    have D0__ := Lib.hid (D0_.out.keep hb)
    clear d00 d01 d02
    obtain ⟨d00, d01, d02, _⟩ := D0__.out.c3
    clear hb
    have wk2 := C2.out.wk
    have cbl := C2.out.mo
    obtain ⟨_, _, _, cbl⟩ := cbl
    cases h2 : okD c a0 a1 a2
    · have HN := Lib.hid (wdE_2 (f := f) h1 h2)
      go_wp2_with fail
      go_ret2
      exact ⟨by rw [HN.out]; rfl, L2.out⟩
    go_wp2_with fail
    refine (l00In_any _ _ _ _).mono ?_
    rintro e w9 ⟨rfl, rfl⟩
    cases h3 : inB f 1 c.wk
    · have HN := Lib.hid (wdE_3 (a0 := a0) (a1 := a1) (a2 := a2) h1 h3)
      go_wp2_with fail
      go_ret2
      exact ⟨by rw [HN.out]; rfl, L2.out⟩
    · have HN := Lib.hid (wdE_0 h1 h2 h3)
      have CD := Lib.hid (fun W (h : CalAt W cb c) => l16Day_any cb c a0 a1 a2 W h h1 h2)
      obtain ⟨_, _, _, g1, g2⟩ := dyN_bd h1 h2
      have b3 := inB_true.1 h3
      have hwk := (okC_parts h1).2.2.2
      have hw0 : ¬ c.wk = 0 := by omega
      have hw1 : 0 < c.wk := by omega
      generalize dyN c a0 a1 a2 = n at *
      have r1 := Int.emod_nonneg (n + f - 1) hw0
      have r2 := Int.emod_lt_of_pos (n + f - 1) hw1
      have r3 : 0 ≤ n + f - 1 := by omega
      have r4 : (n + f - 1).tmod c.wk = (n + f - 1) % c.wk := Int.tmod_eq_emod_of_nonneg r3
      have v0 : IntKind.i64.wrap (n + f) = n + f := IntWalk.i64_in _ (by omega)
      have v1 : IntKind.i64.wrap (n + f - 1) = n + f - 1 := IntWalk.i64_in _ (by omega)
      have v2 : IntKind.i64.wrap ((n + f - 1) % c.wk) = (n + f - 1) % c.wk := IntWalk.i64_in _ (by omega)
      have v3 : IntKind.i64.wrap ((n + f - 1) % c.wk + 1) = (n + f - 1) % c.wk + 1 := IntWalk.i64_in _ (by omega)
      have H0 := Lib.hid (show CwH w cb (cb + 1) c a0 a1 a2 w2 from ⟨d00, d01, d02, D0__.out.lt, C2.out, wk2, cbl, L2.out⟩)
      clear d00 d01 d02 wk2 h1 h2 h3 cbl
      go_wp2_with fail
      go_region_held3 (fun w' => w'.cell? ⟨cb + 1, 0, none⟩ = some (.int .i64 a0) ∧ w'.cell? ⟨cb + 1, 1, none⟩ = some (.int .i64 a1) ∧ w'.cell? ⟨cb + 1, 2, none⟩ = some (.int .i64 a2) ∧ cb + 1 < w'.heap.size ∧ CalAt w' cb c ∧ w'.cell? ⟨cb, 3, none⟩ = some (.int .i64 c.wk) ∧ cb < w'.heap.size ∧ Below w.heap.size w w') (first | exact H0.out.drew | exact CwH.keep hb (by first | assumption | exact H0.out.drew))
        ((go_at_call 41; have hS : CwH w cb (cb + 1) c a0 a1 a2 _ := (by first | assumption | exact H0.out.drew); refine (CD.out _ hS.2.2.2.2.1).mono ?_; clear hS; rintro e w' ⟨rfl, hb⟩))
      have HT : CwH w cb (cb + 1) c a0 a1 a2 w' := by assumption
      have HU := Lib.hid HT.2.2.2.2.2.2.2
      clear HT H0
      go_wp2_with fail
      go_ret2
      exact ⟨by rw [HN.out]; rfl, HU.out⟩
set_option maxRecDepth 100000 in
set_option maxHeartbeats 8000000 in
theorem DaysBetweenS_any (c : Cal) (a0 a1 a2 b0 b1 b2 : Int) (x : Value) (w : World) (h : IsC w x c) (hb1 : -9223372036854775808 ≤ a1 ∧ a1 ≤ 9223372036854775807) (hb2 : -9223372036854775808 ≤ b1 ∧ b1 ≤ 9223372036854775807) :
    Calls Try.prog 24 #[x, .agg #[.int .i64 a0, .int .i64 a1, .int .i64 a2], .agg #[.int .i64 b0, .int .i64 b1, .int .i64 b2]] w (TwoR2 (dbE c a0 a1 a2 b0 b1 b2).1 (dbE c a0 a1 a2 b0 b1 b2).2 w) := by
  obtain ⟨u, v, rfl, hs, hM, hR⟩ := h
  obtain ⟨a1_, n1, rfl, _⟩ := id hM.open
  obtain ⟨a2_, n2, rfl, _⟩ := id hR.open
  have HC := Lib.hid (show CalAt (((w.alloc (.cells #[.string c.nm, .slice a1_ c.ms.length n1, .slice a2_ c.rs.length n2, .int .i64 c.wk] 33)).alloc (.cells #[.int .i64 a0, .int .i64 a1, .int .i64 a2] 35)).alloc (.cells #[.int .i64 b0, .int .i64 b1, .int .i64 b2] 35)) w.heap.size c from ((CalAt.new (c := c) 33 hs hM hR).keep (bA (bR _) _)).keep (bA (bR _) _))
  have L0 := Lib.hid (show Below w.heap.size w (((w.alloc (.cells #[.string c.nm, .slice a1_ c.ms.length n1, .slice a2_ c.rs.length n2, .int .i64 c.wk] 33)).alloc (.cells #[.int .i64 a0, .int .i64 a1, .int .i64 a2] 35)).alloc (.cells #[.int .i64 b0, .int .i64 b1, .int .i64 b2] 35)) from bA (bA (bA (bR w) _) _) _)
  have D0 := Lib.hid ((BoxL.at_ (w := (w.alloc (.cells #[.string c.nm, .slice a1_ c.ms.length n1, .slice a2_ c.rs.length n2, .int .i64 c.wk] 33))) (b := w.heap.size + 1) (vs := [.int .i64 a0, .int .i64 a1, .int .i64 a2]) (T := 35) (by simp)).alloc (.cells #[.int .i64 b0, .int .i64 b1, .int .i64 b2] 35))
  have D1 := Lib.hid ((BoxL.at_ (w := ((w.alloc (.cells #[.string c.nm, .slice a1_ c.ms.length n1, .slice a2_ c.rs.length n2, .int .i64 c.wk] 33)).alloc (.cells #[.int .i64 a0, .int .i64 a1, .int .i64 a2] 35))) (b := w.heap.size + 1 + 1) (vs := [.int .i64 b0, .int .i64 b1, .int .i64 b2]) (T := 35) (by simp)))
  clear hM hR hs
  go_enter Try.func24, Try.ntmps24
  go_wp2_with fail
  generalize (((w.alloc (.cells #[.string c.nm, .slice a1_ c.ms.length n1, .slice a2_ c.rs.length n2, .int .i64 c.wk] 33)).alloc (.cells #[.int .i64 a0, .int .i64 a1, .int .i64 a2] 35)).alloc (.cells #[.int .i64 b0, .int .i64 b1, .int .i64 b2] 35)) = W0 at *
  generalize hcb : w.heap.size = cb at HC D0 D1 ⊢
  have HCB := Lib.hid hcb
  obtain ⟨d00, d01, d02, _⟩ := D0.out.c3
  obtain ⟨d10, d11, d12, _⟩ := D1.out.c3
  refine (l15Ok_any cb c _ HC.out).mono ?_
  rintro e w1 ⟨rfl, hb⟩
  have C1 := Lib.hid (HC.out.keep hb)
  have L1 := Lib.hid (bT L0.out hb)
  have D0_ := Lib.hid (D0.out.keep hb)
  clear d00 d01 d02
  obtain ⟨d00, d01, d02, _⟩ := D0_.out.c3
  have D1_ := Lib.hid (D1.out.keep hb)
  clear d10 d11 d12
  obtain ⟨d10, d11, d12, _⟩ := D1_.out.c3
  clear hb
  cases h1 : okC c
  · have HN := Lib.hid (dbE_1 (a0 := a0) (a1 := a1) (a2 := a2) (b0 := b0) (b1 := b1) (b2 := b2) h1)
    go_wp2_with fail
    go_ret2
    exact ⟨by rw [HN.out]; rfl, L1.out⟩
  · go_wp2_with fail
    refine (l16Ok_any cb c a0 a1 a2 _ C1.out h1 hb1).mono ?_
    rintro e w2 ⟨rfl, hb⟩
    have C2 := Lib.hid (C1.out.keep hb)
    have L2 := Lib.hid (bT L1.out hb)
    have D0__ := Lib.hid (D0_.out.keep hb)
    clear d00 d01 d02
    obtain ⟨d00, d01, d02, _⟩ := D0__.out.c3
    have D1__ := Lib.hid (D1_.out.keep hb)
    clear d10 d11 d12
    obtain ⟨d10, d11, d12, _⟩ := D1__.out.c3
    clear hb
    cases h2 : okD c a0 a1 a2
    · have HN := Lib.hid (dbE_2 (b0 := b0) (b1 := b1) (b2 := b2) h1 h2)
      go_wp2_with fail
      go_ret2
      exact ⟨by rw [HN.out]; rfl, L2.out⟩
    go_wp2_with fail
    refine (l16Ok_any cb c b0 b1 b2 _ C2.out h1 hb2).mono ?_
    rintro e w3 ⟨rfl, hb⟩
    have C3 := Lib.hid (C2.out.keep hb)
    have L3 := Lib.hid (bT L2.out hb)
    have D0___ := Lib.hid (D0__.out.keep hb)
    clear d00 d01 d02
    obtain ⟨d00, d01, d02, _⟩ := D0___.out.c3
    have D1___ := Lib.hid (D1__.out.keep hb)
    clear d10 d11 d12
    obtain ⟨d10, d11, d12, _⟩ := D1___.out.c3
    clear hb
    cases h3 : okD c b0 b1 b2
    · have HN := Lib.hid (dbE_3 (a0 := a0) (a1 := a1) (a2 := a2) h1 h3)
      go_wp2_with fail
      go_ret2
      exact ⟨by rw [HN.out]; rfl, L3.out⟩
    · have HN := Lib.hid (dbE_0 h1 h2 h3)
      have CD := Lib.hid (fun W (h : CalAt W cb c) => l16Day_any cb c a0 a1 a2 W h h1 h2)
      have CE := Lib.hid (fun W (h : CalAt W cb c) => l16Day_any cb c b0 b1 b2 W h h1 h3)
      obtain ⟨_, _, _, g1, g2⟩ := dyN_bd h1 h2
      obtain ⟨_, _, _, g3, g4⟩ := dyN_bd h1 h3
      generalize dyN c a0 a1 a2 = n at *
      generalize dyN c b0 b1 b2 = m at *
      have v0 : IntKind.i64.wrap (m - n) = m - n := IntWalk.i64_in _ (by omega)
      have H0 := Lib.hid (show CbH w cb (cb + 1) (cb + 1 + 1) c a0 a1 a2 b0 b1 b2 w3 from ⟨d00, d01, d02, d10, d11, d12, D0___.out.lt, D1___.out.lt, C3.out, L3.out⟩)
      clear d00 d01 d02 d10 d11 d12 h1 h2 h3
      go_wp2_with fail
      go_region_held3 (fun w' => w'.cell? ⟨cb + 1, 0, none⟩ = some (.int .i64 a0) ∧ w'.cell? ⟨cb + 1, 1, none⟩ = some (.int .i64 a1) ∧ w'.cell? ⟨cb + 1, 2, none⟩ = some (.int .i64 a2) ∧ w'.cell? ⟨cb + 1 + 1, 0, none⟩ = some (.int .i64 b0) ∧ w'.cell? ⟨cb + 1 + 1, 1, none⟩ = some (.int .i64 b1) ∧ w'.cell? ⟨cb + 1 + 1, 2, none⟩ = some (.int .i64 b2) ∧ cb + 1 < w'.heap.size ∧ cb + 1 + 1 < w'.heap.size ∧ CalAt w' cb c ∧ Below w.heap.size w w') (first | exact H0.out.drew | exact CbH.keep hb (by first | assumption | exact H0.out.drew))
        ((go_at_call 41; have hS : CbH w cb (cb + 1) (cb + 1 + 1) c a0 a1 a2 b0 b1 b2 _ := (by first | assumption | exact H0.out.drew); have hQ := hS.2.2.2.2.2.2.2.2.1; clear hS; (first | (with_reducible refine Calls.mono (CE.out _ hQ) ?_) | (with_reducible refine Calls.mono (CD.out _ hQ) ?_)); clear hQ; rintro e w' ⟨rfl, hb⟩))
      have HT : CbH w cb (cb + 1) (cb + 1 + 1) c a0 a1 a2 b0 b1 b2 w' := by assumption
      have HU := Lib.hid HT.2.2.2.2.2.2.2.2.2
      clear HT H0
      go_wp2_with fail
      go_ret2
      exact ⟨by rw [HN.out]; rfl, HU.out⟩
end Go.Proofs.Ytbkhejideffflaa

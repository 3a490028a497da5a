/-
  The speeds of the members: the contracts of impl.SunOf, RingOf, PlanetOf and of spec.SunOf, RingOf, PlanetOf.
-/
import Derived.Test.YtcklcledchboiaaDoorSpd
namespace Go.Proofs.YtcklcledchboiaaDoor
open Go.RowKit

/-- The gears, two speeds and the result's box. -/
structure SpE (w : World) (k : Nat) (s r p c a b u v : Int) (W : World) : Prop where
  e : Box4 W k s r p c
  a : Box2 W (k + 1) a b
  u : Box2 W (k + 1 + 1) u v
  r : Box2 W (k + 1 + 1 + 1) 0 0
  l : Below w.heap.size w W
theorem SpE.keep {w W W' : World} {k : Nat} {s r p c a b u v : Int} (hb : Below W.heap.size W W') (h : SpE w k s r p c a b u v W) : SpE w k s r p c a b u v W' := ⟨h.e.keep hb, h.a.keep hb, h.u.keep hb, h.r.keep hb, bT h.l hb⟩
theorem SpE.start (w : World) (s r p c a b u v : Int) (T1 T2 : TypeId) : SpE w w.heap.size s r p c a b u v ((((w.alloc (.cells #[.int .i64 s, .int .i64 r, .int .i64 p, .int .i64 c] T1)).alloc (.cells #[.int .i64 a, .int .i64 b] T2)).alloc (.cells #[.int .i64 u, .int .i64 v] T2)).alloc (.cells #[.int .i64 0, .int .i64 0] T2)) :=
  ⟨(((Box4.new w s r p c T1).keep (bA (bR _) _)).keep (bA (bR _) _)).keep (bA (bR _) _), ((Box2.at_ (by simp)).alloc _).alloc _, (Box2.at_ (by simp)).alloc _, Box2.at_ (by simp), bA (bA (bA (bA (bR _) _) _) _) _⟩
/-- What the operations on the way ask of MakeRatio. -/
def DrP (P : Int → Int → Prop) (s r p c pd pn a b u v : Int) : Prop := okE s r p c = true → okR a b = true → okR u v = true → P (addX a b (-u) v) (mulX b v) ∧ (suC a b u v = 0 → P (mulX (suA a b u v) (rA pd pn)) (mulX (suB a b u v) (rB pd pn)) ∧
      (muC (suA a b u v) (suB a b u v) (rA pd pn) (rB pd pn) = 0 → P (addX u v (-(muA (suA a b u v) (suB a b u v) (rA pd pn) (rB pd pn))) (muB (suA a b u v) (suB a b u v) (rA pd pn) (rB pd pn))) (mulX v (muB (suA a b u v) (suB a b u v) (rA pd pn) (rB pd pn)))))
theorem okE_teeth {s r p c : Int} (h : okE s r p c = true) : (1 ≤ s ∧ s ≤ 1000) ∧ (1 ≤ r ∧ r ≤ 1000) ∧ 1 ≤ p ∧ p ≤ 1000 := by
  obtain ⟨a, b, d, _⟩ := okE_bd h
  omega
set_option maxRecDepth 100000 in
set_option maxHeartbeats 4000000 in
theorem SunOfI_any (s r p c a b u v : Int) (w : World) {P : Int → Int → Prop} (hM : MkW w P) (hS : Sines w) (hP : DrP P s r p c r s a b u v) :
    Calls Tryd.prog 32 #[.agg #[.int .i64 s, .int .i64 r, .int .i64 p, .int .i64 c], .agg #[.int .i64 a, .int .i64 b], .agg #[.int .i64 u, .int .i64 v]] w (RatC3 w (dr3 s r p c r s a b u v)) := by
  have D0 := Lib.hid (SpE.start w s r p c a b u v 25 27)
  have DR := Lib.hid (fun W (h1 : MkW W P) (h2 : Sines W) => drivenSpeed_any s r p c r s a b u v W h1 h2 (fun h => by have := okE_teeth h; omega) hP)
  have HS := Lib.hid hS
  have HM := Lib.hid hM
  clear hS hM hP
  have E3 : ∃ x3 y3 c3, dr3 s r p c r s a b u v = (x3, y3, c3) := ⟨_, _, _, rfl⟩
  obtain ⟨x3, y3, c3, e3⟩ := E3
  rw [e3] at DR ⊢
  clear e3
  go_enter Tryd.func32, Tryd.ntmps32
  go_wp2_with fail
  generalize (((w.alloc (.cells #[.int .i64 s, .int .i64 r, .int .i64 p, .int .i64 c] 25)).alloc (.cells #[.int .i64 a, .int .i64 b] 27)).alloc (.cells #[.int .i64 u, .int .i64 v] 27)).alloc (.cells #[.int .i64 0, .int .i64 0] 27) = W0 at *
  generalize hk : w.heap.size = k at *
  have hle : w.heap.size ≤ k + 1 + 1 + 1 := by omega
  try (obtain ⟨e0, e1, e2, e4, _⟩ := D0.out.e; obtain ⟨a0, a1, _, _, _⟩ := D0.out.a; obtain ⟨u0, u1, _, _, _⟩ := D0.out.u; go_wp2_with fail)
  refine (DR.out _ (HM.out.keep D0.out.l) (HS.out.keep D0.out.l)).mono ?_
  rintro e w1 ⟨rfl, hb⟩
  have D1 := Lib.hid (D0.out.keep hb)
  clear hb
  obtain ⟨z0, z1, z2, z3, z4⟩ := D1.out.r
  go_wp2_with fail
  refine bodyPost_ret (v := .tuple #[.agg #[.int .i64 x3, .int .i64 y3], .int .i64 c3]) ?_ rfl ⟨rfl, (D1.out.l.setCell hle _).setCell hle _⟩
  simp [results, Tryd.results32, go_sem, z0, z1]
set_option maxRecDepth 100000 in
set_option maxHeartbeats 4000000 in
theorem SunOfS_any (s r p c a b u v : Int) (w : World) :
    Calls Tryd.prog 30 #[.agg #[.int .i64 s, .int .i64 r, .int .i64 p, .int .i64 c], .agg #[.int .i64 a, .int .i64 b], .agg #[.int .i64 u, .int .i64 v]] w (RatC3 w (dr3 s r p c r s a b u v)) := by
  have D0 := Lib.hid (SpE.start w s r p c a b u v 25 27)
  have VE := Lib.hid (fun W => l07Ok_any s r p c W)
  have VA := Lib.hid (fun W => l02Ok_any a b W)
  have VU := Lib.hid (fun W => l02Ok_any u v W)
  cases h1 : okE s r p c
  · have EQ := Lib.hid (show dr3 s r p c r s a b u v = (0, 0, 1) from pick3_no _ (by simp [h1]))
    rw [h1] at VE
    clear h1
    rw [EQ.out]
    go_enter Tryd.func30, Tryd.ntmps30
    go_wp2_with fail
    generalize (((w.alloc (.cells #[.int .i64 s, .int .i64 r, .int .i64 p, .int .i64 c] 25)).alloc (.cells #[.int .i64 a, .int .i64 b] 27)).alloc (.cells #[.int .i64 u, .int .i64 v] 27)).alloc (.cells #[.int .i64 0, .int .i64 0] 27) = W0 at *
    generalize hk : w.heap.size = k at *
    have hle : w.heap.size ≤ k + 1 + 1 + 1 := by omega
    refine (VE.out _).mono ?_
    rintro e w1 ⟨rfl, hb⟩
    have D1 := Lib.hid (D0.out.keep hb)
    clear hb
    obtain ⟨y0, y1, _, _, _⟩ := D1.out.a
    obtain ⟨z0, z1, z2, z3, z4⟩ := D1.out.r
    go_wp2_with fail
    refine bodyPost_ret (v := .tuple #[.agg #[.int .i64 0, .int .i64 0], .int .i64 1]) ?_ rfl ⟨rfl, (D1.out.l.setCell hle _).setCell hle _⟩
    simp [results, Tryd.results30, go_sem, z0, z1]
  · cases h2 : okR a b
    · have EQ := Lib.hid (show dr3 s r p c r s a b u v = (0, 0, 1) from pick3_no _ (by simp [h2]))
      rw [h1] at VE
      rw [h2] at VA
      clear h1 h2
      rw [EQ.out]
      go_enter Tryd.func30, Tryd.ntmps30
      go_wp2_with fail
      generalize (((w.alloc (.cells #[.int .i64 s, .int .i64 r, .int .i64 p, .int .i64 c] 25)).alloc (.cells #[.int .i64 a, .int .i64 b] 27)).alloc (.cells #[.int .i64 u, .int .i64 v] 27)).alloc (.cells #[.int .i64 0, .int .i64 0] 27) = W0 at *
      generalize hk : w.heap.size = k at *
      have hle : w.heap.size ≤ k + 1 + 1 + 1 := by omega
      refine (VE.out _).mono ?_
      rintro e w1 ⟨rfl, hb⟩
      have D1 := Lib.hid (D0.out.keep hb)
      clear hb
      obtain ⟨y0, y1, _, _, _⟩ := D1.out.a
      obtain ⟨z0, z1, z2, z3, z4⟩ := D1.out.r
      go_wp2_with fail
      refine (VA.out _).mono ?_
      rintro e w2 ⟨rfl, hb⟩
      have D2 := Lib.hid (D1.out.keep hb)
      clear hb y0 y1 z0 z1 z2 z3 z4
      obtain ⟨y0, y1, _, _, _⟩ := D2.out.u
      obtain ⟨z0, z1, z2, z3, z4⟩ := D2.out.r
      go_wp2_with fail
      refine bodyPost_ret (v := .tuple #[.agg #[.int .i64 0, .int .i64 0], .int .i64 1]) ?_ rfl ⟨rfl, (D2.out.l.setCell hle _).setCell hle _⟩
      simp [results, Tryd.results30, go_sem, z0, z1]
    · cases h3 : okR u v
      · have EQ := Lib.hid (show dr3 s r p c r s a b u v = (0, 0, 1) from pick3_no _ (by simp [h3]))
        rw [h1] at VE
        rw [h2] at VA
        rw [h3] at VU
        clear h1 h2 h3
        rw [EQ.out]
        go_enter Tryd.func30, Tryd.ntmps30
        go_wp2_with fail
        generalize (((w.alloc (.cells #[.int .i64 s, .int .i64 r, .int .i64 p, .int .i64 c] 25)).alloc (.cells #[.int .i64 a, .int .i64 b] 27)).alloc (.cells #[.int .i64 u, .int .i64 v] 27)).alloc (.cells #[.int .i64 0, .int .i64 0] 27) = W0 at *
        generalize hk : w.heap.size = k at *
        have hle : w.heap.size ≤ k + 1 + 1 + 1 := by omega
        refine (VE.out _).mono ?_
        rintro e w1 ⟨rfl, hb⟩
        have D1 := Lib.hid (D0.out.keep hb)
        clear hb
        obtain ⟨y0, y1, _, _, _⟩ := D1.out.a
        obtain ⟨z0, z1, z2, z3, z4⟩ := D1.out.r
        go_wp2_with fail
        refine (VA.out _).mono ?_
        rintro e w2 ⟨rfl, hb⟩
        have D2 := Lib.hid (D1.out.keep hb)
        clear hb y0 y1 z0 z1 z2 z3 z4
        obtain ⟨y0, y1, _, _, _⟩ := D2.out.u
        obtain ⟨z0, z1, z2, z3, z4⟩ := D2.out.r
        go_wp2_with fail
        refine (VU.out _).mono ?_
        rintro e w3 ⟨rfl, hb⟩
        have D3 := Lib.hid (D2.out.keep hb)
        clear hb y0 y1 z0 z1 z2 z3 z4
        obtain ⟨z0, z1, z2, z3, z4⟩ := D3.out.r
        go_wp2_with fail
        refine bodyPost_ret (v := .tuple #[.agg #[.int .i64 0, .int .i64 0], .int .i64 1]) ?_ rfl ⟨rfl, (D3.out.l.setCell hle _).setCell hle _⟩
        simp [results, Tryd.results30, go_sem, z0, z1]
      · have EQ := Lib.hid (show dr3 s r p c r s a b u v = tu3 a b u v (rA r s) (rB r s) by simp [dr3, h1, h2, h3])
        obtain ⟨⟨t1, t2⟩, ⟨t3, t4⟩, t5, t6⟩ := okE_teeth h1
        have TU := Lib.hid (fun W => l07Turn_any a b u v r s W (by omega) (by omega) (by omega) (by omega))
        rw [h1] at VE
        rw [h2] at VA
        rw [h3] at VU
        clear h1 h2 h3 t1 t2 t3 t4 t5 t6
        rw [EQ.out]
        clear EQ
        have E3 : ∃ x3 y3 c3, tu3 a b u v (rA r s) (rB r s) = (x3, y3, c3) := ⟨_, _, _, rfl⟩
        obtain ⟨x3, y3, c3, e3⟩ := E3
        rw [e3] at TU ⊢
        clear e3
        go_enter Tryd.func30, Tryd.ntmps30
        go_wp2_with fail
        generalize (((w.alloc (.cells #[.int .i64 s, .int .i64 r, .int .i64 p, .int .i64 c] 25)).alloc (.cells #[.int .i64 a, .int .i64 b] 27)).alloc (.cells #[.int .i64 u, .int .i64 v] 27)).alloc (.cells #[.int .i64 0, .int .i64 0] 27) = W0 at *
        generalize hk : w.heap.size = k at *
        have hle : w.heap.size ≤ k + 1 + 1 + 1 := by omega
        refine (VE.out _).mono ?_
        rintro e w1 ⟨rfl, hb⟩
        have D1 := Lib.hid (D0.out.keep hb)
        clear hb
        obtain ⟨y0, y1, _, _, _⟩ := D1.out.a
        obtain ⟨z0, z1, z2, z3, z4⟩ := D1.out.r
        go_wp2_with fail
        refine (VA.out _).mono ?_
        rintro e w2 ⟨rfl, hb⟩
        have D2 := Lib.hid (D1.out.keep hb)
        clear hb y0 y1 z0 z1 z2 z3 z4
        obtain ⟨y0, y1, _, _, _⟩ := D2.out.u
        obtain ⟨z0, z1, z2, z3, z4⟩ := D2.out.r
        go_wp2_with fail
        refine (VU.out _).mono ?_
        rintro e w3 ⟨rfl, hb⟩
        have D3 := Lib.hid (D2.out.keep hb)
        clear hb y0 y1 z0 z1 z2 z3 z4
        obtain ⟨z0, z1, z2, z3, z4⟩ := D3.out.r
        obtain ⟨e0, e1, e2, e4, _⟩ := D3.out.e
        obtain ⟨a0, a1, _, _, _⟩ := D3.out.a
        obtain ⟨u0, u1, _, _, _⟩ := D3.out.u
        go_wp2_with fail
        refine (TU.out _).mono ?_
        rintro e w4 ⟨rfl, hb⟩
        have D4 := Lib.hid (D3.out.keep hb)
        clear hb z0 z1 z2 z3 z4 e0 e1 e2 e4 a0 a1 u0 u1
        obtain ⟨z0, z1, z2, z3, z4⟩ := D4.out.r
        go_wp2_with fail
        refine bodyPost_ret (v := .tuple #[.agg #[.int .i64 x3, .int .i64 y3], .int .i64 c3]) ?_ rfl ⟨rfl, (D4.out.l.setCell hle _).setCell hle _⟩
        simp [results, Tryd.results30, go_sem, z0, z1]
set_option maxRecDepth 100000 in
set_option maxHeartbeats 4000000 in
theorem RingOfI_any (s r p c a b u v : Int) (w : World) {P : Int → Int → Prop} (hM : MkW w P) (hS : Sines w) (hP : DrP P s r p c s r a b u v) :
    Calls Tryd.prog 35 #[.agg #[.int .i64 s, .int .i64 r, .int .i64 p, .int .i64 c], .agg #[.int .i64 a, .int .i64 b], .agg #[.int .i64 u, .int .i64 v]] w (RatC3 w (dr3 s r p c s r a b u v)) := by
  have D0 := Lib.hid (SpE.start w s r p c a b u v 25 27)
  have DR := Lib.hid (fun W (h1 : MkW W P) (h2 : Sines W) => drivenSpeed_any s r p c s r a b u v W h1 h2 (fun h => by have := okE_teeth h; omega) hP)
  have HS := Lib.hid hS
  have HM := Lib.hid hM
  clear hS hM hP
  have E3 : ∃ x3 y3 c3, dr3 s r p c s r a b u v = (x3, y3, c3) := ⟨_, _, _, rfl⟩
  obtain ⟨x3, y3, c3, e3⟩ := E3
  rw [e3] at DR ⊢
  clear e3
  go_enter Tryd.func35, Tryd.ntmps35
  go_wp2_with fail
  generalize (((w.alloc (.cells #[.int .i64 s, .int .i64 r, .int .i64 p, .int .i64 c] 25)).alloc (.cells #[.int .i64 a, .int .i64 b] 27)).alloc (.cells #[.int .i64 u, .int .i64 v] 27)).alloc (.cells #[.int .i64 0, .int .i64 0] 27) = W0 at *
  generalize hk : w.heap.size = k at *
  have hle : w.heap.size ≤ k + 1 + 1 + 1 := by omega
  try (obtain ⟨e0, e1, e2, e4, _⟩ := D0.out.e; obtain ⟨a0, a1, _, _, _⟩ := D0.out.a; obtain ⟨u0, u1, _, _, _⟩ := D0.out.u; go_wp2_with fail)
  refine (DR.out _ (HM.out.keep D0.out.l) (HS.out.keep D0.out.l)).mono ?_
  rintro e w1 ⟨rfl, hb⟩
  have D1 := Lib.hid (D0.out.keep hb)
  clear hb
  obtain ⟨z0, z1, z2, z3, z4⟩ := D1.out.r
  go_wp2_with fail
  refine bodyPost_ret (v := .tuple #[.agg #[.int .i64 x3, .int .i64 y3], .int .i64 c3]) ?_ rfl ⟨rfl, (D1.out.l.setCell hle _).setCell hle _⟩
  simp [results, Tryd.results35, go_sem, z0, z1]
set_option maxRecDepth 100000 in
set_option maxHeartbeats 4000000 in
theorem RingOfS_any (s r p c a b u v : Int) (w : World) :
    Calls Tryd.prog 34 #[.agg #[.int .i64 s, .int .i64 r, .int .i64 p, .int .i64 c], .agg #[.int .i64 a, .int .i64 b], .agg #[.int .i64 u, .int .i64 v]] w (RatC3 w (dr3 s r p c s r a b u v)) := by
  have D0 := Lib.hid (SpE.start w s r p c a b u v 25 27)
  have VE := Lib.hid (fun W => l07Ok_any s r p c W)
  have VA := Lib.hid (fun W => l02Ok_any a b W)
  have VU := Lib.hid (fun W => l02Ok_any u v W)
  cases h1 : okE s r p c
  · have EQ := Lib.hid (show dr3 s r p c s r a b u v = (0, 0, 1) from pick3_no _ (by simp [h1]))
    rw [h1] at VE
    clear h1
    rw [EQ.out]
    go_enter Tryd.func34, Tryd.ntmps34
    go_wp2_with fail
    generalize (((w.alloc (.cells #[.int .i64 s, .int .i64 r, .int .i64 p, .int .i64 c] 25)).alloc (.cells #[.int .i64 a, .int .i64 b] 27)).alloc (.cells #[.int .i64 u, .int .i64 v] 27)).alloc (.cells #[.int .i64 0, .int .i64 0] 27) = W0 at *
    generalize hk : w.heap.size = k at *
    have hle : w.heap.size ≤ k + 1 + 1 + 1 := by omega
    refine (VE.out _).mono ?_
    rintro e w1 ⟨rfl, hb⟩
    have D1 := Lib.hid (D0.out.keep hb)
    clear hb
    obtain ⟨y0, y1, _, _, _⟩ := D1.out.a
    obtain ⟨z0, z1, z2, z3, z4⟩ := D1.out.r
    go_wp2_with fail
    refine bodyPost_ret (v := .tuple #[.agg #[.int .i64 0, .int .i64 0], .int .i64 1]) ?_ rfl ⟨rfl, (D1.out.l.setCell hle _).setCell hle _⟩
    simp [results, Tryd.results34, go_sem, z0, z1]
  · cases h2 : okR a b
    · have EQ := Lib.hid (show dr3 s r p c s r a b u v = (0, 0, 1) from pick3_no _ (by simp [h2]))
      rw [h1] at VE
      rw [h2] at VA
      clear h1 h2
      rw [EQ.out]
      go_enter Tryd.func34, Tryd.ntmps34
      go_wp2_with fail
      generalize (((w.alloc (.cells #[.int .i64 s, .int .i64 r, .int .i64 p, .int .i64 c] 25)).alloc (.cells #[.int .i64 a, .int .i64 b] 27)).alloc (.cells #[.int .i64 u, .int .i64 v] 27)).alloc (.cells #[.int .i64 0, .int .i64 0] 27) = W0 at *
      generalize hk : w.heap.size = k at *
      have hle : w.heap.size ≤ k + 1 + 1 + 1 := by omega
      refine (VE.out _).mono ?_
      rintro e w1 ⟨rfl, hb⟩
      have D1 := Lib.hid (D0.out.keep hb)
      clear hb
      obtain ⟨y0, y1, _, _, _⟩ := D1.out.a
      obtain ⟨z0, z1, z2, z3, z4⟩ := D1.out.r
      go_wp2_with fail
      refine (VA.out _).mono ?_
      rintro e w2 ⟨rfl, hb⟩
      have D2 := Lib.hid (D1.out.keep hb)
      clear hb y0 y1 z0 z1 z2 z3 z4
      obtain ⟨y0, y1, _, _, _⟩ := D2.out.u
      obtain ⟨z0, z1, z2, z3, z4⟩ := D2.out.r
      go_wp2_with fail
      refine bodyPost_ret (v := .tuple #[.agg #[.int .i64 0, .int .i64 0], .int .i64 1]) ?_ rfl ⟨rfl, (D2.out.l.setCell hle _).setCell hle _⟩
      simp [results, Tryd.results34, go_sem, z0, z1]
    · cases h3 : okR u v
      · have EQ := Lib.hid (show dr3 s r p c s r a b u v = (0, 0, 1) from pick3_no _ (by simp [h3]))
        rw [h1] at VE
        rw [h2] at VA
        rw [h3] at VU
        clear h1 h2 h3
        rw [EQ.out]
        go_enter Tryd.func34, Tryd.ntmps34
        go_wp2_with fail
        generalize (((w.alloc (.cells #[.int .i64 s, .int .i64 r, .int .i64 p, .int .i64 c] 25)).alloc (.cells #[.int .i64 a, .int .i64 b] 27)).alloc (.cells #[.int .i64 u, .int .i64 v] 27)).alloc (.cells #[.int .i64 0, .int .i64 0] 27) = W0 at *
        generalize hk : w.heap.size = k at *
        have hle : w.heap.size ≤ k + 1 + 1 + 1 := by omega
        refine (VE.out _).mono ?_
        rintro e w1 ⟨rfl, hb⟩
        have D1 := Lib.hid (D0.out.keep hb)
        clear hb
        obtain ⟨y0, y1, _, _, _⟩ := D1.out.a
        obtain ⟨z0, z1, z2, z3, z4⟩ := D1.out.r
        go_wp2_with fail
        refine (VA.out _).mono ?_
        rintro e w2 ⟨rfl, hb⟩
        have D2 := Lib.hid (D1.out.keep hb)
        clear hb y0 y1 z0 z1 z2 z3 z4
        obtain ⟨y0, y1, _, _, _⟩ := D2.out.u
        obtain ⟨z0, z1, z2, z3, z4⟩ := D2.out.r
        go_wp2_with fail
        refine (VU.out _).mono ?_
        rintro e w3 ⟨rfl, hb⟩
        have D3 := Lib.hid (D2.out.keep hb)
        clear hb y0 y1 z0 z1 z2 z3 z4
        obtain ⟨z0, z1, z2, z3, z4⟩ := D3.out.r
        go_wp2_with fail
        refine bodyPost_ret (v := .tuple #[.agg #[.int .i64 0, .int .i64 0], .int .i64 1]) ?_ rfl ⟨rfl, (D3.out.l.setCell hle _).setCell hle _⟩
        simp [results, Tryd.results34, go_sem, z0, z1]
      · have EQ := Lib.hid (show dr3 s r p c s r a b u v = tu3 a b u v (rA s r) (rB s r) by simp [dr3, h1, h2, h3])
        obtain ⟨⟨t1, t2⟩, ⟨t3, t4⟩, t5, t6⟩ := okE_teeth h1
        have TU := Lib.hid (fun W => l07Turn_any a b u v s r W (by omega) (by omega) (by omega) (by omega))
        rw [h1] at VE
        rw [h2] at VA
        rw [h3] at VU
        clear h1 h2 h3 t1 t2 t3 t4 t5 t6
        rw [EQ.out]
        clear EQ
        have E3 : ∃ x3 y3 c3, tu3 a b u v (rA s r) (rB s r) = (x3, y3, c3) := ⟨_, _, _, rfl⟩
        obtain ⟨x3, y3, c3, e3⟩ := E3
        rw [e3] at TU ⊢
        clear e3
        go_enter Tryd.func34, Tryd.ntmps34
        go_wp2_with fail
        generalize (((w.alloc (.cells #[.int .i64 s, .int .i64 r, .int .i64 p, .int .i64 c] 25)).alloc (.cells #[.int .i64 a, .int .i64 b] 27)).alloc (.cells #[.int .i64 u, .int .i64 v] 27)).alloc (.cells #[.int .i64 0, .int .i64 0] 27) = W0 at *
        generalize hk : w.heap.size = k at *
        have hle : w.heap.size ≤ k + 1 + 1 + 1 := by omega
        refine (VE.out _).mono ?_
        rintro e w1 ⟨rfl, hb⟩
        have D1 := Lib.hid (D0.out.keep hb)
        clear hb
        obtain ⟨y0, y1, _, _, _⟩ := D1.out.a
        obtain ⟨z0, z1, z2, z3, z4⟩ := D1.out.r
        go_wp2_with fail
        refine (VA.out _).mono ?_
        rintro e w2 ⟨rfl, hb⟩
        have D2 := Lib.hid (D1.out.keep hb)
        clear hb y0 y1 z0 z1 z2 z3 z4
        obtain ⟨y0, y1, _, _, _⟩ := D2.out.u
        obtain ⟨z0, z1, z2, z3, z4⟩ := D2.out.r
        go_wp2_with fail
        refine (VU.out _).mono ?_
        rintro e w3 ⟨rfl, hb⟩
        have D3 := Lib.hid (D2.out.keep hb)
        clear hb y0 y1 z0 z1 z2 z3 z4
        obtain ⟨z0, z1, z2, z3, z4⟩ := D3.out.r
        obtain ⟨e0, e1, e2, e4, _⟩ := D3.out.e
        obtain ⟨a0, a1, _, _, _⟩ := D3.out.a
        obtain ⟨u0, u1, _, _, _⟩ := D3.out.u
        go_wp2_with fail
        refine (TU.out _).mono ?_
        rintro e w4 ⟨rfl, hb⟩
        have D4 := Lib.hid (D3.out.keep hb)
        clear hb z0 z1 z2 z3 z4 e0 e1 e2 e4 a0 a1 u0 u1
        obtain ⟨z0, z1, z2, z3, z4⟩ := D4.out.r
        go_wp2_with fail
        refine bodyPost_ret (v := .tuple #[.agg #[.int .i64 x3, .int .i64 y3], .int .i64 c3]) ?_ rfl ⟨rfl, (D4.out.l.setCell hle _).setCell hle _⟩
        simp [results, Tryd.results34, go_sem, z0, z1]
set_option maxRecDepth 100000 in
set_option maxHeartbeats 4000000 in
theorem PlanetOfI_any (s r p c a b u v : Int) (w : World) {P : Int → Int → Prop} (hM : MkW w P) (hS : Sines w) (hP : DrP P s r p c s p a b u v) :
    Calls Tryd.prog 39 #[.agg #[.int .i64 s, .int .i64 r, .int .i64 p, .int .i64 c], .agg #[.int .i64 a, .int .i64 b], .agg #[.int .i64 u, .int .i64 v]] w (RatC3 w (dr3 s r p c s p a b u v)) := by
  have D0 := Lib.hid (SpE.start w s r p c a b u v 25 27)
  have DR := Lib.hid (fun W (h1 : MkW W P) (h2 : Sines W) => drivenSpeed_any s r p c s p a b u v W h1 h2 (fun h => by have := okE_teeth h; omega) hP)
  have HS := Lib.hid hS
  have HM := Lib.hid hM
  clear hS hM hP
  have E3 : ∃ x3 y3 c3, dr3 s r p c s p a b u v = (x3, y3, c3) := ⟨_, _, _, rfl⟩
  obtain ⟨x3, y3, c3, e3⟩ := E3
  rw [e3] at DR ⊢
  clear e3
  go_enter Tryd.func39, Tryd.ntmps39
  go_wp2_with fail
  generalize (((w.alloc (.cells #[.int .i64 s, .int .i64 r, .int .i64 p, .int .i64 c] 25)).alloc (.cells #[.int .i64 a, .int .i64 b] 27)).alloc (.cells #[.int .i64 u, .int .i64 v] 27)).alloc (.cells #[.int .i64 0, .int .i64 0] 27) = W0 at *
  generalize hk : w.heap.size = k at *
  have hle : w.heap.size ≤ k + 1 + 1 + 1 := by omega
  try (obtain ⟨e0, e1, e2, e4, _⟩ := D0.out.e; obtain ⟨a0, a1, _, _, _⟩ := D0.out.a; obtain ⟨u0, u1, _, _, _⟩ := D0.out.u; go_wp2_with fail)
  refine (DR.out _ (HM.out.keep D0.out.l) (HS.out.keep D0.out.l)).mono ?_
  rintro e w1 ⟨rfl, hb⟩
  have D1 := Lib.hid (D0.out.keep hb)
  clear hb
  obtain ⟨z0, z1, z2, z3, z4⟩ := D1.out.r
  go_wp2_with fail
  refine bodyPost_ret (v := .tuple #[.agg #[.int .i64 x3, .int .i64 y3], .int .i64 c3]) ?_ rfl ⟨rfl, (D1.out.l.setCell hle _).setCell hle _⟩
  simp [results, Tryd.results39, go_sem, z0, z1]
set_option maxRecDepth 100000 in
set_option maxHeartbeats 4000000 in
theorem PlanetOfS_any (s r p c a b u v : Int) (w : World) :
    Calls Tryd.prog 38 #[.agg #[.int .i64 s, .int .i64 r, .int .i64 p, .int .i64 c], .agg #[.int .i64 a, .int .i64 b], .agg #[.int .i64 u, .int .i64 v]] w (RatC3 w (dr3 s r p c s p a b u v)) := by
  have D0 := Lib.hid (SpE.start w s r p c a b u v 25 27)
  have VE := Lib.hid (fun W => l07Ok_any s r p c W)
  have VA := Lib.hid (fun W => l02Ok_any a b W)
  have VU := Lib.hid (fun W => l02Ok_any u v W)
  cases h1 : okE s r p c
  · have EQ := Lib.hid (show dr3 s r p c s p a b u v = (0, 0, 1) from pick3_no _ (by simp [h1]))
    rw [h1] at VE
    clear h1
    rw [EQ.out]
    go_enter Tryd.func38, Tryd.ntmps38
    go_wp2_with fail
    generalize (((w.alloc (.cells #[.int .i64 s, .int .i64 r, .int .i64 p, .int .i64 c] 25)).alloc (.cells #[.int .i64 a, .int .i64 b] 27)).alloc (.cells #[.int .i64 u, .int .i64 v] 27)).alloc (.cells #[.int .i64 0, .int .i64 0] 27) = W0 at *
    generalize hk : w.heap.size = k at *
    have hle : w.heap.size ≤ k + 1 + 1 + 1 := by omega
    refine (VE.out _).mono ?_
    rintro e w1 ⟨rfl, hb⟩
    have D1 := Lib.hid (D0.out.keep hb)
    clear hb
    obtain ⟨y0, y1, _, _, _⟩ := D1.out.a
    obtain ⟨z0, z1, z2, z3, z4⟩ := D1.out.r
    go_wp2_with fail
    refine bodyPost_ret (v := .tuple #[.agg #[.int .i64 0, .int .i64 0], .int .i64 1]) ?_ rfl ⟨rfl, (D1.out.l.setCell hle _).setCell hle _⟩
    simp [results, Tryd.results38, go_sem, z0, z1]
  · cases h2 : okR a b
    · have EQ := Lib.hid (show dr3 s r p c s p a b u v = (0, 0, 1) from pick3_no _ (by simp [h2]))
      rw [h1] at VE
      rw [h2] at VA
      clear h1 h2
      rw [EQ.out]
      go_enter Tryd.func38, Tryd.ntmps38
      go_wp2_with fail
      generalize (((w.alloc (.cells #[.int .i64 s, .int .i64 r, .int .i64 p, .int .i64 c] 25)).alloc (.cells #[.int .i64 a, .int .i64 b] 27)).alloc (.cells #[.int .i64 u, .int .i64 v] 27)).alloc (.cells #[.int .i64 0, .int .i64 0] 27) = W0 at *
      generalize hk : w.heap.size = k at *
      have hle : w.heap.size ≤ k + 1 + 1 + 1 := by omega
      refine (VE.out _).mono ?_
      rintro e w1 ⟨rfl, hb⟩
      have D1 := Lib.hid (D0.out.keep hb)
      clear hb
      obtain ⟨y0, y1, _, _, _⟩ := D1.out.a
      obtain ⟨z0, z1, z2, z3, z4⟩ := D1.out.r
      go_wp2_with fail
      refine (VA.out _).mono ?_
      rintro e w2 ⟨rfl, hb⟩
      have D2 := Lib.hid (D1.out.keep hb)
      clear hb y0 y1 z0 z1 z2 z3 z4
      obtain ⟨y0, y1, _, _, _⟩ := D2.out.u
      obtain ⟨z0, z1, z2, z3, z4⟩ := D2.out.r
      go_wp2_with fail
      refine bodyPost_ret (v := .tuple #[.agg #[.int .i64 0, .int .i64 0], .int .i64 1]) ?_ rfl ⟨rfl, (D2.out.l.setCell hle _).setCell hle _⟩
      simp [results, Tryd.results38, go_sem, z0, z1]
    · cases h3 : okR u v
      · have EQ := Lib.hid (show dr3 s r p c s p a b u v = (0, 0, 1) from pick3_no _ (by simp [h3]))
        rw [h1] at VE
        rw [h2] at VA
        rw [h3] at VU
        clear h1 h2 h3
        rw [EQ.out]
        go_enter Tryd.func38, Tryd.ntmps38
        go_wp2_with fail
        generalize (((w.alloc (.cells #[.int .i64 s, .int .i64 r, .int .i64 p, .int .i64 c] 25)).alloc (.cells #[.int .i64 a, .int .i64 b] 27)).alloc (.cells #[.int .i64 u, .int .i64 v] 27)).alloc (.cells #[.int .i64 0, .int .i64 0] 27) = W0 at *
        generalize hk : w.heap.size = k at *
        have hle : w.heap.size ≤ k + 1 + 1 + 1 := by omega
        refine (VE.out _).mono ?_
        rintro e w1 ⟨rfl, hb⟩
        have D1 := Lib.hid (D0.out.keep hb)
        clear hb
        obtain ⟨y0, y1, _, _, _⟩ := D1.out.a
        obtain ⟨z0, z1, z2, z3, z4⟩ := D1.out.r
        go_wp2_with fail
        refine (VA.out _).mono ?_
        rintro e w2 ⟨rfl, hb⟩
        have D2 := Lib.hid (D1.out.keep hb)
        clear hb y0 y1 z0 z1 z2 z3 z4
        obtain ⟨y0, y1, _, _, _⟩ := D2.out.u
        obtain ⟨z0, z1, z2, z3, z4⟩ := D2.out.r
        go_wp2_with fail
        refine (VU.out _).mono ?_
        rintro e w3 ⟨rfl, hb⟩
        have D3 := Lib.hid (D2.out.keep hb)
        clear hb y0 y1 z0 z1 z2 z3 z4
        obtain ⟨z0, z1, z2, z3, z4⟩ := D3.out.r
        go_wp2_with fail
        refine bodyPost_ret (v := .tuple #[.agg #[.int .i64 0, .int .i64 0], .int .i64 1]) ?_ rfl ⟨rfl, (D3.out.l.setCell hle _).setCell hle _⟩
        simp [results, Tryd.results38, go_sem, z0, z1]
      · have EQ := Lib.hid (show dr3 s r p c s p a b u v = tu3 a b u v (rA s p) (rB s p) by simp [dr3, h1, h2, h3])
        obtain ⟨⟨t1, t2⟩, ⟨t3, t4⟩, t5, t6⟩ := okE_teeth h1
        have TU := Lib.hid (fun W => l07Turn_any a b u v s p W (by omega) (by omega) (by omega) (by omega))
        rw [h1] at VE
        rw [h2] at VA
        rw [h3] at VU
        clear h1 h2 h3 t1 t2 t3 t4 t5 t6
        rw [EQ.out]
        clear EQ
        have E3 : ∃ x3 y3 c3, tu3 a b u v (rA s p) (rB s p) = (x3, y3, c3) := ⟨_, _, _, rfl⟩
        obtain ⟨x3, y3, c3, e3⟩ := E3
        rw [e3] at TU ⊢
        clear e3
        go_enter Tryd.func38, Tryd.ntmps38
        go_wp2_with fail
        generalize (((w.alloc (.cells #[.int .i64 s, .int .i64 r, .int .i64 p, .int .i64 c] 25)).alloc (.cells #[.int .i64 a, .int .i64 b] 27)).alloc (.cells #[.int .i64 u, .int .i64 v] 27)).alloc (.cells #[.int .i64 0, .int .i64 0] 27) = W0 at *
        generalize hk : w.heap.size = k at *
        have hle : w.heap.size ≤ k + 1 + 1 + 1 := by omega
        refine (VE.out _).mono ?_
        rintro e w1 ⟨rfl, hb⟩
        have D1 := Lib.hid (D0.out.keep hb)
        clear hb
        obtain ⟨y0, y1, _, _, _⟩ := D1.out.a
        obtain ⟨z0, z1, z2, z3, z4⟩ := D1.out.r
        go_wp2_with fail
        refine (VA.out _).mono ?_
        rintro e w2 ⟨rfl, hb⟩
        have D2 := Lib.hid (D1.out.keep hb)
        clear hb y0 y1 z0 z1 z2 z3 z4
        obtain ⟨y0, y1, _, _, _⟩ := D2.out.u
        obtain ⟨z0, z1, z2, z3, z4⟩ := D2.out.r
        go_wp2_with fail
        refine (VU.out _).mono ?_
        rintro e w3 ⟨rfl, hb⟩
        have D3 := Lib.hid (D2.out.keep hb)
        clear hb y0 y1 z0 z1 z2 z3 z4
        obtain ⟨z0, z1, z2, z3, z4⟩ := D3.out.r
        obtain ⟨e0, e1, e2, e4, _⟩ := D3.out.e
        obtain ⟨a0, a1, _, _, _⟩ := D3.out.a
        obtain ⟨u0, u1, _, _, _⟩ := D3.out.u
        go_wp2_with fail
        refine (TU.out _).mono ?_
        rintro e w4 ⟨rfl, hb⟩
        have D4 := Lib.hid (D3.out.keep hb)
        clear hb z0 z1 z2 z3 z4 e0 e1 e2 e4 a0 a1 u0 u1
        obtain ⟨z0, z1, z2, z3, z4⟩ := D4.out.r
        go_wp2_with fail
        refine bodyPost_ret (v := .tuple #[.agg #[.int .i64 x3, .int .i64 y3], .int .i64 c3]) ?_ rfl ⟨rfl, (D4.out.l.setCell hle _).setCell hle _⟩
        simp [results, Tryd.results38, go_sem, z0, z1]
end Go.Proofs.YtcklcledchboiaaDoor

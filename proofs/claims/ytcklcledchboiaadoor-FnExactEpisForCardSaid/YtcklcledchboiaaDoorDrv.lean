/-
  The speed of a driven wheel: the contracts of impl.teethRatio and impl.Epi.drivenSpeed.
-/
import Derived.Test.YtcklcledchboiaaDoorEpI
import Derived.Test.YtcklcledchboiaaDoorOpG
import Derived.Test.YtcklcledchboiaaDoorCarry
import Derived.Deep.DeepCutAuto
import Derived.Deep.RegionHeld3
namespace Go.Proofs.YtcklcledchboiaaDoor
open Go.RowKit

def RatC3 (w : World) (x : R3) : Ending → World → Prop := RatC w x.1 x.2.1 x.2.2
theorem low_small {a b : Int} (h1 : 1 ≤ a) (h2 : a ≤ 1000) (h3 : 1 ≤ b) (h4 : b ≤ 1000) : lowOk a b = true := by
  have e1 : lowN a b ≤ a := by
    unfold lowN
    have : ((a.natAbs : Nat) : Int) = a := by omega
    rw [this]
    exact Int.ediv_le_self _ (by omega)
  have e2 : lowD a b ≤ b := by
    unfold lowD
    have : ((b.natAbs : Nat) : Int) = b := by omega
    rw [this]
    exact Int.ediv_le_self _ (by omega)
  unfold lowOk
  exact decide_eq_true ⟨by omega, by omega⟩
set_option maxHeartbeats 1000000 in
theorem teethRatio_any (a b : Int) (w : World) (h1 : 1 ≤ a) (h2 : a ≤ 1000) (h3 : 1 ≤ b) (h4 : b ≤ 1000) :
    Calls Tryd.prog 79 #[.int .i64 a, .int .i64 b] w fun e w' => e = .returned (.agg #[.int .i64 (rA a b), .int .i64 (rB a b)]) ∧ Below w.heap.size w w' := by
  have M := Lib.hid (fun W => MakeRatioI_low a b W (by omega) (low_small h1 h2 h3 h4) (by omega) (by omega) (by omega) (by omega))
  have B0 := Lib.hid (Box2.new w 0 0 27)
  have L0 := Lib.hid (bA (bR w) (.cells #[.int .i64 0, .int .i64 0] 27))
  generalize rA a b = x at *
  generalize rB a b = y at *
  generalize rC a b = z at *
  go_enter Tryd.func79, Tryd.ntmps79
  go_wp2_with fail
  refine (M.out _).mono ?_
  rintro e w1 ⟨rfl, hb⟩
  have B1 := Lib.hid (B0.out.keep hb)
  have L1 := Lib.hid (bT L0.out hb)
  clear hb
  obtain ⟨x0, x1, x2, x3, x4⟩ := B1.out
  go_wp2_with fail
  refine bodyPost_ret (v := .agg #[.int .i64 x, .int .i64 y]) ?_ rfl ⟨rfl, bA ((L1.out.setCell (Nat.le_refl _) _).setCell (Nat.le_refl _) _) _⟩
  simp [results, Tryd.results79, go_sem, x0, x1, x4]
/-- What stands while the speed is computed: the gears, the pair of wheels, the driver's speed, the carrier's, and the result's box. -/
structure DrS (w : World) (k : Nat) (s r p c pd pn a b u v : Int) (W : World) : Prop where
  e : Box4 W k s r p c
  p : Box2 W (k + 1) pd pn
  a : Box2 W (k + 1 + 1) a b
  u : Box2 W (k + 1 + 1 + 1) u v
  r : Box2 W (k + 1 + 1 + 1 + 1) 0 0
  l : Below w.heap.size w W
theorem DrS.keep {w W W' : World} {k : Nat} {s r p c pd pn a b u v : Int} (hb : Below W.heap.size W W') (h : DrS w k s r p c pd pn a b u v W) : DrS w k s r p c pd pn a b u v W' :=
  ⟨h.e.keep hb, h.p.keep hb, h.a.keep hb, h.u.keep hb, h.r.keep hb, bT h.l hb⟩
theorem Box2.at_ {w : World} {x y : Int} {T : TypeId} {k : Nat} (h : w.heap.size = k) : Box2 (w.alloc (.cells #[.int .i64 x, .int .i64 y] T)) k x y := h ▸ Box2.new w x y T
theorem DrS.start (w : World) (s r p c pd pn a b u v : Int) (T1 T2 T3 : TypeId) : DrS w w.heap.size s r p c pd pn a b u v (((((w.alloc (.cells #[.int .i64 s, .int .i64 r, .int .i64 p, .int .i64 c] T1)).alloc (.cells #[.int .i64 pd, .int .i64 pn] T2)).alloc (.cells #[.int .i64 a, .int .i64 b] T3)).alloc (.cells #[.int .i64 u, .int .i64 v] T3)).alloc (.cells #[.int .i64 0, .int .i64 0] T3)) :=
  ⟨((((Box4.new w s r p c T1).keep (bA (bR _) _)).keep (bA (bR _) _)).keep (bA (bR _) _)).keep (bA (bR _) _), (((Box2.at_ (by simp)).alloc _).alloc _).alloc _, ((Box2.at_ (by simp)).alloc _).alloc _, (Box2.at_ (by simp)).alloc _, Box2.at_ (by simp), bA (bA (bA (bA (bA (bR _) _) _) _) _) _⟩
/-- Two pairs of numbers that a region loads. -/
def Ld2 (W : World) (b1 : Nat) (x y : Int) (b2 : Nat) (m n : Int) (w' : World) : Prop :=
  w'.cell? ⟨b1, 0, none⟩ = some (.int .i64 x) ∧ w'.cell? ⟨b1, 1, none⟩ = some (.int .i64 y) ∧ w'.cell? ⟨b2, 0, none⟩ = some (.int .i64 m) ∧ w'.cell? ⟨b2, 1, none⟩ = some (.int .i64 n) ∧ Below W.heap.size W w'
theorem Ld2.of {W : World} {b1 : Nat} {x y : Int} {b2 : Nat} {m n : Int} (h1 : Box2 W b1 x y) (h2 : Box2 W b2 m n) {w' : World} (hb : Below W.heap.size W w') : Ld2 W b1 x y b2 m n w' := ⟨(h1.keep hb).c0, (h1.keep hb).c1, (h2.keep hb).c0, (h2.keep hb).c1, hb⟩
theorem Ld2.bel {W : World} {b1 : Nat} {x y : Int} {b2 : Nat} {m n : Int} {w' : World} (h : Ld2 W b1 x y b2 m n w') : Below W.heap.size W w' := h.2.2.2.2
theorem pick3_no {s r p c a b u v : Int} (x : R3) (h : (okE s r p c && okR a b && okR u v) = false) : (if okE s r p c && okR a b && okR u v then x else (0, 0, 1)) = (0, 0, 1) := by rw [h]; rfl
set_option maxRecDepth 100000 in
set_option maxHeartbeats 4000000 in
theorem drivenSpeed_any (s r p c pd pn a b u v : Int) (w : World) {P : Int → Int → Prop} (hM : MkW w P) (hS : Sines w) (hp : okE s r p c = true → 1 ≤ pd ∧ pd ≤ 1000 ∧ 1 ≤ pn ∧ pn ≤ 1000)
    (hP : okE s r p c = true → okR a b = true → okR u v = true → P (addX a b (-u) v) (mulX b v) ∧ (suC a b u v = 0 → P (mulX (suA a b u v) (rA pd pn)) (mulX (suB a b u v) (rB pd pn)) ∧
      (muC (suA a b u v) (suB a b u v) (rA pd pn) (rB pd pn) = 0 → P (addX u v (-(muA (suA a b u v) (suB a b u v) (rA pd pn) (rB pd pn))) (muB (suA a b u v) (suB a b u v) (rA pd pn) (rB pd pn))) (mulX v (muB (suA a b u v) (suB a b u v) (rA pd pn) (rB pd pn)))))) :
    Calls Tryd.prog 74 #[.agg #[.int .i64 s, .int .i64 r, .int .i64 p, .int .i64 c], .agg #[.int .i64 pd, .int .i64 pn], .agg #[.int .i64 a, .int .i64 b], .agg #[.int .i64 u, .int .i64 v]] w (RatC3 w (dr3 s r p c pd pn a b u v)) := by
  have D0 := Lib.hid (DrS.start w s r p c pd pn a b u v 25 77 27)
  have HS := Lib.hid hS
  have HM := Lib.hid hM
  have VE := Lib.hid (fun W h => ValidEpiI_any s r p c W h)
  have VA := Lib.hid (fun W => valid_any a b W)
  have VU := Lib.hid (fun W => valid_any u v W)
  clear hS hM
  cases h1 : okE s r p c
  · have EQ := Lib.hid (show dr3 s r p c pd pn a b u v = (0, 0, 1) from pick3_no _ (by simp [h1]))
    rw [h1] at VE
    clear h1
    rw [EQ.out]
    go_enter Tryd.func74, Tryd.ntmps74
    go_wp2_with fail
    generalize ((((w.alloc (.cells #[.int .i64 s, .int .i64 r, .int .i64 p, .int .i64 c] 25)).alloc (.cells #[.int .i64 pd, .int .i64 pn] 77)).alloc (.cells #[.int .i64 a, .int .i64 b] 27)).alloc (.cells #[.int .i64 u, .int .i64 v] 27)).alloc (.cells #[.int .i64 0, .int .i64 0] 27) = W0 at *
    generalize hk : w.heap.size = k at *
    have hle : w.heap.size ≤ k + 1 + 1 + 1 + 1 := by omega
    refine (VE.out _ (HS.out.keep D0.out.l)).mono ?_
    rintro e w1 ⟨rfl, hb⟩
    have D1 := Lib.hid (D0.out.keep hb)
    clear hb
    obtain ⟨z0, z1, z2, z3, z4⟩ := D1.out.r
    go_wp2_with fail
    refine bodyPost_ret (v := .tuple #[.agg #[.int .i64 0, .int .i64 0], .int .i64 1]) ?_ rfl ⟨rfl, (D1.out.l.setCell hle _).setCell hle _⟩
    simp [results, Tryd.results74, go_sem, z0, z1]
  · cases h2 : okR a b
    · have EQ := Lib.hid (show dr3 s r p c pd pn a b u v = (0, 0, 1) from pick3_no _ (by simp [h2]))
      rw [h1] at VE
      rw [h2] at VA
      clear h1 h2
      rw [EQ.out]
      go_enter Tryd.func74, Tryd.ntmps74
      go_wp2_with fail
      generalize ((((w.alloc (.cells #[.int .i64 s, .int .i64 r, .int .i64 p, .int .i64 c] 25)).alloc (.cells #[.int .i64 pd, .int .i64 pn] 77)).alloc (.cells #[.int .i64 a, .int .i64 b] 27)).alloc (.cells #[.int .i64 u, .int .i64 v] 27)).alloc (.cells #[.int .i64 0, .int .i64 0] 27) = W0 at *
      generalize hk : w.heap.size = k at *
      have hle : w.heap.size ≤ k + 1 + 1 + 1 + 1 := by omega
      refine (VE.out _ (HS.out.keep D0.out.l)).mono ?_
      rintro e w1 ⟨rfl, hb⟩
      have D1 := Lib.hid (D0.out.keep hb)
      clear hb
      obtain ⟨y0, y1, _, _, _⟩ := D1.out.a
      obtain ⟨z0, z1, z2, z3, z4⟩ := D1.out.r
      go_wp2_with fail
      refine (VA.out _).mono ?_
      rintro e w2 ⟨rfl, hb⟩
      have D2 := Lib.hid (D1.out.keep hb)
      clear hb y0 y1 z0 z1 z2 z3 z4
      obtain ⟨z0, z1, z2, z3, z4⟩ := D2.out.r
      go_wp2_with fail
      refine bodyPost_ret (v := .tuple #[.agg #[.int .i64 0, .int .i64 0], .int .i64 1]) ?_ rfl ⟨rfl, (D2.out.l.setCell hle _).setCell hle _⟩
      simp [results, Tryd.results74, go_sem, z0, z1]
    · cases h3 : okR u v
      · have EQ := Lib.hid (show dr3 s r p c pd pn a b u v = (0, 0, 1) from pick3_no _ (by simp [h3]))
        rw [h1] at VE
        rw [h2] at VA
        rw [h3] at VU
        clear h1 h2 h3
        rw [EQ.out]
        go_enter Tryd.func74, Tryd.ntmps74
        go_wp2_with fail
        generalize ((((w.alloc (.cells #[.int .i64 s, .int .i64 r, .int .i64 p, .int .i64 c] 25)).alloc (.cells #[.int .i64 pd, .int .i64 pn] 77)).alloc (.cells #[.int .i64 a, .int .i64 b] 27)).alloc (.cells #[.int .i64 u, .int .i64 v] 27)).alloc (.cells #[.int .i64 0, .int .i64 0] 27) = W0 at *
        generalize hk : w.heap.size = k at *
        have hle : w.heap.size ≤ k + 1 + 1 + 1 + 1 := by omega
        refine (VE.out _ (HS.out.keep D0.out.l)).mono ?_
        rintro e w1 ⟨rfl, hb⟩
        have D1 := Lib.hid (D0.out.keep hb)
        clear hb
        obtain ⟨y0, y1, _, _, _⟩ := D1.out.a
        obtain ⟨z0, z1, z2, z3, z4⟩ := D1.out.r
        go_wp2_with fail
        refine (VA.out _).mono ?_
        rintro e w2 ⟨rfl, hb⟩
        have D2 := Lib.hid (D1.out.keep hb)
        clear hb y0 y1 z0 z1 z2 z3 z4
        obtain ⟨y0, y1, _, _, _⟩ := D2.out.u
        go_wp2_with fail
        refine (VU.out _).mono ?_
        rintro e w3 ⟨rfl, hb⟩
        have D3 := Lib.hid (D2.out.keep hb)
        clear hb y0 y1
        obtain ⟨z0, z1, z2, z3, z4⟩ := D3.out.r
        go_wp2_with fail
        refine bodyPost_ret (v := .tuple #[.agg #[.int .i64 0, .int .i64 0], .int .i64 1]) ?_ rfl ⟨rfl, (D3.out.l.setCell hle _).setCell hle _⟩
        simp [results, Tryd.results74, go_sem, z0, z1]
      · obtain ⟨P1, P2⟩ := hP h1 h2 h3
        obtain ⟨hp1, hp2, hp3, hp4⟩ := hp h1
        have TR := Lib.hid (fun W => teethRatio_any pd pn W hp1 hp2 hp3 hp4)
        clear hp1 hp2 hp3 hp4
        have EQ := Lib.hid (show dr3 s r p c pd pn a b u v = tu3 a b u v (rA pd pn) (rB pd pn) by simp [dr3, h1, h2, h3])
        have SU := Lib.hid (fun W (h : MkW W P) => subG a b u v W h (fun _ _ => P1))
        have HX := Lib.hid (show su3 a b u v = (suA a b u v, suB a b u v, suC a b u v) from rfl)
        rw [h1] at VE
        rw [h2] at VA
        rw [h3] at VU
        clear h1 h2 h3 hP P1 hp
        rw [EQ.out]
        clear EQ
        generalize suA a b u v = x at *
        generalize suB a b u v = y at *
        generalize suC a b u v = z at *
        generalize rA pd pn = m at *
        generalize rB pd pn = n at *
        go_enter Tryd.func74, Tryd.ntmps74
        go_wp2_with fail
        generalize ((((w.alloc (.cells #[.int .i64 s, .int .i64 r, .int .i64 p, .int .i64 c] 25)).alloc (.cells #[.int .i64 pd, .int .i64 pn] 77)).alloc (.cells #[.int .i64 a, .int .i64 b] 27)).alloc (.cells #[.int .i64 u, .int .i64 v] 27)).alloc (.cells #[.int .i64 0, .int .i64 0] 27) = W0 at *
        generalize hk : w.heap.size = k at *
        have hle : w.heap.size ≤ k + 1 + 1 + 1 + 1 := by omega
        refine (VE.out _ (HS.out.keep D0.out.l)).mono ?_
        rintro e w1 ⟨rfl, hb⟩
        have D1 := Lib.hid (D0.out.keep hb)
        clear hb
        obtain ⟨y0, y1, _, _, _⟩ := D1.out.a
        obtain ⟨z0, z1, z2, z3, z4⟩ := D1.out.r
        go_wp2_with fail
        refine (VA.out _).mono ?_
        rintro e w2 ⟨rfl, hb⟩
        have D2 := Lib.hid (D1.out.keep hb)
        clear hb y0 y1 z0 z1 z2 z3 z4
        obtain ⟨y0, y1, _, _, _⟩ := D2.out.u
        go_wp2_with fail
        refine (VU.out _).mono ?_
        rintro e w3 ⟨rfl, hb⟩
        have D3 := Lib.hid (D2.out.keep hb)
        clear hb y0 y1 D0 D1 D2
        obtain ⟨x0, x1, _, _, _⟩ := D3.out.a
        obtain ⟨y0, y1, _, _, _⟩ := D3.out.u
        go_wp2_with fail
        refine (SU.out _ (HM.out.keep D3.out.l)).mono ?_
        rintro e w4 ⟨rfl, hb⟩
        have D4 := Lib.hid (D3.out.keep (bA hb (.cells #[.int .i64 x, .int .i64 y] 27)))
        have N4 := Lib.hid (Box2.new w4 x y 27)
        clear hb x0 x1 y0 y1 D3 SU
        obtain ⟨z0, z1, z2, z3, z4⟩ := D4.out.r
        by_cases hz : z = 0
        · have HX2 := Lib.hid (bind3_go (f := fun x y => bind3 (mu3 x y m n) fun u' v' => su3 u v u' v') HX.out hz)
          subst hz
          obtain ⟨P1, P3⟩ := P2 rfl
          have MU := Lib.hid (fun W (h : MkW W P) => mulG x y m n W h (fun _ _ => P1))
          have HY := Lib.hid (show mu3 x y m n = (muA x y m n, muB x y m n, muC x y m n) from rfl)
          clear P1 P2
          generalize muA x y m n = x2 at *
          generalize muB x y m n = y2 at *
          generalize muC x y m n = c2 at *
          go_upto_region 6 with fail
          generalize w4.alloc (.cells #[.int .i64 x, .int .i64 y] 27) = W4 at *
          generalize w4.heap.size = kx at *
          obtain ⟨p0, p1, _, _, p4⟩ := D4.out.p
          obtain ⟨q0, q1, _, _, q4⟩ := N4.out
          have HK := Lib.hid (fun (w' : World) (hb : Below W4.heap.size W4 w') => Ld2.of N4.out D4.out.p hb)
          have HM4 := Lib.hid (HM.out.keep D4.out.l)
          go_cut [11, 12] (fun s11 s12 wx => ∃ k12 : Nat, s11 = .int .i64 c2 ∧ s12 = .pointer (some ⟨k12, 0, none⟩) ∧ wx.cell? ⟨k12, 0, none⟩ = some (.int .i64 x2) ∧ wx.cell? ⟨k12, 1, none⟩ = some (.int .i64 y2) ∧ Below W4.heap.size W4 wx)
          case first =>
            go_region_held3 (fun w' => w'.cell? ⟨kx, 0, none⟩ = some (.int .i64 x) ∧ w'.cell? ⟨kx, 1, none⟩ = some (.int .i64 y) ∧ w'.cell? ⟨k + 1, 0, none⟩ = some (.int .i64 pd) ∧ w'.cell? ⟨k + 1, 1, none⟩ = some (.int .i64 pn) ∧ Below W4.heap.size W4 w') (first | exact HK.out _ (bR _).drew | exact HK.out _ (bT (Ld2.bel (b1 := kx) (x := x) (y := y) (b2 := k + 1) (m := pd) (n := pn) (by assumption)) hb) | exact HK.out _ (bA (Ld2.bel (b1 := kx) (x := x) (y := y) (b2 := k + 1) (m := pd) (n := pn) (by assumption)) _) | exact HK.out _ (bA (Hid.out (by assumption)) _) | ((refine HK.out _ (Below.setCell (Below.setCell (Ld2.bel (b1 := kx) (x := x) (y := y) (b2 := k + 1) (m := pd) (n := pn) (by assumption)) ?_ _) ?_ _)) <;> (first | omega | (simp; omega) | (simp; done))))
              (first
                | (go_at_call 79; refine (TR.out _).mono ?_; rintro e w5 ⟨rfl, hb⟩; have hTw5 := Lib.hid (show Below W4.heap.size W4 w5 from bT (Ld2.bel (b1 := kx) (x := x) (y := y) (b2 := k + 1) (m := pd) (n := pn) (by assumption)) hb); have hszw5 := hTw5.out.size; obtain ⟨hc, hf⟩ := bcell hb; have hz := bless hb; try (have z0 : W4.heap.size < w5.heap.size := ?hz0; case hz0 => (apply hz; first | assumption | (simp; done))); try (have m0 : w5.cell? ⟨W4.heap.size, 0, none⟩ = some (.int .i64 0) := ?hm0; case hm0 => (rw [hc _ _ ?sm0]; (first | assumption | (simp [go_sem]; done)); case sm0 => (first | assumption | (simp; done)))); try (have m1 : w5.cell? ⟨W4.heap.size, 1, none⟩ = some (.int .i64 0) := ?hm1; case hm1 => (rw [hc _ _ ?sm1]; (first | assumption | (simp [go_sem]; done)); case sm1 => (first | assumption | (simp; done)))); try (have f0 : w5.frozen? ⟨W4.heap.size, 0, none⟩ = false := ?hf0; case hf0 => (rw [hf _ _ ?sf0]; (first | assumption | (simp [go_sem]; done)); case sf0 => (first | assumption | (simp; done)))); try (have f1 : w5.frozen? ⟨W4.heap.size, 1, none⟩ = false := ?hf1; case hf1 => (rw [hf _ _ ?sf1]; (first | assumption | (simp [go_sem]; done)); case sf1 => (first | assumption | (simp; done)))))
                | (go_at_call 61; refine (MU.out _ ?_).mono ?_; exact HM4.out.keep (Ld2.bel (b1 := kx) (x := x) (y := y) (b2 := k + 1) (m := pd) (n := pn) (by assumption)); rintro e w6 ⟨rfl, hb⟩; have hTw6 := Lib.hid (show Below W4.heap.size W4 w6 from bT (Ld2.bel (b1 := kx) (x := x) (y := y) (b2 := k + 1) (m := pd) (n := pn) (by assumption)) hb); have hszw6 := hTw6.out.size; obtain ⟨hc, hf⟩ := bcell hb; have hz := bless hb; try (have z0 : W4.heap.size < w6.heap.size := ?hz0; case hz0 => (apply hz; first | assumption | (simp; done))); try (have m0 : w6.cell? ⟨W4.heap.size, 0, none⟩ = some (.int .i64 0) := ?hm0; case hm0 => (rw [hc _ _ ?sm0]; (first | assumption | (simp [go_sem]; done)); case sm0 => (first | assumption | (simp; done)))); try (have m1 : w6.cell? ⟨W4.heap.size, 1, none⟩ = some (.int .i64 0) := ?hm1; case hm1 => (rw [hc _ _ ?sm1]; (first | assumption | (simp [go_sem]; done)); case sm1 => (first | assumption | (simp; done)))); try (have f0 : w6.frozen? ⟨W4.heap.size, 0, none⟩ = false := ?hf0; case hf0 => (rw [hf _ _ ?sf0]; (first | assumption | (simp [go_sem]; done)); case sf0 => (first | assumption | (simp; done)))); try (have f1 : w6.frozen? ⟨W4.heap.size, 1, none⟩ = false := ?hf1; case hf1 => (rw [hf _ _ ?sf1]; (first | assumption | (simp [go_sem]; done)); case sf1 => (first | assumption | (simp; done)))); try (have z0 : w5.heap.size < w6.heap.size := ?hz0; case hz0 => (apply hz; first | assumption | (simp; done))); try (have m0 : w6.cell? ⟨w5.heap.size, 0, none⟩ = some (.int .i64 0) := ?hm0; case hm0 => (rw [hc _ _ ?sm0]; (first | assumption | (simp [go_sem]; done)); case sm0 => (first | assumption | (simp; done)))); try (have m1 : w6.cell? ⟨w5.heap.size, 1, none⟩ = some (.int .i64 0) := ?hm1; case hm1 => (rw [hc _ _ ?sm1]; (first | assumption | (simp [go_sem]; done)); case sm1 => (first | assumption | (simp; done)))); try (have f0 : w6.frozen? ⟨w5.heap.size, 0, none⟩ = false := ?hf0; case hf0 => (rw [hf _ _ ?sf0]; (first | assumption | (simp [go_sem]; done)); case sf0 => (first | assumption | (simp; done)))); try (have f1 : w6.frozen? ⟨w5.heap.size, 1, none⟩ = false := ?hf1; case hf1 => (rw [hf _ _ ?sf1]; (first | assumption | (simp [go_sem]; done)); case sf1 => (first | assumption | (simp; done))))))
            all_goals (go_wp2_with fail; go_meet; refine ⟨_, rfl, rfl, ?_, ?_, ?_⟩)
            all_goals ((try simp only [size_set]); first | assumption | exact bA hTw6.out _ | (simp (config := { maxDischargeDepth := 8 }) [*, go_sem]; done) | (go_simp; done))
          case rest =>
            obtain ⟨k12, rfl, rfl, n0, n1, hB⟩ := hcut
            have D5 := Lib.hid (D4.out.keep hB)
            have HM5 := Lib.hid (HM4.out.keep hB)
            clear hB p0 p1 p4 q0 q1 q4 z0 z1 z2 z3 z4 HK HM4 D4 N4 MU TR
            obtain ⟨z0, z1, z2, z3, z4⟩ := D5.out.r
            by_cases hc : c2 = 0
            · have HY2 := Lib.hid (bind3_go (f := fun u' v' => su3 u v u' v') HY.out hc)
              have SV := Lib.hid (fun W (h : MkW W P) => subG u v x2 y2 W h (fun _ _ => P3 hc))
              have HZ := Lib.hid (show su3 u v x2 y2 = (suA u v x2 y2, suB u v x2 y2, suC u v x2 y2) from rfl)
              have EQ := Lib.hid (show tu3 a b u v m n = (suA u v x2 y2, suB u v x2 y2, suC u v x2 y2) from HX2.out.trans (HY2.out.trans HZ.out))
              subst hc
              clear P3 HZ HY HY2 HX HX2
              generalize suA u v x2 y2 = x3 at *
              generalize suB u v x2 y2 = y3 at *
              generalize suC u v x2 y2 = c3 at *
              obtain ⟨y0, y1, _, _, _⟩ := D5.out.u
              go_wp2_with fail
              refine (SV.out _ HM5.out).mono ?_
              rintro e w6 ⟨rfl, hb⟩
              have D6 := Lib.hid (D5.out.keep hb)
              clear hb y0 y1 z0 z1 z2 z3 z4
              obtain ⟨z0, z1, z2, z3, z4⟩ := D6.out.r
              go_wp2_with fail
              rw [EQ.out]
              refine bodyPost_ret (v := .tuple #[.agg #[.int .i64 x3, .int .i64 y3], .int .i64 c3]) ?_ rfl ⟨rfl, (D6.out.l.setCell hle _).setCell hle _⟩
              simp [results, Tryd.results74, go_sem, z0, z1]
            · have HY2 := Lib.hid (bind3_no (f := fun u' v' => su3 u v u' v') HY.out hc)
              have EQ := Lib.hid (show tu3 a b u v m n = (0, 0, c2) from HX2.out.trans HY2.out)
              have hz2 : (c2 != 0) = true := by simp [hc]
              go_wp2_with fail
              rw [EQ.out]
              refine bodyPost_ret (v := .tuple #[.agg #[.int .i64 0, .int .i64 0], .int .i64 c2]) ?_ rfl ⟨rfl, (D5.out.l.setCell hle _).setCell hle _⟩
              simp [results, Tryd.results74, go_sem, z0, z1]
        · have HX2 := Lib.hid (bind3_no (f := fun x y => bind3 (mu3 x y m n) fun u' v' => su3 u v u' v') HX.out hz)
          have hz2 : (z != 0) = true := by simp [hz]
          go_wp2_with fail
          rw [show tu3 a b u v m n = (0, 0, z) from HX2.out]
          refine bodyPost_ret (v := .tuple #[.agg #[.int .i64 0, .int .i64 0], .int .i64 z]) ?_ rfl ⟨rfl, by first | exact (D4.out.l.setCell hle _).setCell hle _ | exact bA ((D4.out.l.setCell hle _).setCell hle _) _⟩
          simp [results, Tryd.results74, go_sem, z0, z1]
end Go.Proofs.YtcklcledchboiaaDoor

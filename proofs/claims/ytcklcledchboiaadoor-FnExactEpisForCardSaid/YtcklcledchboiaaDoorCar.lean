/-
  The speed of the carrier: the contracts of impl.CarrierOf and spec.CarrierOf.
-/
import Derived.Test.YtcklcledchboiaaDoorSpdO
import Derived.Test.YtcklcledchboiaaDoorTrM
namespace Go.Proofs.YtcklcledchboiaaDoor
open Go.RowKit

/-- A ratio and the teeth that a region loads. -/
def Ld4 (W : World) (b1 : Nat) (x y : Int) (k : Nat) (s r : Int) (w' : World) : Prop :=
  w'.cell? ⟨b1, 0, none⟩ = some (.int .i64 x) ∧ w'.cell? ⟨b1, 1, none⟩ = some (.int .i64 y) ∧ w'.cell? ⟨k, 0, none⟩ = some (.int .i64 s) ∧ w'.cell? ⟨k, 1, none⟩ = some (.int .i64 r) ∧ Below W.heap.size W w'
theorem Ld4.of {W : World} {b1 : Nat} {x y : Int} {k : Nat} {s r p c : Int} (h1 : Box2 W b1 x y) (h2 : Box4 W k s r p c) {w' : World} (hb : Below W.heap.size W w') : Ld4 W b1 x y k s r w' := ⟨(h1.keep hb).c0, (h1.keep hb).c1, (h2.keep hb).c0, (h2.keep hb).c1, hb⟩
theorem Ld4.bel {W : World} {b1 : Nat} {x y : Int} {k : Nat} {s r : Int} {w' : World} (h : Ld4 W b1 x y k s r w') : Below W.heap.size W w' := h.2.2.2.2
/-- The shares of the sun and of the ring. -/
def CaP (P : Int → Int → Prop) (s r p c a b u v : Int) : Prop := okE s r p c = true → okR a b = true → okR u v = true → P (mulX a (rA s (s + r))) (mulX b (rB s (s + r))) ∧ (muC a b (rA s (s + r)) (rB s (s + r)) = 0 → P (mulX u (rA r (s + r))) (mulX v (rB r (s + r))) ∧
      (muC u v (rA r (s + r)) (rB r (s + r)) = 0 → P (addX (muA a b (rA s (s + r)) (rB s (s + r))) (muB a b (rA s (s + r)) (rB s (s + r))) (muA u v (rA r (s + r)) (rB r (s + r))) (muB u v (rA r (s + r)) (rB r (s + r)))) (mulX (muB a b (rA s (s + r)) (rB s (s + r))) (muB u v (rA r (s + r)) (rB r (s + r))))))
theorem teeth_ok {a b : Int} (h1 : 1 ≤ a) (h2 : a ≤ 1000) (h3 : 1 ≤ b) (h4 : b ≤ 1000) : okR (rA a b) (rB a b) = true := by
  have hl := low_small h1 h2 h3 h4
  have hb : b ≠ 0 := by omega
  have e1 : rA a b = mkA a b := by simp [rA, hb]
  have e2 : rB a b = mkB a b := by simp [rB, hb]
  rw [e1, e2, (mk_yes hl).1, (mk_yes hl).2]
  exact low_fit (by omega) hl
theorem mu_make {a b m n : Int} (h : okR a b = true) (h1 : okR m n = true) : mu3 a b m n = (if lowOk (mulX a m) (mulX b n) then (mkA (mulX a m) (mulX b n), mkB (mulX a m) (mulX b n), 0) else (0, 0, 2)) := by
  obtain ⟨q1, q2, _⟩ := okR_bd h
  obtain ⟨q3, q4, _⟩ := okR_bd h1
  obtain ⟨x, y, z⟩ := r_make (n := mulX a m) (mulX_pos q1 q3)
  unfold mu3 muA muB muC oA oB oC
  rw [h, h1, Bool.and_self, if_pos rfl, if_pos rfl, if_pos rfl, x, y, z]
  cases lowOk (mulX a m) (mulX b n) <;> rfl
theorem ad_make2 {a b m n : Int} (h : okR a b = true) (h1 : okR m n = true) : ad3 a b m n = ((if lowOk (addX a b m n) (mulX b n) then mkA (addX a b m n) (mulX b n) else 0), (if lowOk (addX a b m n) (mulX b n) then mkB (addX a b m n) (mulX b n) else 0), (if lowOk (addX a b m n) (mulX b n) then 0 else 2)) := by
  obtain ⟨q1, q2, _⟩ := okR_bd h
  obtain ⟨q3, q4, _⟩ := okR_bd h1
  obtain ⟨x, y, z⟩ := r_make (n := addX a b m n) (mulX_pos q1 q3)
  unfold ad3 adA adB adC oA oB oC
  rw [h, h1, Bool.and_self, if_pos rfl, if_pos rfl, if_pos rfl, x, y, z]
theorem mk_ok {a b m n : Int} (h : okR a b = true) (h1 : okR m n = true) (hl : lowOk (mulX a m) (mulX b n) = true) : okR (mkA (mulX a m) (mulX b n)) (mkB (mulX a m) (mulX b n)) = true := by
  obtain ⟨q1, q2, _⟩ := okR_bd h
  obtain ⟨q3, q4, _⟩ := okR_bd h1
  rw [(mk_yes hl).1, (mk_yes hl).2]
  exact low_fit (Int.mul_pos (by omega) (by omega)) hl
set_option maxRecDepth 100000 in
set_option maxHeartbeats 8000000 in
theorem CarrierOfI_any (s r p c a b u v : Int) (w : World) {P : Int → Int → Prop} (hM : MkW w P) (hS : Sines w) (hP : CaP P s r p c a b u v) :
    Calls Tryd.prog 37 #[.agg #[.int .i64 s, .int .i64 r, .int .i64 p, .int .i64 c], .agg #[.int .i64 a, .int .i64 b], .agg #[.int .i64 u, .int .i64 v]] w (RatC3 w (ca3 s r p c a b u v)) := by
  have D0 := Lib.hid (SpE.start w s r p c a b u v 25 27)
  have HS := Lib.hid hS
  have HM := Lib.hid hM
  have VE := Lib.hid (fun W h => ValidEpiI_any s r p c W h)
  have VA := Lib.hid (fun W => valid_any a b W)
  have VU := Lib.hid (fun W => valid_any u v W)
  clear hS hM
  cases h1 : okE s r p c
  · have EQ := Lib.hid (show ca3 s r p c a b u v = (0, 0, 1) from pick3_no _ (by simp [h1]))
    rw [h1] at VE
    clear h1
    rw [EQ.out]
    go_enter Tryd.func37, Tryd.ntmps37
    go_wp2_with fail
    generalize (((w.alloc (.cells #[.int .i64 s, .int .i64 r, .int .i64 p, .int .i64 c] 25)).alloc (.cells #[.int .i64 a, .int .i64 b] 27)).alloc (.cells #[.int .i64 u, .int .i64 v] 27)).alloc (.cells #[.int .i64 0, .int .i64 0] 27) = W0 at *
    generalize hk : w.heap.size = k at *
    have hle : w.heap.size ≤ k + 1 + 1 + 1 := by omega
    refine (VE.out _ (HS.out.keep D0.out.l)).mono ?_
    rintro e w1 ⟨rfl, hb⟩
    have D1 := Lib.hid (D0.out.keep hb)
    clear hb
    obtain ⟨y0, y1, _, _, _⟩ := D1.out.a
    obtain ⟨z0, z1, z2, z3, z4⟩ := D1.out.r
    go_wp2_with fail
    refine bodyPost_ret (v := .tuple #[.agg #[.int .i64 0, .int .i64 0], .int .i64 1]) ?_ rfl ⟨rfl, (D1.out.l.setCell hle _).setCell hle _⟩
    simp [results, Tryd.results37, go_sem, z0, z1]
  · cases h2 : okR a b
    · have EQ := Lib.hid (show ca3 s r p c a b u v = (0, 0, 1) from pick3_no _ (by simp [h2]))
      rw [h1] at VE
      rw [h2] at VA
      clear h1 h2
      rw [EQ.out]
      go_enter Tryd.func37, Tryd.ntmps37
      go_wp2_with fail
      generalize (((w.alloc (.cells #[.int .i64 s, .int .i64 r, .int .i64 p, .int .i64 c] 25)).alloc (.cells #[.int .i64 a, .int .i64 b] 27)).alloc (.cells #[.int .i64 u, .int .i64 v] 27)).alloc (.cells #[.int .i64 0, .int .i64 0] 27) = W0 at *
      generalize hk : w.heap.size = k at *
      have hle : w.heap.size ≤ k + 1 + 1 + 1 := by omega
      refine (VE.out _ (HS.out.keep D0.out.l)).mono ?_
      rintro e w1 ⟨rfl, hb⟩
      have D1 := Lib.hid (D0.out.keep hb)
      clear hb
      obtain ⟨y0, y1, _, _, _⟩ := D1.out.a
      obtain ⟨z0, z1, z2, z3, z4⟩ := D1.out.r
      go_wp2_with fail
      refine (VA.out _).mono ?_
      rintro e w2 ⟨rfl, hb⟩
      have D2 := Lib.hid (D1.out.keep hb)
      clear hb y0 y1 z0 z1 z2 z3 z4
      obtain ⟨y0, y1, _, _, _⟩ := D2.out.u
      obtain ⟨z0, z1, z2, z3, z4⟩ := D2.out.r
      go_wp2_with fail
      refine bodyPost_ret (v := .tuple #[.agg #[.int .i64 0, .int .i64 0], .int .i64 1]) ?_ rfl ⟨rfl, (D2.out.l.setCell hle _).setCell hle _⟩
      simp [results, Tryd.results37, go_sem, z0, z1]
    · cases h3 : okR u v
      · have EQ := Lib.hid (show ca3 s r p c a b u v = (0, 0, 1) from pick3_no _ (by simp [h3]))
        rw [h1] at VE
        rw [h2] at VA
        rw [h3] at VU
        clear h1 h2 h3
        rw [EQ.out]
        go_enter Tryd.func37, Tryd.ntmps37
        go_wp2_with fail
        generalize (((w.alloc (.cells #[.int .i64 s, .int .i64 r, .int .i64 p, .int .i64 c] 25)).alloc (.cells #[.int .i64 a, .int .i64 b] 27)).alloc (.cells #[.int .i64 u, .int .i64 v] 27)).alloc (.cells #[.int .i64 0, .int .i64 0] 27) = W0 at *
        generalize hk : w.heap.size = k at *
        have hle : w.heap.size ≤ k + 1 + 1 + 1 := by omega
        refine (VE.out _ (HS.out.keep D0.out.l)).mono ?_
        rintro e w1 ⟨rfl, hb⟩
        have D1 := Lib.hid (D0.out.keep hb)
        clear hb
        obtain ⟨y0, y1, _, _, _⟩ := D1.out.a
        obtain ⟨z0, z1, z2, z3, z4⟩ := D1.out.r
        go_wp2_with fail
        refine (VA.out _).mono ?_
        rintro e w2 ⟨rfl, hb⟩
        have D2 := Lib.hid (D1.out.keep hb)
        clear hb y0 y1 z0 z1 z2 z3 z4
        obtain ⟨y0, y1, _, _, _⟩ := D2.out.u
        obtain ⟨z0, z1, z2, z3, z4⟩ := D2.out.r
        go_wp2_with fail
        refine (VU.out _).mono ?_
        rintro e w3 ⟨rfl, hb⟩
        have D3 := Lib.hid (D2.out.keep hb)
        clear hb y0 y1 z0 z1 z2 z3 z4 D0 D1 D2
        obtain ⟨z0, z1, z2, z3, z4⟩ := D3.out.r
        go_wp2_with fail
        refine bodyPost_ret (v := .tuple #[.agg #[.int .i64 0, .int .i64 0], .int .i64 1]) ?_ rfl ⟨rfl, (D3.out.l.setCell hle _).setCell hle _⟩
        simp [results, Tryd.results37, go_sem, z0, z1]
      · obtain ⟨P1, P2⟩ := hP h1 h2 h3
        obtain ⟨⟨t1, t2⟩, ⟨t3, t4⟩, _⟩ := okE_bd h1
        have TR1 := Lib.hid (fun W => teethRatio_any s (s + r) W (by omega) (by omega) (by omega) (by omega))
        have TR2 := Lib.hid (fun W => teethRatio_any r (s + r) W (by omega) (by omega) (by omega) (by omega))
        have q1 : IntKind.i64.wrap (s + r) = s + r := IntWalk.i64_in _ (by omega)
        have SG := Lib.hid (show ca3 s r p c a b u v = bind3 (mu3 a b (rA s (s + r)) (rB s (s + r))) fun x y => bind3 (mu3 u v (rA r (s + r)) (rB r (s + r))) fun x2 y2 => ad3 x y x2 y2 by simp [ca3, h1, h2, h3])
        have M1 := Lib.hid (fun W (h : MkW W P) => mulG a b (rA s (s + r)) (rB s (s + r)) W h (fun _ _ => P1))
        have HX := Lib.hid (show mu3 a b (rA s (s + r)) (rB s (s + r)) = (muA a b (rA s (s + r)) (rB s (s + r)), muB a b (rA s (s + r)) (rB s (s + r)), muC a b (rA s (s + r)) (rB s (s + r))) from rfl)
        have HY := Lib.hid (show mu3 u v (rA r (s + r)) (rB r (s + r)) = (muA u v (rA r (s + r)) (rB r (s + r)), muB u v (rA r (s + r)) (rB r (s + r)), muC u v (rA r (s + r)) (rB r (s + r))) from rfl)
        rw [h1] at VE
        rw [h2] at VA
        rw [h3] at VU
        clear h1 h2 h3 hP P1 t1 t2 t3 t4
        generalize muA a b (rA s (s + r)) (rB s (s + r)) = x at *
        generalize muB a b (rA s (s + r)) (rB s (s + r)) = y at *
        generalize muC a b (rA s (s + r)) (rB s (s + r)) = z at *
        generalize rA s (s + r) = m at *
        generalize rB s (s + r) = n at *
        have M2 := Lib.hid (fun (hz : z = 0) W (h : MkW W P) => mulG u v (rA r (s + r)) (rB r (s + r)) W h (fun _ _ => (P2 hz).1))
        generalize muA u v (rA r (s + r)) (rB r (s + r)) = x2 at *
        generalize muB u v (rA r (s + r)) (rB r (s + r)) = y2 at *
        generalize muC u v (rA r (s + r)) (rB r (s + r)) = c2 at *
        generalize rA r (s + r) = m2 at *
        generalize rB r (s + r) = n2 at *
        go_enter Tryd.func37, Tryd.ntmps37
        go_wp2_with fail
        generalize (((w.alloc (.cells #[.int .i64 s, .int .i64 r, .int .i64 p, .int .i64 c] 25)).alloc (.cells #[.int .i64 a, .int .i64 b] 27)).alloc (.cells #[.int .i64 u, .int .i64 v] 27)).alloc (.cells #[.int .i64 0, .int .i64 0] 27) = W0 at *
        generalize hk : w.heap.size = k at *
        have hle : w.heap.size ≤ k + 1 + 1 + 1 := by omega
        refine (VE.out _ (HS.out.keep D0.out.l)).mono ?_
        rintro e w1 ⟨rfl, hb⟩
        have D1 := Lib.hid (D0.out.keep hb)
        clear hb
        obtain ⟨y0, y1, _, _, _⟩ := D1.out.a
        obtain ⟨z0, z1, z2, z3, z4⟩ := D1.out.r
        go_wp2_with fail
        refine (VA.out _).mono ?_
        rintro e w2 ⟨rfl, hb⟩
        have D2 := Lib.hid (D1.out.keep hb)
        clear hb y0 y1 z0 z1 z2 z3 z4
        obtain ⟨y0, y1, _, _, _⟩ := D2.out.u
        obtain ⟨z0, z1, z2, z3, z4⟩ := D2.out.r
        go_wp2_with fail
        refine (VU.out _).mono ?_
        rintro e w3 ⟨rfl, hb⟩
        have D3 := Lib.hid (D2.out.keep hb)
        clear hb y0 y1 z0 z1 z2 z3 z4 D0 D1 D2
        obtain ⟨z0, z1, z2, z3, z4⟩ := D3.out.r
        have HM3 := Lib.hid (HM.out.keep D3.out.l)
        have HK := Lib.hid (fun (w' : World) (hb : Below w3.heap.size w3 w') => Ld4.of D3.out.a D3.out.e hb)
        clear z0 z1 z2 z3 z4
        go_upto_region 3 with fail
        go_cut [8, 9] (fun sp sc wx => ∃ kk : Nat, sp = .pointer (some ⟨kk, 0, none⟩) ∧ sc = .int .i64 z ∧ wx.cell? ⟨kk, 0, none⟩ = some (.int .i64 x) ∧ wx.cell? ⟨kk, 1, none⟩ = some (.int .i64 y) ∧ kk < wx.heap.size ∧ Below w3.heap.size w3 wx)
        case first =>
          go_region_held3 (fun w' => w'.cell? ⟨k + 1, 0, none⟩ = some (.int .i64 a) ∧ w'.cell? ⟨k + 1, 1, none⟩ = some (.int .i64 b) ∧ w'.cell? ⟨k, 0, none⟩ = some (.int .i64 s) ∧ w'.cell? ⟨k, 1, none⟩ = some (.int .i64 r) ∧ Below w3.heap.size w3 w') (first | exact HK.out _ (bR _).drew | exact HK.out _ (bT (Ld4.bel (b1 := k + 1) (x := a) (y := b) (k := k) (s := s) (r := r) (by assumption)) hb) | exact HK.out _ (bA (Ld4.bel (b1 := k + 1) (x := a) (y := b) (k := k) (s := s) (r := r) (by assumption)) _) | exact HK.out _ (bA (Hid.out (by assumption)) _) | ((refine HK.out _ (Below.setCell (Below.setCell (Ld4.bel (b1 := k + 1) (x := a) (y := b) (k := k) (s := s) (r := r) (by assumption)) ?_ _) ?_ _)) <;> (first | omega | (simp; omega) | (simp; done))))
            (first
              | (go_at_call 79; refine (TR1.out _).mono ?_; rintro e x5 ⟨rfl, hb⟩; have hTw := Lib.hid (show Below w3.heap.size w3 x5 from bT (Ld4.bel (b1 := k + 1) (x := a) (y := b) (k := k) (s := s) (r := r) (by assumption)) hb); have hszw := hTw.out.size; first | (have ZB := Lib.hid (Box2.keep ZB.out hb); obtain ⟨o0, o1, o2, o3, o4⟩ := ZB.out) | (have ZB : Hid (Box2 x5 w3.heap.size 0 0) := Lib.hid (Box2.keep (Box2.new w3.drew 0 0 27) hb); obtain ⟨o0, o1, o2, o3, o4⟩ := ZB.out) | (have ZB : Hid (Box2 x5 w3.heap.size 0 0) := Lib.hid (Box2.keep (Box2.drew (Box2.new w3 0 0 27)) hb); obtain ⟨o0, o1, o2, o3, o4⟩ := ZB.out) | (have ZB := Lib.hid (Box2.keep (Box2.new _ 0 0 27) hb); obtain ⟨o0, o1, o2, o3, o4⟩ := ZB.out) | skip)
              | (go_at_call 61; refine (M1.out _ ?_).mono ?_; exact HM3.out.keep (Ld4.bel (b1 := k + 1) (x := a) (y := b) (k := k) (s := s) (r := r) (by assumption)); rintro e x8 ⟨rfl, hb⟩; have hTw := Lib.hid (show Below w3.heap.size w3 x8 from bT (Ld4.bel (b1 := k + 1) (x := a) (y := b) (k := k) (s := s) (r := r) (by assumption)) hb); have hszw := hTw.out.size; first | (have ZB := Lib.hid (Box2.keep ZB.out hb); obtain ⟨o0, o1, o2, o3, o4⟩ := ZB.out) | (have ZB : Hid (Box2 x8 w3.heap.size 0 0) := Lib.hid (Box2.keep (Box2.new w3.drew 0 0 27) hb); obtain ⟨o0, o1, o2, o3, o4⟩ := ZB.out) | (have ZB : Hid (Box2 x8 w3.heap.size 0 0) := Lib.hid (Box2.keep (Box2.drew (Box2.new w3 0 0 27)) hb); obtain ⟨o0, o1, o2, o3, o4⟩ := ZB.out) | (have ZB := Lib.hid (Box2.keep (Box2.new _ 0 0 27) hb); obtain ⟨o0, o1, o2, o3, o4⟩ := ZB.out) | skip))
          all_goals (go_wp2_with fail; go_meet; refine ⟨_, rfl, rfl, ?_, ?_, ?_, ?_⟩)
          all_goals first | exact (Box2.new _ _ _ _).c0 | exact (Box2.new _ _ _ _).c1 | exact (Box2.new _ _ _ _).lt | exact bA hTw.out _ | exact (Box2.set ZB.out _ _).c0 | exact (Box2.set ZB.out _ _).c1 | exact (Box2.set ZB.out _ _).lt | exact bset (bset hTw.out (by omega)) (by omega) | ((try simp only [size_set]); first | assumption | (simp (config := { maxDischargeDepth := 8 }) [*, go_sem]; done) | (go_simp; done))
        case rest =>
          obtain ⟨k8, rfl, rfl, n0, n1, n2', hB⟩ := hcut
          have D4 := Lib.hid (D3.out.keep hB)
          have HM4 := Lib.hid (HM3.out.keep hB)
          clear hB HK D3 HM3 M1 TR1
          obtain ⟨z0, z1, z2, z3, z4⟩ := D4.out.r
          by_cases hz : z = 0
          · have EQ1 := Lib.hid (show ca3 s r p c a b u v = bind3 (mu3 u v m2 n2) fun x2 y2 => ad3 x y x2 y2 from SG.out.trans (bind3_go (f := fun x y => bind3 (mu3 u v m2 n2) fun x2 y2 => ad3 x y x2 y2) HX.out hz))
            have M2' := Lib.hid (M2.out hz)
            have P3 := (P2 hz).2
            subst hz
            have HK := Lib.hid (fun (w' : World) (hb : Below wc.heap.size wc w') => Ld4.of D4.out.u D4.out.e hb)
            go_upto_region 6 with fail
            generalize hW1 : wc = W1 at *
            clear hW1 z0 z1 z2 z3 z4
            go_cut [10, 9] (fun sp sc wx => ∃ kk : Nat, sp = .pointer (some ⟨kk, 0, none⟩) ∧ sc = .int .i64 c2 ∧ wx.cell? ⟨kk, 0, none⟩ = some (.int .i64 x2) ∧ wx.cell? ⟨kk, 1, none⟩ = some (.int .i64 y2) ∧ kk < wx.heap.size ∧ Below W1.heap.size W1 wx)
            case first =>
              go_region_held3 (fun w' => w'.cell? ⟨k + 1 + 1, 0, none⟩ = some (.int .i64 u) ∧ w'.cell? ⟨k + 1 + 1, 1, none⟩ = some (.int .i64 v) ∧ w'.cell? ⟨k, 0, none⟩ = some (.int .i64 s) ∧ w'.cell? ⟨k, 1, none⟩ = some (.int .i64 r) ∧ Below W1.heap.size W1 w') (first | exact HK.out _ (bR _).drew | exact HK.out _ (bT (Ld4.bel (b1 := k + 1 + 1) (x := u) (y := v) (k := k) (s := s) (r := r) (by assumption)) hb) | exact HK.out _ (bA (Ld4.bel (b1 := k + 1 + 1) (x := u) (y := v) (k := k) (s := s) (r := r) (by assumption)) _) | exact HK.out _ (bA (Hid.out (by assumption)) _) | ((refine HK.out _ (Below.setCell (Below.setCell (Ld4.bel (b1 := k + 1 + 1) (x := u) (y := v) (k := k) (s := s) (r := r) (by assumption)) ?_ _) ?_ _)) <;> (first | omega | (simp; omega) | (simp; done))))
                (first
                  | (go_at_call 79; refine (TR2.out _).mono ?_; rintro e x5 ⟨rfl, hb⟩; have hTw := Lib.hid (show Below W1.heap.size W1 x5 from bT (Ld4.bel (b1 := k + 1 + 1) (x := u) (y := v) (k := k) (s := s) (r := r) (by assumption)) hb); have hszw := hTw.out.size; first | (have ZB := Lib.hid (Box2.keep ZB.out hb); obtain ⟨o0, o1, o2, o3, o4⟩ := ZB.out) | (have ZB : Hid (Box2 x5 W1.heap.size 0 0) := Lib.hid (Box2.keep (Box2.new W1.drew 0 0 27) hb); obtain ⟨o0, o1, o2, o3, o4⟩ := ZB.out) | (have ZB : Hid (Box2 x5 W1.heap.size 0 0) := Lib.hid (Box2.keep (Box2.drew (Box2.new W1 0 0 27)) hb); obtain ⟨o0, o1, o2, o3, o4⟩ := ZB.out) | (have ZB := Lib.hid (Box2.keep (Box2.new _ 0 0 27) hb); obtain ⟨o0, o1, o2, o3, o4⟩ := ZB.out) | skip)
                  | (go_at_call 61; refine (M2'.out _ ?_).mono ?_; exact HM4.out.keep (Ld4.bel (b1 := k + 1 + 1) (x := u) (y := v) (k := k) (s := s) (r := r) (by assumption)); rintro e x8 ⟨rfl, hb⟩; have hTw := Lib.hid (show Below W1.heap.size W1 x8 from bT (Ld4.bel (b1 := k + 1 + 1) (x := u) (y := v) (k := k) (s := s) (r := r) (by assumption)) hb); have hszw := hTw.out.size; first | (have ZB := Lib.hid (Box2.keep ZB.out hb); obtain ⟨o0, o1, o2, o3, o4⟩ := ZB.out) | (have ZB : Hid (Box2 x8 W1.heap.size 0 0) := Lib.hid (Box2.keep (Box2.new W1.drew 0 0 27) hb); obtain ⟨o0, o1, o2, o3, o4⟩ := ZB.out) | (have ZB : Hid (Box2 x8 W1.heap.size 0 0) := Lib.hid (Box2.keep (Box2.drew (Box2.new W1 0 0 27)) hb); obtain ⟨o0, o1, o2, o3, o4⟩ := ZB.out) | (have ZB := Lib.hid (Box2.keep (Box2.new _ 0 0 27) hb); obtain ⟨o0, o1, o2, o3, o4⟩ := ZB.out) | skip))
              all_goals (go_wp2_with fail; go_meet; refine ⟨_, rfl, rfl, ?_, ?_, ?_, ?_⟩)
              all_goals first | exact (Box2.new _ _ _ _).c0 | exact (Box2.new _ _ _ _).c1 | exact (Box2.new _ _ _ _).lt | exact bA hTw.out _ | exact (Box2.set ZB.out _ _).c0 | exact (Box2.set ZB.out _ _).c1 | exact (Box2.set ZB.out _ _).lt | exact bset (bset hTw.out (by omega)) (by omega) | ((try simp only [size_set]); first | assumption | (simp (config := { maxDischargeDepth := 8 }) [*, go_sem]; done) | (go_simp; done))
            case rest =>
              obtain ⟨k10, rfl, rfl, m0, m1, m2', hB⟩ := hcut
              have D5 := Lib.hid (D4.out.keep hB)
              have HM5 := Lib.hid (HM4.out.keep hB)
              have q0 := (hB.cell (p := ⟨k8, 0, none⟩) n2').trans n0
              have q2 := (hB.cell (p := ⟨k8, 1, none⟩) n2').trans n1
              clear hB HK D4 HM4 M2 M2' TR2 n0 n1
              obtain ⟨z0, z1, z2, z3, z4⟩ := D5.out.r
              by_cases hc : c2 = 0
              · have AD := Lib.hid (fun W (h : MkW W P) => addG x y x2 y2 W h (fun _ _ => P3 hc))
                have EQ := Lib.hid (show ca3 s r p c a b u v = (adA x y x2 y2, adB x y x2 y2, adC x y x2 y2) from EQ1.out.trans (bind3_go (f := fun x2 y2 => ad3 x y x2 y2) HY.out hc))
                subst hc
                clear P3 P2
                generalize adA x y x2 y2 = x3 at *
                generalize adB x y x2 y2 = y3 at *
                generalize adC x y x2 y2 = c3 at *
                go_wp2_with fail
                refine (AD.out _ HM5.out).mono ?_
                rintro e w6 ⟨rfl, hb⟩
                have D6 := Lib.hid (D5.out.keep hb)
                clear hb z0 z1 z2 z3 z4 q0 q2 m0 m1
                obtain ⟨z0, z1, z2, z3, z4⟩ := D6.out.r
                go_wp2_with fail
                rw [EQ.out]
                refine bodyPost_ret (v := .tuple #[.agg #[.int .i64 x3, .int .i64 y3], .int .i64 c3]) ?_ rfl ⟨rfl, (D6.out.l.setCell hle _).setCell hle _⟩
                simp [results, Tryd.results37, go_sem, z0, z1]
              · have EQ := Lib.hid (show ca3 s r p c a b u v = (0, 0, c2) from EQ1.out.trans (bind3_no (f := fun x2 y2 => ad3 x y x2 y2) HY.out hc))
                have hz2 : (c2 != 0) = true := by simp [hc]
                go_wp2_with fail
                rw [EQ.out]
                refine bodyPost_ret (v := .tuple #[.agg #[.int .i64 0, .int .i64 0], .int .i64 c2]) ?_ rfl ⟨rfl, (D5.out.l.setCell hle _).setCell hle _⟩
                simp [results, Tryd.results37, go_sem, z0, z1]
          · have EQ := Lib.hid (show ca3 s r p c a b u v = (0, 0, z) from SG.out.trans (bind3_no (f := fun x y => bind3 (mu3 u v m2 n2) fun x2 y2 => ad3 x y x2 y2) HX.out hz))
            have hz2 : (z != 0) = true := by simp [hz]
            go_wp2_with fail
            rw [EQ.out]
            refine bodyPost_ret (v := .tuple #[.agg #[.int .i64 0, .int .i64 0], .int .i64 z]) ?_ rfl ⟨rfl, (D4.out.l.setCell hle _).setCell hle _⟩
            simp [results, Tryd.results37, go_sem, z0, z1]
end Go.Proofs.YtcklcledchboiaaDoor

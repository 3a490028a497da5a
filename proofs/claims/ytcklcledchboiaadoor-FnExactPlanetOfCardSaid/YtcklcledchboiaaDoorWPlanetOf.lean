/-
  The walk of laws.FnExactPlanetOf.
-/
import Derived.Test.YtcklcledchboiaaDoorLd3
import Derived.Deep.DeepCutAuto
import Derived.Deep.RegionHeld3
namespace Go.Proofs.YtcklcledchboiaaDoor
open Go.RowKit
set_option maxRecDepth 100000 in
set_option maxHeartbeats 8000000 in
theorem FnExactPlanetOf_walk (s r p c a b u v : Int) (w : World) (a0 a1 : Addr) (hN : Sent w a0 a1) (hS : Sines w) :
    Calls Tryd.prog 9 #[.agg #[.int .i64 s, .int .i64 r, .int .i64 p, .int .i64 c], .agg #[.int .i64 a, .int .i64 b], .agg #[.int .i64 u, .int .i64 v]] w fun e w' => e = .returned (.bool true) ∧ Below w.heap.size w w' := by
  have D0 := Lib.hid (Sp3.start w s r p c a b u v 37 45)
  have HS := Lib.hid hS
  have HN := Lib.hid hN
  have CS := Lib.hid (fun W => PlanetOfS_any s r p c a b u v W)
  have CI := Lib.hid (fun W (hb : Below w.heap.size w W) => PlanetOfI_any s r p c a b u v W (mkW_sent (HN.out.keepB hb)) (HS.out.keep hb) (drP_any _ _ _ _ _ _ _ _ _ _))
  clear hS hN HS HN
  have E3 : ∃ x3 y3 c3, dr3 s r p c s p a b u v = (x3, y3, c3) := ⟨_, _, _, rfl⟩
  obtain ⟨x3, y3, c3, e3⟩ := E3
  rw [e3] at CS CI
  clear e3
  go_enter Tryd.func9, Tryd.ntmps9
  go_upto_region 1 with fail
  generalize ((w.alloc (.cells #[.int .i64 s, .int .i64 r, .int .i64 p, .int .i64 c] 37)).alloc (.cells #[.int .i64 a, .int .i64 b] 45)).alloc (.cells #[.int .i64 u, .int .i64 v] 45) = W0 at *
  generalize hk : w.heap.size = k at *
  have HK := Lib.hid (fun (w' : World) (hb : Below W0.heap.size W0 w') => Ld3.of D0.out hb)
  go_cut [7, 8] (fun sp sc wx => ∃ kk : Nat, sp = .pointer (some ⟨kk, 0, none⟩) ∧ sc = .int .i64 c3 ∧ wx.cell? ⟨kk, 0, none⟩ = some (.int .i64 x3) ∧ wx.cell? ⟨kk, 1, none⟩ = some (.int .i64 y3) ∧ kk < wx.heap.size ∧ Below W0.heap.size W0 wx)
  case first =>
    go_region_held3 (fun w' => w'.cell? ⟨k, 0, none⟩ = some (.int .i64 s) ∧ w'.cell? ⟨k, 1, none⟩ = some (.int .i64 r) ∧ w'.cell? ⟨k, 2, none⟩ = some (.int .i64 p) ∧ w'.cell? ⟨k, 3, none⟩ = some (.int .i64 c) ∧ w'.cell? ⟨k + 1, 0, none⟩ = some (.int .i64 a) ∧ w'.cell? ⟨k + 1, 1, none⟩ = some (.int .i64 b) ∧ w'.cell? ⟨k + 1 + 1, 0, none⟩ = some (.int .i64 u) ∧ w'.cell? ⟨k + 1 + 1, 1, none⟩ = some (.int .i64 v) ∧ Below W0.heap.size W0 w') (first | exact HK.out _ (bR _).drew | exact HK.out _ (bT (Ld3.bel (k := k) (s := s) (r := r) (p := p) (c := c) (a := a) (b := b) (u := u) (v := v) (by assumption)) hb) | exact HK.out _ (bA (Ld3.bel (k := k) (s := s) (r := r) (p := p) (c := c) (a := a) (b := b) (u := u) (v := v) (by assumption)) _) | exact HK.out _ (bA (Hid.out (by assumption)) _) | ((refine HK.out _ (Below.setCell (Below.setCell (Ld3.bel (k := k) (s := s) (r := r) (p := p) (c := c) (a := a) (b := b) (u := u) (v := v) (by assumption)) ?_ _) ?_ _)) <;> (first | omega | (simp; omega) | (simp; done))))
      (first
        | (go_at_call 23; refine (toEpi_any _ _ _ _ _).mono ?_; rintro e x5 ⟨rfl, hb⟩; have hTw := Lib.hid (show Below W0.heap.size W0 x5 from bT (Ld3.bel (k := k) (s := s) (r := r) (p := p) (c := c) (a := a) (b := b) (u := u) (v := v) (by assumption)) hb); have hszw := hTw.out.size; first | (have ZB := Lib.hid (Box2.keep ZB.out hb); obtain ⟨z0, z1, z2, z3, z4⟩ := ZB.out) | (have ZB : Hid (Box2 x5 W0.heap.size 0 0) := Lib.hid (Box2.keep (Box2.new W0.drew 0 0 27) hb); obtain ⟨z0, z1, z2, z3, z4⟩ := ZB.out) | (have ZB : Hid (Box2 x5 W0.heap.size 0 0) := Lib.hid (Box2.keep (Box2.drew (Box2.new W0 0 0 27)) hb); obtain ⟨z0, z1, z2, z3, z4⟩ := ZB.out) | (have ZB := Lib.hid (Box2.keep (Box2.new _ 0 0 27) hb); obtain ⟨z0, z1, z2, z3, z4⟩ := ZB.out) | skip)
        | (go_at_call 31; refine (toRatio_any _ _ _).mono ?_; rintro e x6 ⟨rfl, hb⟩; have hTw := Lib.hid (show Below W0.heap.size W0 x6 from bT (Ld3.bel (k := k) (s := s) (r := r) (p := p) (c := c) (a := a) (b := b) (u := u) (v := v) (by assumption)) hb); have hszw := hTw.out.size; first | (have ZB := Lib.hid (Box2.keep ZB.out hb); obtain ⟨z0, z1, z2, z3, z4⟩ := ZB.out) | (have ZB : Hid (Box2 x6 W0.heap.size 0 0) := Lib.hid (Box2.keep (Box2.new W0.drew 0 0 27) hb); obtain ⟨z0, z1, z2, z3, z4⟩ := ZB.out) | (have ZB : Hid (Box2 x6 W0.heap.size 0 0) := Lib.hid (Box2.keep (Box2.drew (Box2.new W0 0 0 27)) hb); obtain ⟨z0, z1, z2, z3, z4⟩ := ZB.out) | (have ZB := Lib.hid (Box2.keep (Box2.new _ 0 0 27) hb); obtain ⟨z0, z1, z2, z3, z4⟩ := ZB.out) | skip)
        | (go_at_call 38; refine (CS.out _).mono ?_; rintro e x8 ⟨rfl, hb⟩; have hTw := Lib.hid (show Below W0.heap.size W0 x8 from bT (Ld3.bel (k := k) (s := s) (r := r) (p := p) (c := c) (a := a) (b := b) (u := u) (v := v) (by assumption)) hb); have hszw := hTw.out.size; first | (have ZB := Lib.hid (Box2.keep ZB.out hb); obtain ⟨z0, z1, z2, z3, z4⟩ := ZB.out) | (have ZB : Hid (Box2 x8 W0.heap.size 0 0) := Lib.hid (Box2.keep (Box2.new W0.drew 0 0 27) hb); obtain ⟨z0, z1, z2, z3, z4⟩ := ZB.out) | (have ZB : Hid (Box2 x8 W0.heap.size 0 0) := Lib.hid (Box2.keep (Box2.drew (Box2.new W0 0 0 27)) hb); obtain ⟨z0, z1, z2, z3, z4⟩ := ZB.out) | (have ZB := Lib.hid (Box2.keep (Box2.new _ 0 0 27) hb); obtain ⟨z0, z1, z2, z3, z4⟩ := ZB.out) | skip))
    all_goals (go_wp2_with fail; go_meet; refine ⟨_, rfl, rfl, ?_, ?_, ?_, ?_⟩)
    all_goals first | exact (Box2.new _ _ _ _).c0 | exact (Box2.new _ _ _ _).c1 | exact (Box2.new _ _ _ _).lt | exact bA hTw.out _ | exact (Box2.set ZB.out _ _).c0 | exact (Box2.set ZB.out _ _).c1 | exact (Box2.set ZB.out _ _).lt | exact bset (bset hTw.out (by omega)) (by omega) | ((try simp only [size_set]); first | assumption | (simp (config := { maxDischargeDepth := 8 }) [*, go_sem]; done) | (go_simp; done))
  case rest =>
    obtain ⟨k7, rfl, rfl, n0, n1, n2, hB⟩ := hcut
    have D1 := Lib.hid (D0.out.keep hB)
    clear hB HK D0 CS
    have HK := Lib.hid (fun (w' : World) (hb : Below wc.heap.size wc w') => Ld3.of D1.out hb)
    have HL := Lib.hid (fun (w' : World) (hb : Below wc.heap.size wc w') => (show Below w.heap.size w w' from bT D1.out.l hb))
    rw [hk] at HL
    go_upto_region 2 with fail
    generalize hW1 : wc = W1 at *
    clear hW1
    go_cut [9, 10] (fun sp sc wx => ∃ kk : Nat, sp = .pointer (some ⟨kk, 0, none⟩) ∧ sc = .int .i64 c3 ∧ wx.cell? ⟨kk, 0, none⟩ = some (.int .i64 x3) ∧ wx.cell? ⟨kk, 1, none⟩ = some (.int .i64 y3) ∧ kk < wx.heap.size ∧ Below W1.heap.size W1 wx)
    case first =>
      go_region_held3 (fun w' => w'.cell? ⟨k, 0, none⟩ = some (.int .i64 s) ∧ w'.cell? ⟨k, 1, none⟩ = some (.int .i64 r) ∧ w'.cell? ⟨k, 2, none⟩ = some (.int .i64 p) ∧ w'.cell? ⟨k, 3, none⟩ = some (.int .i64 c) ∧ w'.cell? ⟨k + 1, 0, none⟩ = some (.int .i64 a) ∧ w'.cell? ⟨k + 1, 1, none⟩ = some (.int .i64 b) ∧ w'.cell? ⟨k + 1 + 1, 0, none⟩ = some (.int .i64 u) ∧ w'.cell? ⟨k + 1 + 1, 1, none⟩ = some (.int .i64 v) ∧ Below W1.heap.size W1 w') (first | exact HK.out _ (bR _).drew | exact HK.out _ (bT (Ld3.bel (k := k) (s := s) (r := r) (p := p) (c := c) (a := a) (b := b) (u := u) (v := v) (by assumption)) hb) | exact HK.out _ (bA (Ld3.bel (k := k) (s := s) (r := r) (p := p) (c := c) (a := a) (b := b) (u := u) (v := v) (by assumption)) _) | exact HK.out _ (bA (Hid.out (by assumption)) _) | ((refine HK.out _ (Below.setCell (Below.setCell (Ld3.bel (k := k) (s := s) (r := r) (p := p) (c := c) (a := a) (b := b) (u := u) (v := v) (by assumption)) ?_ _) ?_ _)) <;> (first | omega | (simp; omega) | (simp; done))))
        (first
          | (go_at_call 23; refine (toEpi_any _ _ _ _ _).mono ?_; rintro e x5 ⟨rfl, hb⟩; have hTw := Lib.hid (show Below W1.heap.size W1 x5 from bT (Ld3.bel (k := k) (s := s) (r := r) (p := p) (c := c) (a := a) (b := b) (u := u) (v := v) (by assumption)) hb); have hszw := hTw.out.size; first | (have ZB := Lib.hid (Box2.keep ZB.out hb); obtain ⟨z0, z1, z2, z3, z4⟩ := ZB.out) | (have ZB : Hid (Box2 x5 W1.heap.size 0 0) := Lib.hid (Box2.keep (Box2.new W1.drew 0 0 27) hb); obtain ⟨z0, z1, z2, z3, z4⟩ := ZB.out) | (have ZB : Hid (Box2 x5 W1.heap.size 0 0) := Lib.hid (Box2.keep (Box2.drew (Box2.new W1 0 0 27)) hb); obtain ⟨z0, z1, z2, z3, z4⟩ := ZB.out) | (have ZB := Lib.hid (Box2.keep (Box2.new _ 0 0 27) hb); obtain ⟨z0, z1, z2, z3, z4⟩ := ZB.out) | skip)
          | (go_at_call 31; refine (toRatio_any _ _ _).mono ?_; rintro e x6 ⟨rfl, hb⟩; have hTw := Lib.hid (show Below W1.heap.size W1 x6 from bT (Ld3.bel (k := k) (s := s) (r := r) (p := p) (c := c) (a := a) (b := b) (u := u) (v := v) (by assumption)) hb); have hszw := hTw.out.size; first | (have ZB := Lib.hid (Box2.keep ZB.out hb); obtain ⟨z0, z1, z2, z3, z4⟩ := ZB.out) | (have ZB : Hid (Box2 x6 W1.heap.size 0 0) := Lib.hid (Box2.keep (Box2.new W1.drew 0 0 27) hb); obtain ⟨z0, z1, z2, z3, z4⟩ := ZB.out) | (have ZB : Hid (Box2 x6 W1.heap.size 0 0) := Lib.hid (Box2.keep (Box2.drew (Box2.new W1 0 0 27)) hb); obtain ⟨z0, z1, z2, z3, z4⟩ := ZB.out) | (have ZB := Lib.hid (Box2.keep (Box2.new _ 0 0 27) hb); obtain ⟨z0, z1, z2, z3, z4⟩ := ZB.out) | skip)
          | (go_at_call 39; refine (CI.out _ (HL.out _ (Ld3.bel (k := k) (s := s) (r := r) (p := p) (c := c) (a := a) (b := b) (u := u) (v := v) (by assumption)))).mono ?_; rintro e x8 ⟨rfl, hb⟩; have hTw := Lib.hid (show Below W1.heap.size W1 x8 from bT (Ld3.bel (k := k) (s := s) (r := r) (p := p) (c := c) (a := a) (b := b) (u := u) (v := v) (by assumption)) hb); have hszw := hTw.out.size; first | (have ZB := Lib.hid (Box2.keep ZB.out hb); obtain ⟨z0, z1, z2, z3, z4⟩ := ZB.out) | (have ZB : Hid (Box2 x8 W1.heap.size 0 0) := Lib.hid (Box2.keep (Box2.new W1.drew 0 0 27) hb); obtain ⟨z0, z1, z2, z3, z4⟩ := ZB.out) | (have ZB : Hid (Box2 x8 W1.heap.size 0 0) := Lib.hid (Box2.keep (Box2.drew (Box2.new W1 0 0 27)) hb); obtain ⟨z0, z1, z2, z3, z4⟩ := ZB.out) | (have ZB := Lib.hid (Box2.keep (Box2.new _ 0 0 27) hb); obtain ⟨z0, z1, z2, z3, z4⟩ := ZB.out) | skip))
      all_goals (go_wp2_with fail; go_meet; refine ⟨_, rfl, rfl, ?_, ?_, ?_, ?_⟩)
      all_goals first | exact (Box2.new _ _ _ _).c0 | exact (Box2.new _ _ _ _).c1 | exact (Box2.new _ _ _ _).lt | exact bA hTw.out _ | exact (Box2.set ZB.out _ _).c0 | exact (Box2.set ZB.out _ _).c1 | exact (Box2.set ZB.out _ _).lt | exact bset (bset hTw.out (by omega)) (by omega) | ((try simp only [size_set]); first | assumption | (simp (config := { maxDischargeDepth := 8 }) [*, go_sem]; done) | (go_simp; done))
    case rest =>
      obtain ⟨k9, rfl, rfl, m0, m1, m2, hB⟩ := hcut
      have L2 := Lib.hid (HL.out _ hB)
      have q0 := (hB.cell (p := ⟨k7, 0, none⟩) n2).trans n0
      have q1 := (hB.cell (p := ⟨k7, 1, none⟩) n2).trans n1
      have hne : (c3 != c3) = false := by simp
      clear hB n0 n1
      go_wp2_with fail
      refine (eqRatio_same _ _ _).mono ?_
      rintro e w9 ⟨rfl, hb⟩
      go_wp2_with fail
      go_ret
      exact ⟨rfl, bT (by rw [hk]; exact L2.out) hb⟩
end Go.Proofs.YtcklcledchboiaaDoor

/-
  The speeds of planetary gears in the model: the contracts of spec.l07Turn, SunOf, RingOf, PlanetOf, CarrierOf.
-/
import Derived.Test.YtcklcledchboiaaDoorWEp
import Derived.Test.YtcklcledchboiaaDoorDrv
import Derived.Test.YtcklcledchboiaaDoorTrRS
namespace Go.Proofs.YtcklcledchboiaaDoor
open Go.RowKit

/-- Two speeds and the result's box. -/
structure TuS (w : World) (k : Nat) (a b u v : Int) (W : World) : Prop where
  a : Box2 W k a b
  u : Box2 W (k + 1) u v
  r : Box2 W (k + 1 + 1) 0 0
  l : Below w.heap.size w W
theorem TuS.keep {w W W' : World} {k : Nat} {a b u v : Int} (hb : Below W.heap.size W W') (h : TuS w k a b u v W) : TuS w k a b u v W' := ⟨h.a.keep hb, h.u.keep hb, h.r.keep hb, bT h.l hb⟩
theorem TuS.start (w : World) (a b u v : Int) (T : TypeId) : TuS w w.heap.size a b u v (((w.alloc (.cells #[.int .i64 a, .int .i64 b] T)).alloc (.cells #[.int .i64 u, .int .i64 v] T)).alloc (.cells #[.int .i64 0, .int .i64 0] T)) :=
  ⟨((Box2.at_ rfl).alloc _).alloc _, (Box2.at_ (by simp)).alloc _, Box2.at_ (by simp), bA (bA (bA (bR _) _) _) _⟩
set_option maxRecDepth 100000 in
set_option maxHeartbeats 4000000 in
theorem l07Turn_any (a b u v n d : Int) (w : World) (h1 : 1 ≤ n) (h2 : n ≤ 1000) (h3 : 1 ≤ d) (h4 : d ≤ 1000) :
    Calls Tryd.prog 73 #[.agg #[.int .i64 a, .int .i64 b], .agg #[.int .i64 u, .int .i64 v], .int .i64 n, .int .i64 d] w (RatC3 w (tu3 a b u v (rA n d) (rB n d))) := by
  have D0 := Lib.hid (TuS.start w a b u v 27)
  have hl := low_small h1 h2 h3 h4
  have MK := Lib.hid (fun W => l02Make_any n d W (by omega) (by omega) (by omega) (by omega) (by omega))
  have er := r_make (n := n) (d := d) (by omega)
  have eA : mkA n d = rA n d := by rw [er.1, if_pos hl]
  have eB : mkB n d = rB n d := by rw [er.2.1, if_pos hl]
  rw [eA, eB, hl] at MK
  have SU := Lib.hid (fun W => subS a b u v W)
  have HX := Lib.hid (show su3 a b u v = (suA a b u v, suB a b u v, suC a b u v) from rfl)
  clear er eA eB hl h1 h2 h3 h4
  generalize suA a b u v = x at *
  generalize suB a b u v = y at *
  generalize suC a b u v = z at *
  generalize rA n d = m at *
  generalize rB n d = o at *
  go_enter Tryd.func73, Tryd.ntmps73
  go_wp2_with fail
  generalize ((w.alloc (.cells #[.int .i64 a, .int .i64 b] 27)).alloc (.cells #[.int .i64 u, .int .i64 v] 27)).alloc (.cells #[.int .i64 0, .int .i64 0] 27) = W0 at *
  generalize hk : w.heap.size = k at *
  have hle : w.heap.size ≤ k + 1 + 1 := by omega
  refine (MK.out _).mono ?_
  rintro e w1 ⟨rfl, hb⟩
  have D1 := Lib.hid (D0.out.keep (bA hb (.cells #[.int .i64 m, .int .i64 o] 27)))
  have M1 := Lib.hid (Box2.new w1 m o 27)
  clear hb MK D0
  obtain ⟨a0, a1, _, _, _⟩ := D1.out.a
  obtain ⟨u0, u1, _, _, _⟩ := D1.out.u
  go_wp2_with fail
  generalize w1.alloc (.cells #[.int .i64 m, .int .i64 o] 27) = W1 at *
  generalize w1.heap.size = km at *
  refine (SU.out _).mono ?_
  rintro e w2 ⟨rfl, hb⟩
  have D2 := Lib.hid (D1.out.keep (bA hb (.cells #[.int .i64 x, .int .i64 y] 27)))
  have M2 := Lib.hid (M1.out.keep (bA hb (.cells #[.int .i64 x, .int .i64 y] 27)))
  have N2 := Lib.hid (Box2.new w2 x y 27)
  have hkn : k + 1 + 1 < w2.heap.size := Nat.lt_of_lt_of_le D1.out.r.lt hb.size
  clear hb SU D1 M1 a0 a1 u0 u1
  obtain ⟨z0, z1, z2, z3, z4⟩ := D2.out.r
  obtain ⟨m0, m1, _, _, _⟩ := M2.out
  obtain ⟨n0, n1, _, _, _⟩ := N2.out
  by_cases hz : z = 0
  · have HX2 := Lib.hid (bind3_go (f := fun x y => bind3 (mu3 x y m o) fun u' v' => su3 u v u' v') HX.out hz)
    subst hz
    have MU := Lib.hid (fun W => mulS x y m o W)
    have HY := Lib.hid (show mu3 x y m o = (muA x y m o, muB x y m o, muC x y m o) from rfl)
    generalize muA x y m o = x2 at *
    generalize muB x y m o = y2 at *
    generalize muC x y m o = c2 at *
    go_wp2_with fail
    generalize w2.alloc (.cells #[.int .i64 x, .int .i64 y] 27) = W2 at *
    generalize w2.heap.size = kn at *
    refine (MU.out _).mono ?_
    rintro e w3 ⟨rfl, hb⟩
    have D3 := Lib.hid (D2.out.keep hb)
    have N3 := Lib.hid (N2.out.keep hb)
    clear hb MU D2 N2 M2 z0 z1 z2 z3 z4 m0 m1 n0 n1
    have R4 := Lib.hid ((D3.out.r.other (b' := kn) (o := 0) (v := .int .i64 x2) (by omega)).other (b' := kn) (o := 1) (v := .int .i64 y2) (by omega))
    have U4 := Lib.hid ((D3.out.u.other (b' := kn) (o := 0) (v := .int .i64 x2) (by omega)).other (b' := kn) (o := 1) (v := .int .i64 y2) (by omega))
    have N4 := Lib.hid (N3.out.set x2 y2)
    have L4 := Lib.hid (show Below w.heap.size w ((w3.setCell ⟨kn, 0, none⟩ (.int .i64 x2)).setCell ⟨kn, 1, none⟩ (.int .i64 y2)) from bset (bset D3.out.l (by omega)) (by omega))
    obtain ⟨z0, z1, z2, z3, z4⟩ := R4.out
    obtain ⟨y0, y1, _, _, _⟩ := U4.out
    obtain ⟨n0, n1, n2, n3, n4⟩ := N3.out
    by_cases hc : c2 = 0
    · have HY2 := Lib.hid (bind3_go (f := fun u' v' => su3 u v u' v') HY.out hc)
      have SV := Lib.hid (fun W => subS u v x2 y2 W)
      have HZ := Lib.hid (show su3 u v x2 y2 = (suA u v x2 y2, suB u v x2 y2, suC u v x2 y2) from rfl)
      have EQ := Lib.hid (show tu3 a b u v m o = (suA u v x2 y2, suB u v x2 y2, suC u v x2 y2) from HX2.out.trans (HY2.out.trans HZ.out))
      subst hc
      clear HZ HY HY2 HX HX2
      generalize suA u v x2 y2 = x3 at *
      generalize suB u v x2 y2 = y3 at *
      generalize suC u v x2 y2 = c3 at *
      obtain ⟨q0, q1, _, _, _⟩ := N4.out
      go_wp2_with fail
      refine (SV.out _).mono ?_
      rintro e w6 ⟨rfl, hb⟩
      have L6 := Lib.hid (bT L4.out hb)
      obtain ⟨r0, r1, r2, r3, r4⟩ := R4.out.keep hb
      clear hb
      go_wp2_with fail
      rw [EQ.out]
      refine bodyPost_ret (v := .tuple #[.agg #[.int .i64 x3, .int .i64 y3], .int .i64 c3]) ?_ rfl ⟨rfl, (L6.out.setCell hle _).setCell hle _⟩
      simp [results, Tryd.results73, go_sem, r0, r1]
    · have HY2 := Lib.hid (bind3_no (f := fun u' v' => su3 u v u' v') HY.out hc)
      have EQ := Lib.hid (show tu3 a b u v m o = (0, 0, c2) from HX2.out.trans HY2.out)
      have hz2 : (c2 != 0) = true := by simp [hc]
      go_wp2_with fail
      rw [EQ.out]
      refine bodyPost_ret (v := .tuple #[.agg #[.int .i64 0, .int .i64 0], .int .i64 c2]) ?_ rfl ⟨rfl, (L4.out.setCell hle _).setCell hle _⟩
      simp [results, Tryd.results73, go_sem, z0, z1]
  · have HX2 := Lib.hid (bind3_no (f := fun x y => bind3 (mu3 x y m o) fun u' v' => su3 u v u' v') HX.out hz)
    have hz2 : (z != 0) = true := by simp [hz]
    go_upto_region 4 with fail
    generalize w2.alloc (.cells #[.int .i64 x, .int .i64 y] 27) = W2 at *
    go_wp2_with fail
    rw [show tu3 a b u v m o = (0, 0, z) from HX2.out]
    refine bodyPost_ret (v := .tuple #[.agg #[.int .i64 0, .int .i64 0], .int .i64 z]) ?_ rfl ⟨rfl, (D2.out.l.setCell hle _).setCell hle _⟩
    simp [results, Tryd.results73, go_sem, z0, z1]
end Go.Proofs.YtcklcledchboiaaDoor

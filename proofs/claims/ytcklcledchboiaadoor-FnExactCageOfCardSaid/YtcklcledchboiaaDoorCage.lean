/-
  Differentials: the plain words, and the contracts of impl.CageOf, impl.SideOf, spec.CageOf, spec.SideOf.
-/
import Derived.Test.YtcklcledchboiaaDoorSpd
namespace Go.Proofs.YtcklcledchboiaaDoor
open Go.RowKit

def cage3 (n d p q : Int) : R3 := bind3 (ad3 n d p q) fun x y => mu3 x y 1 2
def side3 (n d p q : Int) : R3 := if okR n d && okR p q then bind3 (ad3 n d n d) fun x y => su3 x y p q else (0, 0, 1)
theorem side_no1 {n d p q : Int} (h : okR n d = false) : side3 n d p q = (0, 0, 1) := by simp [side3, h]
theorem side_no2 {n d p q : Int} (h : okR p q = false) : side3 n d p q = (0, 0, 1) := by simp [side3, h]
theorem side_go {n d p q : Int} (h : okR p q = true) : side3 n d p q = bind3 (ad3 n d n d) fun x y => su3 x y p q := by
  unfold side3
  cases h1 : okR n d
  · have : ad3 n d n d = (0, 0, 1) := by simp [ad3, adA, adB, adC, h1, oA, oB, oC]
    rw [this]; simp [bind3]
  · simp [h]
def caA (n d p q : Int) : Int := (cage3 n d p q).1
def caB (n d p q : Int) : Int := (cage3 n d p q).2.1
def caC (n d p q : Int) : Int := (cage3 n d p q).2.2
def siA (n d p q : Int) : Int := (side3 n d p q).1
def siB (n d p q : Int) : Int := (side3 n d p q).2.1
def siC (n d p q : Int) : Int := (side3 n d p q).2.2
set_option maxRecDepth 100000 in
set_option maxHeartbeats 4000000 in
theorem CageI3 (n d p q : Int) (w : World) (a0 a1 : Addr) (hS : Sent w a0 a1) :
    Calls Tryd.prog 20 #[.agg #[.int .i64 n, .int .i64 d], .agg #[.int .i64 p, .int .i64 q]] w (RatC3 w (cage3 n d p q)) := by
  have D0 := Lib.hid (TuS.start w n d p q 27)
  have HM := Lib.hid (mkW_sent hS)
  clear hS
  have AD := Lib.hid (fun W (h : MkW W anyP) => addG n d p q W h (fun _ _ => trivial))
  have HX := Lib.hid (show ad3 n d p q = (adA n d p q, adB n d p q, adC n d p q) from rfl)
  generalize adA n d p q = x at *
  generalize adB n d p q = y at *
  generalize adC n d p q = z at *
  go_enter Tryd.func20, Tryd.ntmps20
  go_wp2_with fail
  generalize ((w.alloc (.cells #[.int .i64 n, .int .i64 d] 27)).alloc (.cells #[.int .i64 p, .int .i64 q] 27)).alloc (.cells #[.int .i64 0, .int .i64 0] 27) = W0 at *
  generalize hk : w.heap.size = k at *
  have hle : w.heap.size ≤ k + 1 + 1 := by omega
  refine (AD.out _ (HM.out.keep D0.out.l)).mono ?_
  rintro e w4 ⟨rfl, hb⟩
  have D4 := Lib.hid (D0.out.keep (bA hb (.cells #[.int .i64 x, .int .i64 y] 27)))
  have N4 := Lib.hid (Box2.new w4 x y 27)
  clear hb
  by_cases hz : z = 0
  · have EQ := Lib.hid (show cage3 n d p q = (muA x y 1 2, muB x y 1 2, muC x y 1 2) from bind3_go (f := fun x y => mu3 x y 1 2) HX.out hz)
    subst hz
    have MU := Lib.hid (fun W (h : MkW W anyP) => mulG x y 1 2 W h (fun _ _ => trivial))
    generalize muA x y 1 2 = x3 at *
    generalize muB x y 1 2 = y3 at *
    generalize muC x y 1 2 = c3 at *
    obtain ⟨n0, n1, _, _, _⟩ := N4.out
    obtain ⟨t0, t1, _, _, _⟩ := D4.out.u
    go_wp2_with fail
    generalize w4.alloc (.cells #[.int .i64 x, .int .i64 y] 27) = W4 at *
    refine (MU.out _ (HM.out.keep D4.out.l)).mono ?_
    rintro e w6 ⟨rfl, hb⟩
    have D6 := Lib.hid (D4.out.keep hb)
    clear hb
    obtain ⟨z0, z1, z2, z3, z4⟩ := D6.out.r
    go_wp2_with fail
    rw [EQ.out]
    refine bodyPost_ret (v := .tuple #[.agg #[.int .i64 x3, .int .i64 y3], .int .i64 c3]) ?_ rfl ⟨rfl, (D6.out.l.setCell hle _).setCell hle _⟩
    simp [results, Tryd.results20, go_sem, z0, z1]
  · have EQ := Lib.hid (show cage3 n d p q = (0, 0, z) from bind3_no (f := fun x y => mu3 x y 1 2) HX.out hz)
    have hz2 : (z != 0) = true := by simp [hz]
    go_upto_region 3 with fail
    obtain ⟨z0, z1, z2, z3, z4⟩ := D4.out.r
    generalize w4.alloc (.cells #[.int .i64 x, .int .i64 y] 27) = W4 at *
    go_wp2_with fail
    rw [EQ.out]
    refine bodyPost_ret (v := .tuple #[.agg #[.int .i64 0, .int .i64 0], .int .i64 z]) ?_ rfl ⟨rfl, (D4.out.l.setCell hle _).setCell hle _⟩
    simp [results, Tryd.results20, go_sem, z0, z1]
theorem CageOfI_any (n d p q : Int) (w : World) (a0 a1 : Addr) (hS : Sent w a0 a1) :
    Calls Tryd.prog 20 #[.agg #[.int .i64 n, .int .i64 d], .agg #[.int .i64 p, .int .i64 q]] w fun e w' => e = .returned (.tuple #[.agg #[.int .i64 (caA n d p q), .int .i64 (caB n d p q)], .int .i64 (caC n d p q)]) ∧ Below w.heap.size w w' := CageI3 n d p q w a0 a1 hS
set_option maxRecDepth 100000 in
set_option maxHeartbeats 4000000 in
theorem CageS3 (n d p q : Int) (w : World) :
    Calls Tryd.prog 45 #[.agg #[.int .i64 n, .int .i64 d], .agg #[.int .i64 p, .int .i64 q]] w (RatC3 w (cage3 n d p q)) := by
  have D0 := Lib.hid (TuS.start w n d p q 27)
  have AD := Lib.hid (fun W => addS n d p q W)
  have HX := Lib.hid (show ad3 n d p q = (adA n d p q, adB n d p q, adC n d p q) from rfl)
  generalize adA n d p q = x at *
  generalize adB n d p q = y at *
  generalize adC n d p q = z at *
  go_enter Tryd.func45, Tryd.ntmps45
  go_wp2_with fail
  generalize ((w.alloc (.cells #[.int .i64 n, .int .i64 d] 27)).alloc (.cells #[.int .i64 p, .int .i64 q] 27)).alloc (.cells #[.int .i64 0, .int .i64 0] 27) = W0 at *
  generalize hk : w.heap.size = k at *
  have hle : w.heap.size ≤ k + 1 + 1 := by omega
  refine (AD.out _).mono ?_
  rintro e w4 ⟨rfl, hb⟩
  have D4 := Lib.hid (D0.out.keep (bA hb (.cells #[.int .i64 x, .int .i64 y] 27)))
  have N4 := Lib.hid (Box2.new w4 x y 27)
  clear hb
  by_cases hz : z = 0
  · have EQ := Lib.hid (show cage3 n d p q = (muA x y 1 2, muB x y 1 2, muC x y 1 2) from bind3_go (f := fun x y => mu3 x y 1 2) HX.out hz)
    subst hz
    have MU := Lib.hid (fun W => mulS x y 1 2 W)
    generalize muA x y 1 2 = x3 at *
    generalize muB x y 1 2 = y3 at *
    generalize muC x y 1 2 = c3 at *
    obtain ⟨n0, n1, _, _, _⟩ := N4.out
    obtain ⟨t0, t1, _, _, _⟩ := D4.out.u
    go_wp2_with fail
    generalize w4.alloc (.cells #[.int .i64 x, .int .i64 y] 27) = W4 at *
    refine (MU.out _).mono ?_
    rintro e w6 ⟨rfl, hb⟩
    have D6 := Lib.hid (D4.out.keep hb)
    clear hb
    obtain ⟨z0, z1, z2, z3, z4⟩ := D6.out.r
    go_wp2_with fail
    rw [EQ.out]
    refine bodyPost_ret (v := .tuple #[.agg #[.int .i64 x3, .int .i64 y3], .int .i64 c3]) ?_ rfl ⟨rfl, (D6.out.l.setCell hle _).setCell hle _⟩
    simp [results, Tryd.results45, go_sem, z0, z1]
  · have EQ := Lib.hid (show cage3 n d p q = (0, 0, z) from bind3_no (f := fun x y => mu3 x y 1 2) HX.out hz)
    have hz2 : (z != 0) = true := by simp [hz]
    go_upto_region 3 with fail
    obtain ⟨z0, z1, z2, z3, z4⟩ := D4.out.r
    generalize w4.alloc (.cells #[.int .i64 x, .int .i64 y] 27) = W4 at *
    go_wp2_with fail
    rw [EQ.out]
    refine bodyPost_ret (v := .tuple #[.agg #[.int .i64 0, .int .i64 0], .int .i64 z]) ?_ rfl ⟨rfl, (D4.out.l.setCell hle _).setCell hle _⟩
    simp [results, Tryd.results45, go_sem, z0, z1]
theorem CageOfS_any (n d p q : Int) (w : World) :
    Calls Tryd.prog 45 #[.agg #[.int .i64 n, .int .i64 d], .agg #[.int .i64 p, .int .i64 q]] w fun e w' => e = .returned (.tuple #[.agg #[.int .i64 (caA n d p q), .int .i64 (caB n d p q)], .int .i64 (caC n d p q)]) ∧ Below w.heap.size w w' := CageS3 n d p q w
set_option maxRecDepth 100000 in
set_option maxHeartbeats 4000000 in
theorem SideI3 (n d p q : Int) (w : World) (a0 a1 : Addr) (hS : Sent w a0 a1) :
    Calls Tryd.prog 21 #[.agg #[.int .i64 n, .int .i64 d], .agg #[.int .i64 p, .int .i64 q]] w (RatC3 w (side3 n d p q)) := by
  have D0 := Lib.hid (TuS.start w n d p q 27)
  have HM := Lib.hid (mkW_sent hS)
  clear hS
  have VU := Lib.hid (fun W => valid_any p q W)
  cases h1 : okR p q
  · have EQ := Lib.hid (side_no2 (n := n) (d := d) h1)
    rw [h1] at VU
    rw [EQ.out]
    clear h1
    go_enter Tryd.func21, Tryd.ntmps21
    go_wp2_with fail
    generalize ((w.alloc (.cells #[.int .i64 n, .int .i64 d] 27)).alloc (.cells #[.int .i64 p, .int .i64 q] 27)).alloc (.cells #[.int .i64 0, .int .i64 0] 27) = W0 at *
    generalize hk : w.heap.size = k at *
    have hle : w.heap.size ≤ k + 1 + 1 := by omega
    refine (VU.out _).mono ?_
    rintro e w1 ⟨rfl, hb⟩
    have D1 := Lib.hid (D0.out.keep hb)
    clear hb
    obtain ⟨z0, z1, z2, z3, z4⟩ := D1.out.r
    go_wp2_with fail
    refine bodyPost_ret (v := .tuple #[.agg #[.int .i64 0, .int .i64 0], .int .i64 1]) ?_ rfl ⟨rfl, (D1.out.l.setCell hle _).setCell hle _⟩
    simp [results, Tryd.results21, go_sem, z0, z1]
  · have SG := Lib.hid (side_go (n := n) (d := d) h1)
    rw [h1] at VU
    clear h1
    have AD := Lib.hid (fun W (h : MkW W anyP) => addG n d n d W h (fun _ _ => trivial))
    have HX := Lib.hid (show ad3 n d n d = (adA n d n d, adB n d n d, adC n d n d) from rfl)
    generalize adA n d n d = x at *
    generalize adB n d n d = y at *
    generalize adC n d n d = z at *
    go_enter Tryd.func21, Tryd.ntmps21
    go_wp2_with fail
    generalize ((w.alloc (.cells #[.int .i64 n, .int .i64 d] 27)).alloc (.cells #[.int .i64 p, .int .i64 q] 27)).alloc (.cells #[.int .i64 0, .int .i64 0] 27) = W0 at *
    generalize hk : w.heap.size = k at *
    have hle : w.heap.size ≤ k + 1 + 1 := by omega
    refine (VU.out _).mono ?_
    rintro e w1 ⟨rfl, hb⟩
    have D1 := Lib.hid (D0.out.keep hb)
    clear hb
    obtain ⟨y0, y1, _, _, _⟩ := D1.out.a
    go_wp2_with fail
    clear y0 y1
    refine (AD.out _ (HM.out.keep D1.out.l)).mono ?_
    rintro e w4 ⟨rfl, hb⟩
    have D4 := Lib.hid (D1.out.keep (bA hb (.cells #[.int .i64 x, .int .i64 y] 27)))
    have N4 := Lib.hid (Box2.new w4 x y 27)
    clear hb
    by_cases hz : z = 0
    · have EQ := Lib.hid (show side3 n d p q = (suA x y p q, suB x y p q, suC x y p q) from SG.out.trans (bind3_go (f := fun x y => su3 x y p q) HX.out hz))
      subst hz
      have SU := Lib.hid (fun W (h : MkW W anyP) => subG x y p q W h (fun _ _ => trivial))
      generalize suA x y p q = x3 at *
      generalize suB x y p q = y3 at *
      generalize suC x y p q = c3 at *
      obtain ⟨n0, n1, _, _, _⟩ := N4.out
      obtain ⟨t0, t1, _, _, _⟩ := D4.out.u
      go_wp2_with fail
      generalize w4.alloc (.cells #[.int .i64 x, .int .i64 y] 27) = W4 at *
      refine (SU.out _ (HM.out.keep D4.out.l)).mono ?_
      rintro e w6 ⟨rfl, hb⟩
      have D6 := Lib.hid (D4.out.keep hb)
      clear hb
      obtain ⟨z0, z1, z2, z3, z4⟩ := D6.out.r
      go_wp2_with fail
      rw [EQ.out]
      refine bodyPost_ret (v := .tuple #[.agg #[.int .i64 x3, .int .i64 y3], .int .i64 c3]) ?_ rfl ⟨rfl, (D6.out.l.setCell hle _).setCell hle _⟩
      simp [results, Tryd.results21, go_sem, z0, z1]
    · have EQ := Lib.hid (show side3 n d p q = (0, 0, z) from SG.out.trans (bind3_no (f := fun x y => su3 x y p q) HX.out hz))
      have hz2 : (z != 0) = true := by simp [hz]
      go_upto_region 5 with fail
      obtain ⟨z0, z1, z2, z3, z4⟩ := D4.out.r
      generalize w4.alloc (.cells #[.int .i64 x, .int .i64 y] 27) = W4 at *
      go_wp2_with fail
      rw [EQ.out]
      refine bodyPost_ret (v := .tuple #[.agg #[.int .i64 0, .int .i64 0], .int .i64 z]) ?_ rfl ⟨rfl, (D4.out.l.setCell hle _).setCell hle _⟩
      simp [results, Tryd.results21, go_sem, z0, z1]
theorem SideOfI_any (n d p q : Int) (w : World) (a0 a1 : Addr) (hS : Sent w a0 a1) :
    Calls Tryd.prog 21 #[.agg #[.int .i64 n, .int .i64 d], .agg #[.int .i64 p, .int .i64 q]] w fun e w' => e = .returned (.tuple #[.agg #[.int .i64 (siA n d p q), .int .i64 (siB n d p q)], .int .i64 (siC n d p q)]) ∧ Below w.heap.size w w' := SideI3 n d p q w a0 a1 hS
theorem ad_make {n d : Int} (h : okR n d = true) : ad3 n d n d = (if lowOk (addX n d n d) (mulX d d) then (mkA (addX n d n d) (mulX d d), mkB (addX n d n d) (mulX d d), 0) else (0, 0, 2)) := by
  obtain ⟨h1, h2, _⟩ := okR_bd h
  obtain ⟨a, b, c⟩ := r_make (n := addX n d n d) (mulX_pos h1 h1)
  unfold ad3 adA adB adC oA oB oC
  rw [h, a, b, c]
  cases lowOk (addX n d n d) (mulX d d) <;> rfl
set_option maxRecDepth 100000 in
set_option maxHeartbeats 4000000 in
theorem SideS3 (n d p q : Int) (w : World) :
    Calls Tryd.prog 46 #[.agg #[.int .i64 n, .int .i64 d], .agg #[.int .i64 p, .int .i64 q]] w (RatC3 w (side3 n d p q)) := by
  have D0 := Lib.hid (TuS.start w n d p q 27)
  have VA := Lib.hid (fun W => l02Ok_any n d W)
  have VU := Lib.hid (fun W => l02Ok_any p q W)
  cases h0 : okR n d
  · have EQ := Lib.hid (side_no1 (p := p) (q := q) h0)
    rw [h0] at VA
    rw [EQ.out]
    clear h0
    go_enter Tryd.func46, Tryd.ntmps46
    go_wp2_with fail
    generalize ((w.alloc (.cells #[.int .i64 n, .int .i64 d] 27)).alloc (.cells #[.int .i64 p, .int .i64 q] 27)).alloc (.cells #[.int .i64 0, .int .i64 0] 27) = W0 at *
    generalize hk : w.heap.size = k at *
    have hle : w.heap.size ≤ k + 1 + 1 := by omega
    refine (VA.out _).mono ?_
    rintro e w1 ⟨rfl, hb⟩
    have D1 := Lib.hid (D0.out.keep hb)
    clear hb
    obtain ⟨z0, z1, z2, z3, z4⟩ := D1.out.r
    go_wp2_with fail
    refine bodyPost_ret (v := .tuple #[.agg #[.int .i64 0, .int .i64 0], .int .i64 1]) ?_ rfl ⟨rfl, (D1.out.l.setCell hle _).setCell hle _⟩
    simp [results, Tryd.results46, go_sem, z0, z1]
  · cases h1 : okR p q
    · have EQ := Lib.hid (side_no2 (n := n) (d := d) h1)
      rw [h0] at VA
      rw [h1] at VU
      rw [EQ.out]
      clear h0 h1
      go_enter Tryd.func46, Tryd.ntmps46
      go_wp2_with fail
      generalize ((w.alloc (.cells #[.int .i64 n, .int .i64 d] 27)).alloc (.cells #[.int .i64 p, .int .i64 q] 27)).alloc (.cells #[.int .i64 0, .int .i64 0] 27) = W0 at *
      generalize hk : w.heap.size = k at *
      have hle : w.heap.size ≤ k + 1 + 1 := by omega
      refine (VA.out _).mono ?_
      rintro e w1 ⟨rfl, hb⟩
      have D1 := Lib.hid (D0.out.keep hb)
      clear hb
      obtain ⟨y0, y1, _, _, _⟩ := D1.out.u
      go_wp2_with fail
      refine (VU.out _).mono ?_
      rintro e w2 ⟨rfl, hb⟩
      have D2 := Lib.hid (D1.out.keep hb)
      clear hb y0 y1
      obtain ⟨z0, z1, z2, z3, z4⟩ := D2.out.r
      go_wp2_with fail
      refine bodyPost_ret (v := .tuple #[.agg #[.int .i64 0, .int .i64 0], .int .i64 1]) ?_ rfl ⟨rfl, (D2.out.l.setCell hle _).setCell hle _⟩
      simp [results, Tryd.results46, go_sem, z0, z1]
    · obtain ⟨b1, b2, b3, b4⟩ := okR_bd h0
      have AD := Lib.hid (fun W => l02Add_any n d n d W b3 b4 b1 b2 b3 b4 b1 b2)
      have HX := Lib.hid (ad_make h0)
      have SG := Lib.hid (side_go (n := n) (d := d) h1)
      rw [h0] at VA
      rw [h1] at VU
      clear h0 h1 b1 b2 b3 b4
      generalize mkA (addX n d n d) (mulX d d) = x at *
      generalize mkB (addX n d n d) (mulX d d) = y at *
      generalize lowOk (addX n d n d) (mulX d d) = ok at *
      go_enter Tryd.func46, Tryd.ntmps46
      go_wp2_with fail
      generalize ((w.alloc (.cells #[.int .i64 n, .int .i64 d] 27)).alloc (.cells #[.int .i64 p, .int .i64 q] 27)).alloc (.cells #[.int .i64 0, .int .i64 0] 27) = W0 at *
      generalize hk : w.heap.size = k at *
      have hle : w.heap.size ≤ k + 1 + 1 := by omega
      refine (VA.out _).mono ?_
      rintro e w1 ⟨rfl, hb⟩
      have D1 := Lib.hid (D0.out.keep hb)
      clear hb
      obtain ⟨y0, y1, _, _, _⟩ := D1.out.u
      go_wp2_with fail
      refine (VU.out _).mono ?_
      rintro e w2 ⟨rfl, hb⟩
      have D2 := Lib.hid (D1.out.keep hb)
      clear hb y0 y1
      obtain ⟨y0, y1, _, _, _⟩ := D2.out.a
      go_wp2_with fail
      clear y0 y1
      refine (AD.out _).mono ?_
      rintro e w4 ⟨rfl, hb⟩
      have D4 := Lib.hid (D2.out.keep (bA hb (.cells #[.int .i64 x, .int .i64 y] 27)))
      have N4 := Lib.hid (Box2.new w4 x y 27)
      clear hb
      cases ok
      · have EQ := Lib.hid (show side3 n d p q = (0, 0, 2) from SG.out.trans (bind3_no (f := fun x y => su3 x y p q) (HX.out.trans (if_neg (by simp))) (by decide)))
        go_upto_region 5 with fail
        obtain ⟨z0, z1, z2, z3, z4⟩ := D4.out.r
        generalize w4.alloc (.cells #[.int .i64 x, .int .i64 y] 27) = W4 at *
        go_wp2_with fail
        rw [EQ.out]
        refine bodyPost_ret (v := .tuple #[.agg #[.int .i64 0, .int .i64 0], .int .i64 2]) ?_ rfl ⟨rfl, (D4.out.l.setCell hle _).setCell hle _⟩
        simp [results, Tryd.results46, go_sem, z0, z1]
      · have EQ := Lib.hid (show side3 n d p q = (suA x y p q, suB x y p q, suC x y p q) from SG.out.trans (bind3_go (f := fun x y => su3 x y p q) (HX.out.trans (if_pos rfl)) rfl))
        have SU := Lib.hid (fun W => subS x y p q W)
        generalize suA x y p q = x3 at *
        generalize suB x y p q = y3 at *
        generalize suC x y p q = c3 at *
        obtain ⟨n0, n1, _, _, _⟩ := N4.out
        obtain ⟨t0, t1, _, _, _⟩ := D4.out.u
        go_wp2_with fail
        generalize w4.alloc (.cells #[.int .i64 x, .int .i64 y] 27) = W4 at *
        refine (SU.out _).mono ?_
        rintro e w6 ⟨rfl, hb⟩
        have D6 := Lib.hid (D4.out.keep hb)
        clear hb
        obtain ⟨z0, z1, z2, z3, z4⟩ := D6.out.r
        go_wp2_with fail
        rw [EQ.out]
        refine bodyPost_ret (v := .tuple #[.agg #[.int .i64 x3, .int .i64 y3], .int .i64 c3]) ?_ rfl ⟨rfl, (D6.out.l.setCell hle _).setCell hle _⟩
        simp [results, Tryd.results46, go_sem, z0, z1]
theorem SideOfS_any (n d p q : Int) (w : World) :
    Calls Tryd.prog 46 #[.agg #[.int .i64 n, .int .i64 d], .agg #[.int .i64 p, .int .i64 q]] w fun e w' => e = .returned (.tuple #[.agg #[.int .i64 (siA n d p q), .int .i64 (siB n d p q)], .int .i64 (siC n d p q)]) ∧ Below w.heap.size w w' := SideS3 n d p q w
end Go.Proofs.YtcklcledchboiaaDoor

/-
  The walk of laws.FnNeighbours.
-/
import Derived.Test.YtldjplopglpgfaaNbL
namespace Go.Proofs.Ytldjplopglpgfaa
open Go.RowKit

theorem NoR.inr {n d m a b c f k : Int} (h : NoR n d m a b c f k) (ho : okR n d = true) (h1 : 1 ≤ m) (h2 : m ≤ 1000000000) : k = 0 ∧ NbR n d m a b c f := by
  rcases h with ⟨h0, _⟩ | ⟨_, h3, _⟩ | ⟨_, _, _, h3, h4⟩
  · rw [h0] at ho; cases ho
  · exact absurd ⟨h1, h2⟩ h3
  · exact ⟨h4, h3⟩

/-- Which of the two is the best. -/
theorem bw_case {n d a b c f x y : Int} (hx : bwA n d a b c f 0 = x) (hy : bwB n d a b c f 0 = y) : (x = a ∧ y = b ∧ ¬ dY n d c f b < dX n d a b f) ∨ (x = c ∧ y = f ∧ ¬ dX n d a b f < dY n d c f b) := by
  cases h : clo n d a b c f
  · obtain ⟨e1, e2⟩ := bw_lo h
    left
    refine ⟨by omega, by omega, ?_⟩
    intro hh
    unfold clo at h
    simp only [Bool.or_eq_false_iff, decide_eq_false_iff_not] at h
    exact h.1 hh
  · obtain ⟨e1, e2⟩ := bw_hi h
    right
    refine ⟨by omega, by omega, ?_⟩
    intro hh
    unfold clo at h
    simp only [Bool.or_eq_true, Bool.and_eq_true, decide_eq_true_eq] at h
    omega

theorem bel_n {B : Nat} {a w : World} (h : Below B a w) (n : Nat) : Below B a (w.drewN n) := h.trans ⟨rfl, rfl, rfl, Nat.le_refl _, fun _ _ => rfl⟩
/-- What stands in the last region. -/
def QH (w : World) (p q r s : Nat) (x1 x2 y1 y2 z1 z2 t1 t2 : Int) (w' : World) : Prop :=
  w'.cell? ⟨p, 0, none⟩ = some (.int .i64 x1) ∧ w'.cell? ⟨p, 1, none⟩ = some (.int .i64 x2) ∧ w'.cell? ⟨q, 0, none⟩ = some (.int .i64 y1) ∧ w'.cell? ⟨q, 1, none⟩ = some (.int .i64 y2) ∧
  w'.cell? ⟨r, 0, none⟩ = some (.int .i64 z1) ∧ w'.cell? ⟨r, 1, none⟩ = some (.int .i64 z2) ∧ w'.cell? ⟨s, 0, none⟩ = some (.int .i64 t1) ∧ w'.cell? ⟨s, 1, none⟩ = some (.int .i64 t2) ∧
  (p < w'.heap.size ∧ q < w'.heap.size ∧ r < w'.heap.size ∧ s < w'.heap.size) ∧ Below w.heap.size w w'
theorem QH.of {w : World} {p q r s : Nat} {x1 x2 y1 y2 z1 z2 t1 t2 : Int} {w' : World} (h1 : Box2 w' p x1 x2) (h2 : Box2 w' q y1 y2) (h3 : Box2 w' r z1 z2) (h4 : Box2 w' s t1 t2) (hb : Below w.heap.size w w') : QH w p q r s x1 x2 y1 y2 z1 z2 t1 t2 w' :=
  ⟨h1.c0, h1.c1, h2.c0, h2.c1, h3.c0, h3.c1, h4.c0, h4.c1, ⟨h1.lt, h2.lt, h3.lt, h4.lt⟩, hb⟩
theorem QH.drew {w : World} {p q r s : Nat} {x1 x2 y1 y2 z1 z2 t1 t2 : Int} {w' : World} (h : QH w p q r s x1 x2 y1 y2 z1 z2 t1 t2 w') : QH w p q r s x1 x2 y1 y2 z1 z2 t1 t2 w'.drew := by
  obtain ⟨h1, h2, h3, h4, h5, h6, h7, h8, h9, h10⟩ := h
  exact ⟨h1, h2, h3, h4, h5, h6, h7, h8, h9, h10.drew⟩
theorem QH.keep {w : World} {p q r s : Nat} {x1 x2 y1 y2 z1 z2 t1 t2 : Int} {w' w2 : World} (hb : Below w'.heap.size w' w2) (h : QH w p q r s x1 x2 y1 y2 z1 z2 t1 t2 w') : QH w p q r s x1 x2 y1 y2 z1 z2 t1 t2 w2 := by
  obtain ⟨h1, h2, h3, h4, h5, h6, h7, h8, ⟨b1, b2, b3, b4⟩, h10⟩ := h
  have hs := hb.size
  exact ⟨(hb.cell (p := ⟨p, 0, none⟩) b1).trans h1, (hb.cell (p := ⟨p, 1, none⟩) b1).trans h2, (hb.cell (p := ⟨q, 0, none⟩) b2).trans h3, (hb.cell (p := ⟨q, 1, none⟩) b2).trans h4, (hb.cell (p := ⟨r, 0, none⟩) b3).trans h5, (hb.cell (p := ⟨r, 1, none⟩) b3).trans h6, (hb.cell (p := ⟨s, 0, none⟩) b4).trans h7, (hb.cell (p := ⟨s, 1, none⟩) b4).trans h8, ⟨by omega, by omega, by omega, by omega⟩, bT h10 hb⟩
theorem sg_lo {c x y : Int} (h : (c = -1 ∧ x < y) ∨ c = 0 ∨ (c = 1 ∧ y < x)) (hs : x ≤ y) : c = -1 ∨ c = 0 := by omega
theorem sg_hi {c x y : Int} (h : (c = -1 ∧ x < y) ∨ c = 0 ∨ (c = 1 ∧ y < x)) (hs : y ≤ x) : c = 0 ∨ c = 1 := by omega

set_option maxRecDepth 100000 in
set_option maxHeartbeats 8000000 in
theorem FnNeighbours_walk (a : Option Addr) (len cap : Nat) (zs : List Int) (b : Option Addr) (len2 cap2 : Nat) (zs2 : List Int) (w : World) (h : IsRow .u8 w a len cap zs) (h2 : IsRow .u8 w b len2 cap2 zs2) :
    Calls Try.prog 4 #[.slice a len cap, .slice b len2 cap2] w fun e w' => e = .returned (.bool true) ∧ Below w.heap.size w w' := by
  have l1 := (row_of h).1
  have l2 := (row_of h2).1
  unfold maxLen at l1 l2
  have HA := Lib.hid h
  have HB := Lib.hid h2
  clear h h2
  by_cases hl : 3000 < len ∨ 3000 < len2
  · go_enter Try.func4, Try.ntmps4
    go_wp2_with fail
    refine (a2Long_yes _ _ _ _ _ _ _ (by omega) (by omega) hl).mono ?_
    rintro e w1 ⟨rfl, rfl⟩
    go_wp2_with fail
    go_ret
    exact ⟨rfl, bR _⟩
  · have hl1 : len ≤ 3000 := by omega
    have hl2 : len2 ≤ 3000 := by omega
    clear hl
    go_enter Try.func4, Try.ntmps4
    go_wp2_with fail
    refine (a2Long_no _ _ _ _ _ _ _ hl1 hl2).mono ?_
    rintro e w0 ⟨rfl, rfl⟩
    go_wp2_with fail
    refine (A2Ratios_any _ a len cap zs HA.out).mono ?_
    rintro e w1 ⟨n, d, p, q, k1, k2, rfl, hb1⟩
    have K1 := Lib.hid k1
    have A0 := Lib.hid ((Box2.new w1 n d 25).alloc (.cells #[.int .i64 p, .int .i64 q] 25))
    have L0 := Lib.hid (bA (bA hb1 (.cells #[.int .i64 n, .int .i64 d] 25)) (.cells #[.int .i64 p, .int .i64 q] 25))
    have HB1 := Lib.hid (HB.out.keep (bA (bA hb1 (.cells #[.int .i64 n, .int .i64 d] 25)) (.cells #[.int .i64 p, .int .i64 q] 25)))
    clear k1 k2 hb1
    go_wp2_with fail
    generalize (w1.alloc (.cells #[.int .i64 n, .int .i64 d] 25)).alloc (.cells #[.int .i64 p, .int .i64 q] 25) = W0 at *
    refine (a2At_any _ b len2 cap2 zs2 HB1.out 0 200 (by omega) (by omega) (by omega)).mono ?_
    rintro e w2 ⟨v, v0, v1, rfl, rfl⟩
    generalize w1.heap.size = ba at *
    clear HA HB HB1
    obtain ⟨x0, x1, x2, x3, x4⟩ := A0.out
    go_wp2_with fail
    refine (NeighboursOfI_any n d _ _ (by omega)).mono ?_
    rintro e w3 ⟨lA, lB, hA, hB, k, hn, rfl, hb3⟩
    generalize hm : (1 + 7 * v : Int) = m at *
    have m1 : 1 ≤ m := by omega
    have m2 : m ≤ 2000 := by omega
    clear hm v0 v1
    obtain ⟨rfl, hnb⟩ := hn.inr K1.out m1 (by omega)
    have HN := Lib.hid hn
    have HNB := Lib.hid hnb
    have B0 := Lib.hid (((A0.out.keep hb3).alloc (.cells #[.int .i64 lA, .int .i64 lB] 25)).alloc (.cells #[.int .i64 hA, .int .i64 hB] 25))
    have B1 := Lib.hid ((Box2.new w3 lA lB 25).alloc (.cells #[.int .i64 hA, .int .i64 hB] 25))
    have B2 := Lib.hid (show Box2 ((w3.alloc (.cells #[.int .i64 lA, .int .i64 lB] 25)).alloc (.cells #[.int .i64 hA, .int .i64 hB] 25)) (w3.heap.size + 1) hA hB by have := Box2.new (w3.alloc (.cells #[.int .i64 lA, .int .i64 lB] 25)) hA hB 25; rwa [World.size_alloc] at this)
    have L1 := Lib.hid (bA (bA (bT L0.out hb3) (.cells #[.int .i64 lA, .int .i64 lB] 25)) (.cells #[.int .i64 hA, .int .i64 hB] 25))
    clear hn hnb hb3 A0 L0 x0 x1 x2 x3 x4
    obtain ⟨x0, x1, x2, x3, x4⟩ := B0.out
    go_wp2_with fail
    generalize (w3.alloc (.cells #[.int .i64 lA, .int .i64 lB] 25)).alloc (.cells #[.int .i64 hA, .int .i64 hB] 25) = W1 at *
    generalize w3.heap.size = bl at *
    refine (BestWithinI_any n d m _ (by omega)).mono ?_
    rintro e w4 ⟨c1, c2, c3, c4, c5, hn2, rfl, hb4⟩
    obtain ⟨rfl, rfl, rfl, rfl, rfl⟩ := HN.out.unique hn2
    generalize hbA : bwA n d lA lB hA hB 0 = bA' at *
    generalize hbB : bwB n d lA lB hA hB 0 = bB' at *
    have HBA := Lib.hid hbA
    have HBB := Lib.hid hbB
    have D0 := Lib.hid ((B0.out.keep hb4).alloc (.cells #[.int .i64 bA', .int .i64 bB'] 25))
    have D1 := Lib.hid ((B1.out.keep hb4).alloc (.cells #[.int .i64 bA', .int .i64 bB'] 25))
    have D2 := Lib.hid ((B2.out.keep hb4).alloc (.cells #[.int .i64 bA', .int .i64 bB'] 25))
    have D3 := Lib.hid (Box2.new w4 bA' bB' 25)
    have L2 := Lib.hid (bA (bT L1.out hb4) (.cells #[.int .i64 bA', .int .i64 bB'] 25))
    clear hn2 hb4 hbA hbB B0 B1 B2 L1 HN x0 x1 x2 x3 x4
    obtain ⟨ya, yb⟩ := HNB.out.ok K1.out (by omega)
    have YA := Lib.hid ya
    have YB := Lib.hid yb
    clear ya yb
    obtain ⟨y0, y1, y2, y3, y4⟩ := D1.out
    go_wp2_with fail
    generalize w4.alloc (.cells #[.int .i64 bA', .int .i64 bB'] 25) = W2 at *
    generalize w4.heap.size = bb at *
    refine (ValidRatioS_any _ _ _).mono ?_
    rw [YA.out]
    rintro e w5 ⟨rfl, hb5⟩
    have E0 := Lib.hid (D0.out.keep hb5)
    have E1 := Lib.hid (D1.out.keep hb5)
    have E2 := Lib.hid (D2.out.keep hb5)
    have E3 := Lib.hid (D3.out.keep hb5)
    have L3 := Lib.hid (bT L2.out hb5)
    clear hb5 D0 D1 D2 D3 L2 y0 y1 y2 y3 y4
    obtain ⟨y0, y1, y2, y3, y4⟩ := E2.out
    go_wp2_with fail
    refine (ValidRatioS_any _ _ _).mono ?_
    rw [YB.out]
    rintro e w6 ⟨rfl, hb6⟩
    have G0 := Lib.hid (E0.out.keep hb6)
    have G1 := Lib.hid (E1.out.keep hb6)
    have G2 := Lib.hid (E2.out.keep hb6)
    have G3 := Lib.hid (E3.out.keep hb6)
    have L4 := Lib.hid (bT L3.out hb6)
    clear hb6 E0 E1 E2 E3 L3 y0 y1 y2 y3 y4
    obtain ⟨u0, u1, u2, u3, u4⟩ := G0.out
    obtain ⟨v0, v1, v2, v3, v4⟩ := G1.out
    obtain ⟨x0, x1, x2, x3, x4⟩ := G2.out
    obtain ⟨y0, y1, y2, y3, y4⟩ := G3.out
    rcases HNB.out with ⟨hdm, rfl, rfl, rfl, rfl⟩ | hnb
    · have hx : bA' = hA ∧ bB' = hB := by rcases bw_case HBA.out HBB.out with ⟨e1, e2, _⟩ | ⟨e1, e2, _⟩ <;> exact ⟨e1, e2⟩
      obtain ⟨e1, e2⟩ := hx
      obtain rfl := e1.symm
      obtain rfl := e2.symm
      go_wp2_with fail
      go_ret
      exact ⟨rfl, L4.out⟩
    · have d1 := (okR_bd K1.out).1
      have hlt := hnb.lt
      have hd1 := hnb.det
      have b1 := hnb.bm
      have b2 := hnb.em
      have ne : ¬ lA = hA ∨ (lA = hA ∧ ¬ lB = hB) := by
        by_cases e1 : lA = hA
        · right
          refine ⟨e1, fun e2 => ?_⟩
          subst e1 e2
          omega
        · exact .inl e1
      have HC := Lib.hid (bw_case HBA.out HBB.out)
      have CM := Lib.hid (cmpR_m1 YA.out K1.out hnb.lo)
      have CP := Lib.hid (cmpR_p1 YB.out K1.out hnb.hi)
      have hfar := hnb.far
      obtain ⟨t1, t2, t3, t4⟩ := okR_bd YA.out
      obtain ⟨t5, t6, t7, t8⟩ := okR_bd YB.out
      have p1 := mul_bd t7 t8 (show -1000000000 ≤ lB by omega) t2
      have p2 := mul_bd t3 t4 (show -1000000000 ≤ hB by omega) t6
      have hbest : ((bA' = lA ∧ bB' = lB) ∧ dX n d lA lB hB ≤ dY n d hA hB lB) ∨ ((bA' = hA ∧ bB' = hB) ∧ dY n d hA hB lB ≤ dX n d lA lB hB) := by
        rcases HC.out with ⟨e1, e2, e3⟩ | ⟨e1, e2, e3⟩
        · exact .inl ⟨⟨e1, e2⟩, by omega⟩
        · exact .inr ⟨⟨e1, e2⟩, by omega⟩
      clear HBA HBB HC
      have HNB2 := Lib.hid hnb
      clear hnb
      rcases ne with ne1 | ⟨rfl, ne2⟩ <;> rcases hbest with ⟨⟨e1, e2⟩, hs⟩ | ⟨⟨e1, e2⟩, hs⟩ <;> obtain rfl := e1.symm <;> obtain rfl := e2.symm <;> have HS := Lib.hid hs <;> clear hs
      all_goals
        go_wp2_with fail
        refine (CompareRatioS_any _ _ _ _ _).mono ?_
        rw [CM.out]
        rintro e w7 ⟨rfl, hb7⟩
        have E0 := Lib.hid (G0.out.keep hb7)
        have E1 := Lib.hid (G1.out.keep hb7)
        have E2 := Lib.hid (G2.out.keep hb7)
        have E3 := Lib.hid (G3.out.keep hb7)
        have L5 := Lib.hid (bT L4.out hb7)
        clear hb7 G0 G1 G2 G3 L4 u0 u1 u2 u3 u4 v0 v1 v2 v3 v4 x0 x1 x2 x3 x4 y0 y1 y2 y3 y4
        obtain ⟨u0, u1, u2, u3, u4⟩ := E0.out
        obtain ⟨x0, x1, x2, x3, x4⟩ := E2.out
        go_wp2_with fail
        refine (CompareRatioS_any _ _ _ _ _).mono ?_
        rw [CP.out]
        rintro e w8 ⟨rfl, hb8⟩
        have G0 := Lib.hid (E0.out.keep hb8)
        have G1 := Lib.hid (E1.out.keep hb8)
        have G2 := Lib.hid (E2.out.keep hb8)
        have G3 := Lib.hid (E3.out.keep hb8)
        have L6 := Lib.hid (bT L5.out hb8)
        clear hb8 E0 E1 E2 E3 L5 u0 u1 u2 u3 u4 x0 x1 x2 x3 x4
        obtain ⟨u0, u1, u2, u3, u4⟩ := G0.out
        obtain ⟨v0, v1, v2, v3, v4⟩ := G1.out
        obtain ⟨x0, x1, x2, x3, x4⟩ := G2.out
        go_wp2_with fail
        refine (SubRatioS_any _ _ _ _ _).mono ?_
        rw [v_yes K1.out YA.out]
        rintro e w9 ⟨rfl, hb9⟩
        have SG := Lib.hid (fun h1 h2 => nb_sign K1.out (show m ≤ 1000000000 by omega) HNB.out h1 h2)
        generalize oA true (addX n d (-_) _) (mulX d _) = xa at *
        generalize oB true (addX n d (-_) _) (mulX d _) = xb at *
        generalize oC true (addX n d (-_) _) (mulX d _) = ca at *
        have E0 := Lib.hid ((G0.out.keep hb9).alloc (.cells #[.int .i64 xa, .int .i64 xb] 25))
        have E1 := Lib.hid ((G1.out.keep hb9).alloc (.cells #[.int .i64 xa, .int .i64 xb] 25))
        have E2 := Lib.hid ((G2.out.keep hb9).alloc (.cells #[.int .i64 xa, .int .i64 xb] 25))
        have E3 := Lib.hid ((G3.out.keep hb9).alloc (.cells #[.int .i64 xa, .int .i64 xb] 25))
        have E4 := Lib.hid (Box2.new w9 xa xb 25)
        have L7 := Lib.hid (bA (bT L6.out hb9) (.cells #[.int .i64 xa, .int .i64 xb] 25))
        clear hb9 G0 G1 G2 G3 L6 u0 u1 u2 u3 u4 v0 v1 v2 v3 v4 x0 x1 x2 x3 x4
        obtain ⟨u0, u1, u2, u3, u4⟩ := E0.out
        obtain ⟨x0, x1, x2, x3, x4⟩ := E2.out
        go_wp2_with fail
        generalize w9.alloc (.cells #[.int .i64 xa, .int .i64 xb] 25) = W9 at *
        generalize w9.heap.size = pa at *
        refine (SubRatioS_any _ _ _ _ _).mono ?_
        rw [v_yes YB.out K1.out]
        rintro e w10 ⟨rfl, hb10⟩
        generalize oA true (addX _ _ (-n) d) (mulX _ d) = ya at *
        generalize oB true (addX _ _ (-n) d) (mulX _ d) = yb at *
        generalize oC true (addX _ _ (-n) d) (mulX _ d) = cb at *
        have G1 := Lib.hid ((E1.out.keep hb10).alloc (.cells #[.int .i64 ya, .int .i64 yb] 25))
        have G3 := Lib.hid ((E3.out.keep hb10).alloc (.cells #[.int .i64 ya, .int .i64 yb] 25))
        have G4 := Lib.hid ((E4.out.keep hb10).alloc (.cells #[.int .i64 ya, .int .i64 yb] 25))
        have G5 := Lib.hid (Box2.new w10 ya yb 25)
        have L8 := Lib.hid (bA (bT L7.out hb10) (.cells #[.int .i64 ya, .int .i64 yb] 25))
        clear hb10 E0 E1 E2 E3 E4 L7 u0 u1 u2 u3 u4 x0 x1 x2 x3 x4
        by_cases hca : ca = 0
        · by_cases hcb : cb = 0
          · subst hca hcb
            have sg := SG.out rfl rfl
            clear SG
            generalize hcs : cmpR xa xb ya yb = cs at *
            go_wp2_with fail
            generalize w10.alloc (.cells #[.int .i64 ya, .int .i64 yb] 25) = W10 at *
            generalize w10.heap.size = pb at *
            have HQ := QH.of G4.out G5.out G3.out G1.out L8.out
            clear G1 G3 G4 G5 L8 p1 p2 hd1
            first
              | have sg2 := sg_lo sg HS.out
              | have sg2 := sg_hi sg HS.out
            clear sg
            rcases sg2 with rfl | rfl
            all_goals
              have CS := Lib.hid hcs
              clear hcs
              refine wp_region_held_drew (S := QH w pa pb bb bl xa xb ya yb _ _ _ _) (by kernel_rfl) HQ.drew (fun hHeld => ?_)
              refine wpAnyH_take (i := 0) (oi := { dst := some 142, op := Op.move (Operand.tmp 14), type := 2, pos := "laws.go:174", after := #[], guard := none }) (v := ?_) rfl (by kernel_rfl) (by kernel_rfl) (by kernel_rfl) (fun _ _ _ h => h) (Or.inl ⟨by rfl, ?_⟩) (by assumption) ?_
              rotate_left 1
              · ((intro w hSw; obtain ⟨s1, s2, s3, s4, s5, s6, s7, s8, s9, s10⟩ := hSw; go_simp; try with_reducible rfl))
              (try simp only [Act.put, List.setIfInBounds_toArray, List.set_cons_zero, List.set_cons_succ])
              refine wpAnyH_take (i := 1) (oi := { dst := some 143, op := Op.binOp BinOp.neq 2 (Operand.tmp 142) (Operand.const (Value.int IntKind.i64 0)) 2, type := 4, pos := "laws.go:174", after := #[{ on := 0, ground := Ground.data }], guard := none }) (v := ?_) rfl (by kernel_rfl) (by kernel_rfl) (by kernel_rfl) (fun _ _ _ h => h) (Or.inl ⟨by rfl, ?_⟩) (by assumption) ?_
              rotate_left 1
              · ((intro w hSw; obtain ⟨s1, s2, s3, s4, s5, s6, s7, s8, s9, s10⟩ := hSw; go_simp; try with_reducible rfl))
              (try simp only [Act.put, List.setIfInBounds_toArray, List.set_cons_zero, List.set_cons_succ])
              refine wpAnyH_take (i := 2) (oi := { dst := some 144, op := Op.move (Operand.tmp 143), type := 4, pos := "laws.go:174", after := #[{ on := 1, ground := Ground.data }], guard := none }) (v := ?_) rfl (by kernel_rfl) (by kernel_rfl) (by kernel_rfl) (fun _ _ _ h => h) (Or.inl ⟨by rfl, ?_⟩) (by assumption) ?_
              rotate_left 1
              · ((intro w hSw; obtain ⟨s1, s2, s3, s4, s5, s6, s7, s8, s9, s10⟩ := hSw; go_simp; try with_reducible rfl))
              (try simp only [Act.put, List.setIfInBounds_toArray, List.set_cons_zero, List.set_cons_succ])
              refine wpAnyH_take (i := 3) (oi := { dst := some 145, op := Op.move (Operand.tmp 16), type := 2, pos := "laws.go:174", after := #[{ on := 2, ground := Ground.guard }], guard := some (2, false) }) (v := ?_) rfl (by kernel_rfl) (by kernel_rfl) (by kernel_rfl) (fun _ _ _ h => h) (Or.inl ⟨by rfl, ?_⟩) (by assumption) ?_
              rotate_left 1
              · ((intro w hSw; obtain ⟨s1, s2, s3, s4, s5, s6, s7, s8, s9, s10⟩ := hSw; go_simp; try with_reducible rfl))
              (try simp only [Act.put, List.setIfInBounds_toArray, List.set_cons_zero, List.set_cons_succ])
              refine wpAnyH_take (i := 4) (oi := { dst := some 146, op := Op.binOp BinOp.neq 2 (Operand.tmp 145) (Operand.const (Value.int IntKind.i64 0)) 2, type := 4, pos := "laws.go:174", after := #[{ on := 3, ground := Ground.data }, { on := 2, ground := Ground.guard }], guard := some (2, false) }) (v := ?_) rfl (by kernel_rfl) (by kernel_rfl) (by kernel_rfl) (fun _ _ _ h => h) (Or.inl ⟨by rfl, ?_⟩) (by assumption) ?_
              rotate_left 1
              · ((intro w hSw; obtain ⟨s1, s2, s3, s4, s5, s6, s7, s8, s9, s10⟩ := hSw; go_simp; try with_reducible rfl))
              (try simp only [Act.put, List.setIfInBounds_toArray, List.set_cons_zero, List.set_cons_succ])
              refine wpAnyH_take (i := 5) (oi := { dst := some 147, op := Op.pick (Operand.tmp 144) (Operand.const (Value.bool true)) (Operand.tmp 146), type := 4, pos := "laws.go:174", after := #[{ on := 2, ground := Ground.data }, { on := 4, ground := Ground.data }], guard := none }) (v := ?_) rfl (by kernel_rfl) (by kernel_rfl) (by kernel_rfl) (fun _ _ _ h => h) (Or.inl ⟨by rfl, ?_⟩) (by assumption) ?_
              rotate_left 1
              · ((intro w hSw; obtain ⟨s1, s2, s3, s4, s5, s6, s7, s8, s9, s10⟩ := hSw; go_simp; try with_reducible rfl))
              (try simp only [Act.put, List.setIfInBounds_toArray, List.set_cons_zero, List.set_cons_succ])
              refine wpAnyH_take (i := 6) (oi := { dst := some 148, op := Op.move (Operand.tmp 147), type := 4, pos := "laws.go:174", after := #[{ on := 5, ground := Ground.data }, { on := 2, ground := Ground.chain }], guard := none }) (v := ?_) rfl (by kernel_rfl) (by kernel_rfl) (by kernel_rfl) (fun _ _ _ h => h) (Or.inl ⟨by rfl, ?_⟩) (by assumption) ?_
              rotate_left 1
              · ((intro w hSw; obtain ⟨s1, s2, s3, s4, s5, s6, s7, s8, s9, s10⟩ := hSw; go_simp; try with_reducible rfl))
              (try simp only [Act.put, List.setIfInBounds_toArray, List.set_cons_zero, List.set_cons_succ])
              refine wpAnyH_take (i := 7) (oi := { dst := some 149, op := Op.load 25 (Operand.tmp 13), type := 25, pos := "laws.go:174", after := #[{ on := 6, ground := Ground.guard }], guard := some (6, false) }) (v := ?_) rfl (by kernel_rfl) (by kernel_rfl) (by kernel_rfl) (fun _ _ _ h => h) (Or.inl ⟨by rfl, ?_⟩) (by assumption) ?_
              rotate_left 1
              · ((intro w hSw; obtain ⟨s1, s2, s3, s4, s5, s6, s7, s8, s9, s10⟩ := hSw; go_simp; try with_reducible rfl))
              (try simp only [Act.put, List.setIfInBounds_toArray, List.set_cons_zero, List.set_cons_succ])
              refine wpAnyH_take (i := 8) (oi := { dst := some 150, op := Op.load 25 (Operand.tmp 15), type := 25, pos := "laws.go:174", after := #[{ on := 6, ground := Ground.guard }], guard := some (6, false) }) (v := ?_) rfl (by kernel_rfl) (by kernel_rfl) (by kernel_rfl) (fun _ _ _ h => h) (Or.inl ⟨by rfl, ?_⟩) (by assumption) ?_
              rotate_left 1
              · ((intro w hSw; obtain ⟨s1, s2, s3, s4, s5, s6, s7, s8, s9, s10⟩ := hSw; go_simp; try with_reducible rfl))
              (try simp only [Act.put, List.setIfInBounds_toArray, List.set_cons_zero, List.set_cons_succ])
              refine wpAnyH_take (i := 11) (oi := { dst := some 153, op := Op.load 25 (Operand.tmp 11), type := 25, pos := "laws.go:174", after := #[{ on := 6, ground := Ground.guard }], guard := some (6, false) }) (v := ?_) rfl (by kernel_rfl) (by kernel_rfl) (by kernel_rfl) (fun _ _ _ h => h) (Or.inl ⟨by rfl, ?_⟩) (by assumption) ?_
              rotate_left 1
              · ((intro w hSw; obtain ⟨s1, s2, s3, s4, s5, s6, s7, s8, s9, s10⟩ := hSw; go_simp; try with_reducible rfl))
              (try simp only [Act.put, List.setIfInBounds_toArray, List.set_cons_zero, List.set_cons_succ])
              refine wpAnyH_take (i := 12) (oi := { dst := some 154, op := Op.load 25 (Operand.tmp 8), type := 25, pos := "laws.go:174", after := #[{ on := 6, ground := Ground.guard }], guard := some (6, false) }) (v := ?_) rfl (by kernel_rfl) (by kernel_rfl) (by kernel_rfl) (fun _ _ _ h => h) (Or.inl ⟨by rfl, ?_⟩) (by assumption) ?_
              rotate_left 1
              · ((intro w hSw; obtain ⟨s1, s2, s3, s4, s5, s6, s7, s8, s9, s10⟩ := hSw; go_simp; try with_reducible rfl))
              (try simp only [Act.put, List.setIfInBounds_toArray, List.set_cons_zero, List.set_cons_succ])
              refine wpAnyH_take (i := 13) (oi := { dst := some 155, op := Op.binOp BinOp.eql 25 (Operand.tmp 153) (Operand.tmp 154) 25, type := 4, pos := "laws.go:174", after := #[{ on := 11, ground := Ground.data }, { on := 12, ground := Ground.data }, { on := 6, ground := Ground.guard }], guard := some (6, false) }) (v := ?_) rfl (by kernel_rfl) (by kernel_rfl) (by kernel_rfl) (fun _ _ _ h => h) (Or.inl ⟨by rfl, ?_⟩) (by assumption) ?_
              rotate_left 1
              · ((intro w hSw; obtain ⟨s1, s2, s3, s4, s5, s6, s7, s8, s9, s10⟩ := hSw; go_simp; try with_reducible rfl))
              (try simp only [Act.put, List.setIfInBounds_toArray, List.set_cons_zero, List.set_cons_succ])
              refine wpAnyH_ready (rs := [9]) (by kernel_rfl) (by simp) ?_
              refine AllReadyH.cons (o := { dst := some 151, op := Op.call { callee := Callee.value (Operand.func 10), args := #[Operand.tmp 149, Operand.tmp 150], argTypes := #[25, 25] }, type := 2, pos := "laws.go:174", after := #[{ on := 7, ground := Ground.data }, { on := 8, ground := Ground.data }, { on := 6, ground := Ground.chain }, { on := 6, ground := Ground.guard }], guard := some (6, false) }) rfl (fun K hK => ?_) AllReadyH.nil
              go_simp
              go_at_call 10
              refine (CompareRatioS_any _ _ _ _ _).mono ?_
              rw [CS.out]
              rintro e w' ⟨rfl, hb⟩
              refine hK.out _ _ (QH.keep hb hHeld) (fun hHeld2 => ?_)
              clear hK K hHeld
              (try simp only [Act.put, List.setIfInBounds_toArray, List.set_cons_zero, List.set_cons_succ])
              refine wpAnyH_take (i := 10) (oi := { dst := some 152, op := Op.binOp BinOp.lss 2 (Operand.tmp 151) (Operand.const (Value.int IntKind.i64 0)) 2, type := 4, pos := "laws.go:174", after := #[{ on := 9, ground := Ground.data }, { on := 6, ground := Ground.guard }], guard := some (6, false) }) (v := ?_) rfl (by kernel_rfl) (by kernel_rfl) (by kernel_rfl) (fun _ _ _ h => h) (Or.inl ⟨by rfl, ?_⟩) (by assumption) ?_
              rotate_left 1
              · ((intro w hSw; obtain ⟨s1, s2, s3, s4, s5, s6, s7, s8, s9, s10⟩ := hSw; go_simp; try with_reducible rfl))
              (try simp only [Act.put, List.setIfInBounds_toArray, List.set_cons_zero, List.set_cons_succ])
              refine wpAnyH_take (i := 14) (oi := { dst := some 156, op := Op.binOp BinOp.eql 4 (Operand.tmp 152) (Operand.tmp 155) 4, type := 4, pos := "laws.go:174", after := #[{ on := 10, ground := Ground.data }, { on := 13, ground := Ground.data }, { on := 6, ground := Ground.guard }], guard := some (6, false) }) (v := ?_) rfl (by kernel_rfl) (by kernel_rfl) (by kernel_rfl) (fun _ _ _ h => h) (Or.inl ⟨by rfl, ?_⟩) (by assumption) ?_
              rotate_left 1
              · ((intro w hSw; obtain ⟨s1, s2, s3, s4, s5, s6, s7, s8, s9, s10⟩ := hSw; go_simp; try with_reducible rfl))
              (try simp only [Act.put, List.setIfInBounds_toArray, List.set_cons_zero, List.set_cons_succ])
              refine wpAnyH_take (i := 15) (oi := { dst := some 157, op := Op.pick (Operand.tmp 148) (Operand.const (Value.bool true)) (Operand.tmp 156), type := 4, pos := "laws.go:174", after := #[{ on := 6, ground := Ground.data }, { on := 14, ground := Ground.data }], guard := none }) (v := ?_) rfl (by kernel_rfl) (by kernel_rfl) (by kernel_rfl) (fun _ _ _ h => h) (Or.inl ⟨by rfl, ?_⟩) (by assumption) ?_
              rotate_left 1
              · ((intro w hSw; obtain ⟨s1, s2, s3, s4, s5, s6, s7, s8, s9, s10⟩ := hSw; go_simp; try with_reducible rfl))
              (try simp only [Act.put, List.setIfInBounds_toArray, List.set_cons_zero, List.set_cons_succ])
              refine wpAnyH_take (i := 16) (oi := { dst := some 158, op := Op.move (Operand.tmp 157), type := 4, pos := "laws.go:174", after := #[{ on := 15, ground := Ground.data }, { on := 9, ground := Ground.chain }], guard := none }) (v := ?_) rfl (by kernel_rfl) (by kernel_rfl) (by kernel_rfl) (fun _ _ _ h => h) (Or.inl ⟨by rfl, ?_⟩) (by assumption) ?_
              rotate_left 1
              · ((intro w hSw; obtain ⟨s1, s2, s3, s4, s5, s6, s7, s8, s9, s10⟩ := hSw; go_simp; try with_reducible rfl))
              (try simp only [Act.put, List.setIfInBounds_toArray, List.set_cons_zero, List.set_cons_succ])
              first
                | (refine wpAnyH_take (i := 17) (oi := { dst := some 159, op := Op.load 25 (Operand.tmp 13), type := 25, pos := "laws.go:174", after := #[{ on := 16, ground := Ground.guard }], guard := some (16, false) }) (v := undef) rfl (by kernel_rfl) (by kernel_rfl) (by kernel_rfl) (fun _ _ _ h => h) (Or.inr ⟨by rfl, rfl⟩) (by assumption) ?_
                   (try simp only [Act.put, List.setIfInBounds_toArray, List.set_cons_zero, List.set_cons_succ])
                   refine wpAnyH_take (i := 18) (oi := { dst := some 160, op := Op.load 25 (Operand.tmp 15), type := 25, pos := "laws.go:174", after := #[{ on := 16, ground := Ground.guard }], guard := some (16, false) }) (v := undef) rfl (by kernel_rfl) (by kernel_rfl) (by kernel_rfl) (fun _ _ _ h => h) (Or.inr ⟨by rfl, rfl⟩) (by assumption) ?_
                   (try simp only [Act.put, List.setIfInBounds_toArray, List.set_cons_zero, List.set_cons_succ])
                   refine wpAnyH_take (i := 19) (oi := { dst := some 161, op := Op.call { callee := Callee.value (Operand.func 10), args := #[Operand.tmp 159, Operand.tmp 160], argTypes := #[25, 25] }, type := 2, pos := "laws.go:174", after := #[{ on := 17, ground := Ground.data }, { on := 18, ground := Ground.data }, { on := 16, ground := Ground.chain }, { on := 16, ground := Ground.guard }], guard := some (16, false) }) (v := undef) rfl (by kernel_rfl) (by kernel_rfl) (by kernel_rfl) (fun _ _ _ h => h) (Or.inr ⟨by rfl, rfl⟩) (by assumption) ?_
                   (try simp only [Act.put, List.setIfInBounds_toArray, List.set_cons_zero, List.set_cons_succ])
                   refine wpAnyH_take (i := 20) (oi := { dst := some 162, op := Op.binOp BinOp.eql 2 (Operand.tmp 161) (Operand.const (Value.int IntKind.i64 0)) 2, type := 4, pos := "laws.go:174", after := #[{ on := 19, ground := Ground.data }, { on := 16, ground := Ground.guard }], guard := some (16, false) }) (v := undef) rfl (by kernel_rfl) (by kernel_rfl) (by kernel_rfl) (fun _ _ _ h => h) (Or.inr ⟨by rfl, rfl⟩) (by assumption) ?_
                   (try simp only [Act.put, List.setIfInBounds_toArray, List.set_cons_zero, List.set_cons_succ]))
                | (refine wpAnyH_take (i := 17) (oi := { dst := some 159, op := Op.load 25 (Operand.tmp 13), type := 25, pos := "laws.go:174", after := #[{ on := 16, ground := Ground.guard }], guard := some (16, false) }) (v := ?_) rfl (by kernel_rfl) (by kernel_rfl) (by kernel_rfl) (fun _ _ _ h => h) (Or.inl ⟨by rfl, ?_⟩) (by assumption) ?_
                   rotate_left 1
                   · ((intro w hSw; obtain ⟨s1, s2, s3, s4, s5, s6, s7, s8, s9, s10⟩ := hSw; go_simp; try with_reducible rfl))
                   (try simp only [Act.put, List.setIfInBounds_toArray, List.set_cons_zero, List.set_cons_succ])
                   refine wpAnyH_take (i := 18) (oi := { dst := some 160, op := Op.load 25 (Operand.tmp 15), type := 25, pos := "laws.go:174", after := #[{ on := 16, ground := Ground.guard }], guard := some (16, false) }) (v := ?_) rfl (by kernel_rfl) (by kernel_rfl) (by kernel_rfl) (fun _ _ _ h => h) (Or.inl ⟨by rfl, ?_⟩) (by assumption) ?_
                   rotate_left 1
                   · ((intro w hSw; obtain ⟨s1, s2, s3, s4, s5, s6, s7, s8, s9, s10⟩ := hSw; go_simp; try with_reducible rfl))
                   (try simp only [Act.put, List.setIfInBounds_toArray, List.set_cons_zero, List.set_cons_succ])
                   refine wpAnyH_ready (rs := [19]) (by kernel_rfl) (by simp) ?_
                   refine AllReadyH.cons (o := { dst := some 161, op := Op.call { callee := Callee.value (Operand.func 10), args := #[Operand.tmp 159, Operand.tmp 160], argTypes := #[25, 25] }, type := 2, pos := "laws.go:174", after := #[{ on := 17, ground := Ground.data }, { on := 18, ground := Ground.data }, { on := 16, ground := Ground.chain }, { on := 16, ground := Ground.guard }], guard := some (16, false) }) rfl (fun K hK => ?_) AllReadyH.nil
                   go_simp
                   go_at_call 10
                   refine (CompareRatioS_any _ _ _ _ _).mono ?_
                   rw [CS.out]
                   rintro e w' ⟨rfl, hb⟩
                   refine hK.out _ _ (QH.keep hb hHeld2) (fun hHeld3 => ?_)
                   clear hK K hHeld2
                   have hHeld2 := hHeld3
                   clear hHeld3
                   (try simp only [Act.put, List.setIfInBounds_toArray, List.set_cons_zero, List.set_cons_succ])
                   refine wpAnyH_take (i := 20) (oi := { dst := some 162, op := Op.binOp BinOp.eql 2 (Operand.tmp 161) (Operand.const (Value.int IntKind.i64 0)) 2, type := 4, pos := "laws.go:174", after := #[{ on := 19, ground := Ground.data }, { on := 16, ground := Ground.guard }], guard := some (16, false) }) (v := ?_) rfl (by kernel_rfl) (by kernel_rfl) (by kernel_rfl) (fun _ _ _ h => h) (Or.inl ⟨by rfl, ?_⟩) (by assumption) ?_
                   rotate_left 1
                   · ((intro w hSw; obtain ⟨s1, s2, s3, s4, s5, s6, s7, s8, s9, s10⟩ := hSw; go_simp; try with_reducible rfl))
                   (try simp only [Act.put, List.setIfInBounds_toArray, List.set_cons_zero, List.set_cons_succ]))
              refine wpAnyH_take (i := 21) (oi := { dst := some 163, op := Op.pick (Operand.tmp 158) (Operand.const (Value.bool true)) (Operand.tmp 162), type := 4, pos := "laws.go:174", after := #[{ on := 16, ground := Ground.data }, { on := 20, ground := Ground.data }], guard := none }) (v := ?_) rfl (by kernel_rfl) (by kernel_rfl) (by kernel_rfl) (fun _ _ _ h => h) (Or.inl ⟨by rfl, ?_⟩) (by assumption) ?_
              rotate_left 1
              · ((intro w hSw; obtain ⟨s1, s2, s3, s4, s5, s6, s7, s8, s9, s10⟩ := hSw; go_simp; try with_reducible rfl))
              (try simp only [Act.put, List.setIfInBounds_toArray, List.set_cons_zero, List.set_cons_succ])
              refine wpAnyH_take (i := 22) (oi := { dst := some 4, op := Op.assign (Operand.tmp 163), type := 4, pos := "laws.go:174", after := #[{ on := 21, ground := Ground.data }, { on := 19, ground := Ground.chain }, { on := 0, ground := Ground.phase }, { on := 1, ground := Ground.phase }, { on := 2, ground := Ground.phase }, { on := 3, ground := Ground.phase }, { on := 4, ground := Ground.phase }, { on := 5, ground := Ground.phase }, { on := 6, ground := Ground.phase }, { on := 7, ground := Ground.phase }, { on := 8, ground := Ground.phase }, { on := 9, ground := Ground.phase }, { on := 10, ground := Ground.phase }, { on := 11, ground := Ground.phase }, { on := 12, ground := Ground.phase }, { on := 13, ground := Ground.phase }, { on := 14, ground := Ground.phase }, { on := 15, ground := Ground.phase }, { on := 16, ground := Ground.phase }, { on := 17, ground := Ground.phase }, { on := 18, ground := Ground.phase }, { on := 19, ground := Ground.phase }, { on := 20, ground := Ground.phase }, { on := 21, ground := Ground.phase }], guard := none }) (v := ?_) rfl (by kernel_rfl) (by kernel_rfl) (by kernel_rfl) (fun _ _ _ h => h) (Or.inl ⟨by rfl, ?_⟩) (by assumption) ?_
              rotate_left 1
              · ((intro w hSw; obtain ⟨s1, s2, s3, s4, s5, s6, s7, s8, s9, s10⟩ := hSw; go_simp; try with_reducible rfl))
              (try simp only [Act.put, List.setIfInBounds_toArray, List.set_cons_zero, List.set_cons_succ])
              refine wpAnyH_done (by kernel_rfl) ?_ _
              have HB := Lib.hid hHeld2.2.2.2.2.2.2.2.2.2
              clear hHeld2
              go_wp2_with fail
              go_ret
              exact ⟨rfl, HB.out⟩
          · have hcb' : (cb != 0) = true := by simpa using hcb
            clear hcb SG
            go_wp2_with fail
            generalize w10.alloc (.cells #[.int .i64 ya, .int .i64 yb] 25) = W10 at *
            go_quiet (fail)
            go_wp2_with fail
            go_ret
            exact ⟨rfl, bel_n L8.out _⟩
        · have hca' : (ca != 0) = true := by simpa using hca
          clear hca SG
          go_wp2_with fail
          generalize w10.alloc (.cells #[.int .i64 ya, .int .i64 yb] 25) = W10 at *
          go_quiet (fail)
          go_wp2_with fail
          go_ret
          exact ⟨rfl, bel_n L8.out _⟩
end Go.Proofs.Ytldjplopglpgfaa

/-
  The drift of a train: the plain words, and the contracts of impl.DriftOf and spec.DriftOf.
-/
import Derived.Test.YtnndjbngcaafhaaDoorErr
import Derived.Test.YtnndjbngcaafhaaDoorFlt
import Derived.Test.YtnndjbngcaafhaaDoorScale
import Derived.Test.YtnndjbngcaafhaaDoorCarry
import Derived.Deep.DeepCutAuto
namespace Go.Proofs.YtnndjbngcaafhaaDoor
open Go.RowKit

theorem mk_okR {x y : Int} (_hy : y ≠ 0) (hp : 1 ≤ y) (h : lowOk x y = true) : okR (mkA x y) (mkB x y) = true := by
  obtain ⟨a, b⟩ := mk_yes h
  rw [a, b]
  exact low_fit hp h
theorem dsK_ok {ps : List (Int × Int)} {p q : Int} (h : okT ps = true) (h1 : okR p q = true) (hk : dsK ps p q = true) : okR (dsA ps p q) (dsB ps p q) = true := by
  cases h2 : trF 1 1 ps with
  | none => rw [(ds_far h2).2.2] at hk; cases hk
  | some r =>
    obtain ⟨n, d⟩ := r
    obtain ⟨a, b, c⟩ := ds_got (p := p) (q := q) h2
    rw [c] at hk
    rw [a, b]
    obtain ⟨n1, n2, _⟩ := okR_bd (trF_okay h h2)
    obtain ⟨q1, q2, _⟩ := okR_bd h1
    have := Int.mul_pos (show 0 < d by omega) (show 0 < q by omega)
    exact mk_okR (mulX_pos n1 q1) (by unfold mulX; omega) hk
theorem okR_whole {t : Int} (h1 : 0 ≤ t) (h2 : t ≤ 1000000) : okR t 1 = true := okR_true.2 ⟨by omega, by omega, by omega, by omega, by simp⟩
theorem mk_len {x y : Int} (hp : 1 ≤ y) (h : lowOk x y = true) : 1 ≤ mkB x y ∧ mkB x y ≤ 1000000000 ∧ -1000000000 ≤ mkA x y ∧ mkA x y ≤ 1000000000 := okR_bd (mk_okR (by omega) hp h)
/-- What DriftOf returns, from the difference x / y. -/
def drN (x y t : Int) : Int := near (1000000 * mkA (mulX x t) (mulX y 1)) (mkB (mulX x t) (mulX y 1))
def drV (ps : List (Int × Int)) (p q t : Int) : Int := if okT ps && okR p q then (if dsK ps p q && inB t 0 1000000 && lowOk (mulX (dsA ps p q) t) (mulX (dsB ps p q) 1) && inB (drN (dsA ps p q) (dsB ps p q) t) (-1000000000) 1000000000 then drN (dsA ps p q) (dsB ps p q) t else 0) else 0
def drC (ps : List (Int × Int)) (p q t : Int) : Int := if okT ps && okR p q then (if dsK ps p q && inB t 0 1000000 && lowOk (mulX (dsA ps p q) t) (mulX (dsB ps p q) 1) && inB (drN (dsA ps p q) (dsB ps p q) t) (-1000000000) 1000000000 then 0 else 2) else 1
theorem dr_no {ps : List (Int × Int)} {p q t : Int} (h : (okT ps && okR p q) = false) : drV ps p q t = 0 ∧ drC ps p q t = 1 := by simp [drV, drC, h]
theorem dr_no1 {ps : List (Int × Int)} {p q t : Int} (h : okT ps = false) : drV ps p q t = 0 ∧ drC ps p q t = 1 := dr_no (by simp [h])
theorem dr_no2 {ps : List (Int × Int)} {p q t : Int} (h : okR p q = false) : drV ps p q t = 0 ∧ drC ps p q t = 1 := dr_no (by simp [h])
theorem dr_k {ps : List (Int × Int)} {p q t : Int} (h : okT ps = true) (h1 : okR p q = true) (hk : dsK ps p q = false) : drV ps p q t = 0 ∧ drC ps p q t = 2 := by simp [drV, drC, h, h1, hk]
theorem dr_t {ps : List (Int × Int)} {p q t : Int} (h : okT ps = true) (h1 : okR p q = true) (hk : inB t 0 1000000 = false) : drV ps p q t = 0 ∧ drC ps p q t = 2 := by simp [drV, drC, h, h1, hk]
theorem dr_m {ps : List (Int × Int)} {p q t : Int} (h : okT ps = true) (h1 : okR p q = true) (hk : lowOk (mulX (dsA ps p q) t) (mulX (dsB ps p q) 1) = false) : drV ps p q t = 0 ∧ drC ps p q t = 2 := by simp [drV, drC, h, h1, hk]
theorem dr_far {ps : List (Int × Int)} {p q t : Int} (h : okT ps = true) (h1 : okR p q = true) (hk : inB (drN (dsA ps p q) (dsB ps p q) t) (-1000000000) 1000000000 = false) : drV ps p q t = 0 ∧ drC ps p q t = 2 := by simp [drV, drC, h, h1, hk]
theorem dr_got {ps : List (Int × Int)} {p q t : Int} (h : okT ps = true) (h1 : okR p q = true) (h2 : dsK ps p q = true) (h3 : inB t 0 1000000 = true) (h4 : lowOk (mulX (dsA ps p q) t) (mulX (dsB ps p q) 1) = true) (h5 : inB (drN (dsA ps p q) (dsB ps p q) t) (-1000000000) 1000000000 = true) :
    drV ps p q t = drN (dsA ps p q) (dsB ps p q) t ∧ drC ps p q t = 0 := by simp [drV, drC, h, h1, h2, h3, h4, h5]
set_option maxRecDepth 100000 in
set_option maxHeartbeats 4000000 in
theorem DriftOfI_any (ps : List (Int × Int)) (p q t : Int) (v : Value) (w : World) (a0 a1 : Addr) (hS : Sent w a0 a1) (ha : SlP w v ps) (hmax : ps.length ≤ 1000000000000) :
    Calls Tryd.prog 19 #[v, .agg #[.int .i64 p, .int .i64 q], .int .i64 t] w fun e w' => e = .returned (.tuple #[.int .i64 (drV ps p q t), .int .i64 (drC ps p q t)]) ∧ Below w.heap.size w w' := by
  have L0 := Lib.hid (bA (bR w) (.cells #[.int .i64 p, .int .i64 q] 32))
  have S0 := Lib.hid (hS.keepB L0.out)
  have DD := Lib.hid (differenceFrom_any ps p q v _ a0 a1 S0.out (ha.keep L0.out) hmax)
  clear hS ha
  by_cases hv : (okT ps && okR p q) = true
  · obtain ⟨h, h1⟩ : okT ps = true ∧ okR p q = true := by simpa using hv
    obtain ⟨f1, f2, f3⟩ := df_of h h1
    cases hk : dsK ps p q
    · obtain ⟨d1, d2⟩ := dr_k (t := t) h h1 hk
      rw [d1, d2]
      have HF := Lib.hid (show dfA ps p q = 0 ∧ dfB ps p q = 0 ∧ dfC ps p q = 2 by rw [f1, f2, f3, hk]; simp)
      clear f1 f2 f3 hk h h1 hv d1 d2
      go_enter Tryd.func19, Tryd.ntmps19
      go_wp2_with fail
      refine DD.out.mono ?_
      rw [HF.out.1, HF.out.2.1, HF.out.2.2]
      rintro e w1 ⟨rfl, hb⟩
      have L1 := Lib.hid (bT L0.out hb)
      clear hb
      go_wp2_with fail
      go_ret2
      exact ⟨rfl, bA L1.out _⟩
    · have HF := Lib.hid (show dfA ps p q = dsA ps p q ∧ dfB ps p q = dsB ps p q ∧ dfC ps p q = 0 by rw [f1, f2, f3, hk]; simp)
      have hR := dsK_ok h h1 hk
      have DT := Lib.hid (fun x => dr_t (ps := ps) (p := p) (q := q) (t := t) h h1 x)
      have DM := Lib.hid (fun x => dr_m (ps := ps) (p := p) (q := q) (t := t) h h1 x)
      have DX := Lib.hid (fun x => dr_far (ps := ps) (p := p) (q := q) (t := t) h h1 x)
      have DG := Lib.hid (fun x y z => dr_got (ps := ps) (p := p) (q := q) (t := t) h h1 hk x y z)
      clear f1 f2 f3 hk h h1 hv
      generalize drV ps p q t = rv at *
      generalize drC ps p q t = rc at *
      generalize dsA ps p q = x at *
      generalize dsB ps p q = y at *
      obtain ⟨y1, y2, x1, x2⟩ := okR_bd hR
      by_cases ht : 0 ≤ t
      · by_cases ht2 : t ≤ 1000000
        · have MU := Lib.hid (fun W (hs : Sent W a0 a1) => MulRatioI_any x y t 1 W a0 a1 hs)
          have HV := Lib.hid (show (okR x y && okR t 1) = true by rw [hR, okR_whole ht ht2]; rfl)
          rw [HV.out] at MU
          have HZ := Lib.hid (o_yes (mulX x t) (mulX y 1))
          rw [HZ.out.1, HZ.out.2.1, HZ.out.2.2] at MU
          have hy1 : 1 ≤ mulX y 1 := by unfold mulX; omega
          cases hl : lowOk (mulX x t) (mulX y 1)
          · obtain ⟨d1, d2⟩ := DM.out hl
            rw [d1, d2]
            obtain ⟨q1, q2, q3⟩ := r_no (show mulX y 1 ≠ 0 by omega) hl
            rw [q1, q2, q3] at MU
            clear d1 d2 q1 q2 q3 hl HV HZ hy1 hR
            go_enter Tryd.func19, Tryd.ntmps19
            go_wp2_with fail
            refine DD.out.mono ?_
            rw [HF.out.1, HF.out.2.1, HF.out.2.2]
            rintro e w1 ⟨rfl, hb⟩
            have L1 := Lib.hid (bA (bT L0.out hb) (.cells #[.int .i64 x, .int .i64 y] 32))
            have S1 := Lib.hid ((S0.out.keepB hb).keepB (bA (bR _) (.cells #[.int .i64 x, .int .i64 y] 32)))
            have N1 := Lib.hid (Box2.new w1 x y 32)
            obtain ⟨n0, n1, _, _, _⟩ := N1.out
            clear hb
            go_wp2_with fail
            refine (MU.out _ S1.out).mono ?_
            rintro e w2 ⟨rfl, hb⟩
            have L2 := Lib.hid (bT L1.out hb)
            clear hb
            go_wp2_with fail
            go_ret2
            exact ⟨rfl, bA L2.out _⟩
          · obtain ⟨q1, q2, q3⟩ := r_make (show mulX y 1 ≠ 0 by omega) (n := mulX x t)
            rw [hl] at q1 q2 q3
            simp only [if_true] at q1 q2 q3
            rw [q1, q2, q3] at MU
            obtain ⟨b1, b2, a1', a2'⟩ := mk_len hy1 hl
            have DG2 := Lib.hid (fun z => DG.out (inB_true.2 ⟨ht, ht2⟩) hl z)
            clear q1 q2 q3 hl HV HZ hy1 hR DM DT DG
            have SC := Lib.hid (fun W => scaled_any (mkA (mulX x t) (mulX y 1)) (mkB (mulX x t) (mulX y 1)) 1000000 W b1 b2 a1' a2' (by omega) (by omega))
            have hz : ∀ u, u = near (1000000 * mkA (mulX x t) (mulX y 1)) (mkB (mulX x t) (mulX y 1)) → drN x y t = u := fun u e => e.symm
            have HN := Lib.hid (hz _ rfl)
            rw [HN.out] at DX DG2
            clear hz HN
            generalize near (1000000 * mkA (mulX x t) (mulX y 1)) (mkB (mulX x t) (mulX y 1)) = z at *
            generalize mkA (mulX x t) (mulX y 1) = a at *
            generalize mkB (mulX x t) (mulX y 1) = b at *
            by_cases hz1 : -1000000000 ≤ z
            · by_cases hz2 : z ≤ 1000000000
              · obtain ⟨d1, d2⟩ := DG2.out (inB_true.2 ⟨hz1, hz2⟩)
                rw [d1, d2]
                clear d1 d2 DG2 DX
                go_enter Tryd.func19, Tryd.ntmps19
                go_wp2_with fail
                refine DD.out.mono ?_
                rw [HF.out.1, HF.out.2.1, HF.out.2.2]
                rintro e w1 ⟨rfl, hb⟩
                have L1 := Lib.hid (bA (bT L0.out hb) (.cells #[.int .i64 x, .int .i64 y] 32))
                have S1 := Lib.hid ((S0.out.keepB hb).keepB (bA (bR _) (.cells #[.int .i64 x, .int .i64 y] 32)))
                have N1 := Lib.hid (Box2.new w1 x y 32)
                obtain ⟨n0, n1, _, _, _⟩ := N1.out
                clear hb
                go_wp2_with fail
                refine (MU.out _ S1.out).mono ?_
                rintro e w2 ⟨rfl, hb⟩
                have L2 := Lib.hid (bA (bT L1.out hb) (.cells #[.int .i64 a, .int .i64 b] 32))
                have N2 := Lib.hid (Box2.new w2 a b 32)
                clear hb n0 n1
                obtain ⟨n0, n1, _, _, _⟩ := N2.out
                go_wp2_with fail
                refine (SC.out _).mono ?_
                rintro e w3 ⟨rfl, hb⟩
                have L3 := Lib.hid (bT L2.out hb)
                clear hb
                go_wp2_with fail
                go_ret2
                exact ⟨rfl, L3.out⟩
              · obtain ⟨d1, d2⟩ := DX.out (inB_false.2 (by omega))
                rw [d1, d2]
                clear d1 d2 DG2 DX
                go_enter Tryd.func19, Tryd.ntmps19
                go_wp2_with fail
                refine DD.out.mono ?_
                rw [HF.out.1, HF.out.2.1, HF.out.2.2]
                rintro e w1 ⟨rfl, hb⟩
                have L1 := Lib.hid (bA (bT L0.out hb) (.cells #[.int .i64 x, .int .i64 y] 32))
                have S1 := Lib.hid ((S0.out.keepB hb).keepB (bA (bR _) (.cells #[.int .i64 x, .int .i64 y] 32)))
                have N1 := Lib.hid (Box2.new w1 x y 32)
                obtain ⟨n0, n1, _, _, _⟩ := N1.out
                clear hb
                go_wp2_with fail
                refine (MU.out _ S1.out).mono ?_
                rintro e w2 ⟨rfl, hb⟩
                have L2 := Lib.hid (bA (bT L1.out hb) (.cells #[.int .i64 a, .int .i64 b] 32))
                have N2 := Lib.hid (Box2.new w2 a b 32)
                clear hb n0 n1
                obtain ⟨n0, n1, _, _, _⟩ := N2.out
                go_wp2_with fail
                refine (SC.out _).mono ?_
                rintro e w3 ⟨rfl, hb⟩
                have L3 := Lib.hid (bT L2.out hb)
                clear hb
                go_wp2_with fail
                go_ret2
                exact ⟨rfl, L3.out⟩
            · obtain ⟨d1, d2⟩ := DX.out (inB_false.2 (by omega))
              rw [d1, d2]
              clear d1 d2 DG2 DX
              go_enter Tryd.func19, Tryd.ntmps19
              go_wp2_with fail
              refine DD.out.mono ?_
              rw [HF.out.1, HF.out.2.1, HF.out.2.2]
              rintro e w1 ⟨rfl, hb⟩
              have L1 := Lib.hid (bA (bT L0.out hb) (.cells #[.int .i64 x, .int .i64 y] 32))
              have S1 := Lib.hid ((S0.out.keepB hb).keepB (bA (bR _) (.cells #[.int .i64 x, .int .i64 y] 32)))
              have N1 := Lib.hid (Box2.new w1 x y 32)
              obtain ⟨n0, n1, _, _, _⟩ := N1.out
              clear hb
              go_wp2_with fail
              refine (MU.out _ S1.out).mono ?_
              rintro e w2 ⟨rfl, hb⟩
              have L2 := Lib.hid (bA (bT L1.out hb) (.cells #[.int .i64 a, .int .i64 b] 32))
              have N2 := Lib.hid (Box2.new w2 a b 32)
              clear hb n0 n1
              obtain ⟨n0, n1, _, _, _⟩ := N2.out
              go_wp2_with fail
              refine (SC.out _).mono ?_
              rintro e w3 ⟨rfl, hb⟩
              have L3 := Lib.hid (bT L2.out hb)
              clear hb
              go_wp2_with fail
              go_ret2
              exact ⟨rfl, L3.out⟩
        · obtain ⟨d1, d2⟩ := DT.out (inB_false.2 (by omega))
          rw [d1, d2]
          clear d1 d2 DM DT DG DX hR
          go_enter Tryd.func19, Tryd.ntmps19
          go_wp2_with fail
          refine DD.out.mono ?_
          rw [HF.out.1, HF.out.2.1, HF.out.2.2]
          rintro e w1 ⟨rfl, hb⟩
          have L1 := Lib.hid (bT L0.out hb)
          clear hb
          go_wp2_with fail
          go_ret2
          exact ⟨rfl, bA L1.out _⟩
      · obtain ⟨d1, d2⟩ := DT.out (inB_false.2 (by omega))
        rw [d1, d2]
        clear d1 d2 DM DT DG DX hR
        go_enter Tryd.func19, Tryd.ntmps19
        go_wp2_with fail
        refine DD.out.mono ?_
        rw [HF.out.1, HF.out.2.1, HF.out.2.2]
        rintro e w1 ⟨rfl, hb⟩
        have L1 := Lib.hid (bT L0.out hb)
        clear hb
        go_wp2_with fail
        go_ret2
        exact ⟨rfl, bA L1.out _⟩
  · have hv' : (okT ps && okR p q) = false := by simpa using hv
    obtain ⟨d1, d2⟩ := dr_no (t := t) hv'
    rw [d1, d2]
    have HF := Lib.hid (df_no hv')
    clear hv hv' d1 d2
    go_enter Tryd.func19, Tryd.ntmps19
    go_wp2_with fail
    refine DD.out.mono ?_
    rw [HF.out.1, HF.out.2.1, HF.out.2.2]
    rintro e w1 ⟨rfl, hb⟩
    have L1 := Lib.hid (bT L0.out hb)
    clear hb
    go_wp2_with fail
    go_ret2
    exact ⟨rfl, bA L1.out _⟩
set_option maxRecDepth 100000 in
set_option maxHeartbeats 8000000 in
theorem DriftOfS_any (ps : List (Int × Int)) (p q t : Int) (v : Value) (w : World) (ha : SlP w v ps) (hmax : ps.length ≤ 1000000000000) :
    Calls Tryd.prog 18 #[v, .agg #[.int .i64 p, .int .i64 q], .int .i64 t] w fun e w' => e = .returned (.tuple #[.int .i64 (drV ps p q t), .int .i64 (drC ps p q t)]) ∧ Below w.heap.size w w' := by
  have R0 := Lib.hid (Box2.new w p q 32)
  have L0 := Lib.hid (bA (bR w) (.cells #[.int .i64 p, .int .i64 q] 32))
  have V0 := Lib.hid (ha.keep L0.out)
  have OK := Lib.hid (l05Ok_any ps v _ V0.out hmax)
  clear ha
  cases h : okT ps
  · obtain ⟨d1, d2⟩ := dr_no1 (p := p) (q := q) (t := t) h
    rw [d1, d2]
    rw [h] at OK
    clear d1 d2 h
    go_enter Tryd.func18, Tryd.ntmps18
    go_wp2_with fail
    refine OK.out.mono ?_
    rintro e w1 ⟨rfl, hb⟩
    have V1 := Lib.hid (V0.out.keep hb)
    have R1 := Lib.hid (R0.out.keep hb)
    have L1 := Lib.hid (bT L0.out hb)
    obtain ⟨r0, r1, _, _, r4⟩ := R1.out
    clear hb
    go_wp2_with fail
    go_ret2
    exact ⟨rfl, L1.out⟩
  · cases h1 : okR p q
    · obtain ⟨d1, d2⟩ := dr_no2 (ps := ps) (t := t) h1
      rw [d1, d2]
      rw [h] at OK
      have OR := Lib.hid (fun W => l02Ok_any p q W)
      rw [h1] at OR
      clear d1 d2 h h1
      go_enter Tryd.func18, Tryd.ntmps18
      go_wp2_with fail
      refine OK.out.mono ?_
      rintro e w1 ⟨rfl, hb⟩
      have V1 := Lib.hid (V0.out.keep hb)
      have R1 := Lib.hid (R0.out.keep hb)
      have L1 := Lib.hid (bT L0.out hb)
      obtain ⟨r0, r1, _, _, r4⟩ := R1.out
      clear hb
      go_wp2_with fail
      refine (OR.out _).mono ?_
      rintro e w2 ⟨rfl, hb⟩
      have V2 := Lib.hid (V1.out.keep hb)
      have L2 := Lib.hid (bT L1.out hb)
      have R2 := Lib.hid (R1.out.keep hb)
      clear hb r0 r1 r4
      obtain ⟨r0, r1, _, _, r4⟩ := R2.out
      go_wp2_with fail
      go_ret2
      exact ⟨rfl, L2.out⟩
    · rw [h] at OK
      have OR := Lib.hid (fun W => l02Ok_any p q W)
      rw [h1] at OR
      have DF := Lib.hid (fun W (hv : SlP W v ps) => l06Diff_any ps p q v W hv h h1)
      have IT := Lib.hid (fun W => l00In_any t 0 1000000 W)
      have DK := Lib.hid (fun x => dr_k (ps := ps) (p := p) (q := q) (t := t) h h1 x)
      have DT := Lib.hid (fun x => dr_t (ps := ps) (p := p) (q := q) (t := t) h h1 x)
      have DM := Lib.hid (fun x => dr_m (ps := ps) (p := p) (q := q) (t := t) h h1 x)
      have DX := Lib.hid (fun x => dr_far (ps := ps) (p := p) (q := q) (t := t) h h1 x)
      have DG := Lib.hid (fun hk x y z => dr_got (ps := ps) (p := p) (q := q) (t := t) h h1 hk x y z)
      have HR := Lib.hid (fun hk => dsK_ok (ps := ps) (p := p) (q := q) h h1 hk)
      clear h h1
      generalize drV ps p q t = rv at *
      generalize drC ps p q t = rc at *
      generalize dsA ps p q = x at *
      generalize dsB ps p q = y at *
      generalize dsK ps p q = k0 at *
      cases ht : inB t 0 1000000
      · obtain ⟨d1, d2⟩ := DT.out ht
        rw [d1, d2]
        rw [ht] at IT
        clear d1 d2 ht DK DT DM DX DG HR
        go_enter Tryd.func18, Tryd.ntmps18
        go_wp2_with fail
        refine OK.out.mono ?_
        rintro e w1 ⟨rfl, hb⟩
        have V1 := Lib.hid (V0.out.keep hb)
        have R1 := Lib.hid (R0.out.keep hb)
        have L1 := Lib.hid (bT L0.out hb)
        obtain ⟨r0, r1, _, _, r4⟩ := R1.out
        clear hb
        go_wp2_with fail
        refine (OR.out _).mono ?_
        rintro e w2 ⟨rfl, hb⟩
        have V2 := Lib.hid (V1.out.keep hb)
        have L2 := Lib.hid (bT L1.out hb)
        have R2 := Lib.hid (R1.out.keep hb)
        clear hb r0 r1 r4
        obtain ⟨r0, r1, _, _, r4⟩ := R2.out
        go_wp2_with fail
        refine (DF.out _ V2.out).mono ?_
        rintro e w3 ⟨rfl, hb⟩
        have L3 := Lib.hid (bA (bT L2.out hb) (.cells #[.int .i64 x, .int .i64 y] 32))
        have N3 := Lib.hid (Box2.new w3 x y 32)
        have hb3 := (bT L2.out hb).size
        clear hb r0 r1 r4
        go_wp2_with fail
        generalize w3.alloc (.cells #[.int .i64 x, .int .i64 y] 32) = W3 at *
        generalize w3.heap.size = bt at *
        refine (IT.out _).mono ?_
        rintro e w4 ⟨rfl, rfl⟩
        go_wp2_with fail
        go_ret2
        exact ⟨rfl, L3.out⟩
      · rw [ht] at IT
        cases k0
        · obtain ⟨d1, d2⟩ := DK.out rfl
          rw [d1, d2]
          clear d1 d2 ht DK DT DM DX DG HR
          go_enter Tryd.func18, Tryd.ntmps18
          go_wp2_with fail
          refine OK.out.mono ?_
          rintro e w1 ⟨rfl, hb⟩
          have V1 := Lib.hid (V0.out.keep hb)
          have R1 := Lib.hid (R0.out.keep hb)
          have L1 := Lib.hid (bT L0.out hb)
          obtain ⟨r0, r1, _, _, r4⟩ := R1.out
          clear hb
          go_wp2_with fail
          refine (OR.out _).mono ?_
          rintro e w2 ⟨rfl, hb⟩
          have V2 := Lib.hid (V1.out.keep hb)
          have L2 := Lib.hid (bT L1.out hb)
          have R2 := Lib.hid (R1.out.keep hb)
          clear hb r0 r1 r4
          obtain ⟨r0, r1, _, _, r4⟩ := R2.out
          go_wp2_with fail
          refine (DF.out _ V2.out).mono ?_
          rintro e w3 ⟨rfl, hb⟩
          have L3 := Lib.hid (bA (bT L2.out hb) (.cells #[.int .i64 x, .int .i64 y] 32))
          have N3 := Lib.hid (Box2.new w3 x y 32)
          have hb3 := (bT L2.out hb).size
          clear hb r0 r1 r4
          go_wp2_with fail
          generalize w3.alloc (.cells #[.int .i64 x, .int .i64 y] 32) = W3 at *
          generalize w3.heap.size = bt at *
          refine (IT.out _).mono ?_
          rintro e w4 ⟨rfl, rfl⟩
          go_wp2_with fail
          go_ret2
          exact ⟨rfl, L3.out⟩
        · have hR := HR.out rfl
          obtain ⟨t1, t2⟩ := inB_true.1 ht
          obtain ⟨y1, y2, x1, x2⟩ := okR_bd hR
          have hy1 : 1 ≤ mulX y 1 := by unfold mulX; omega
          have RT := Lib.hid (fun W (_ : Below w.heap.size w W) => l02Whole_any t W)
          have MU := Lib.hid (fun W (_ : Below w.heap.size w W) => l02Mul_any x y t 1 W x1 x2 y1 y2 (by omega) (by omega) (by omega) (by omega))
          cases hl : lowOk (mulX x t) (mulX y 1)
          · obtain ⟨d1, d2⟩ := DM.out hl
            rw [d1, d2]
            rw [hl] at MU
            clear d1 d2 ht hl DK DT DM DX DG HR hR hy1
            generalize mkA (mulX x t) (mulX y 1) = a at *
            generalize mkB (mulX x t) (mulX y 1) = b at *
            go_enter Tryd.func18, Tryd.ntmps18
            go_wp2_with fail
            refine OK.out.mono ?_
            rintro e w1 ⟨rfl, hb⟩
            have V1 := Lib.hid (V0.out.keep hb)
            have R1 := Lib.hid (R0.out.keep hb)
            have L1 := Lib.hid (bT L0.out hb)
            obtain ⟨r0, r1, _, _, r4⟩ := R1.out
            clear hb
            go_wp2_with fail
            refine (OR.out _).mono ?_
            rintro e w2 ⟨rfl, hb⟩
            have V2 := Lib.hid (V1.out.keep hb)
            have L2 := Lib.hid (bT L1.out hb)
            have R2 := Lib.hid (R1.out.keep hb)
            clear hb r0 r1 r4
            obtain ⟨r0, r1, _, _, r4⟩ := R2.out
            go_wp2_with fail
            refine (DF.out _ V2.out).mono ?_
            rintro e w3 ⟨rfl, hb⟩
            have L3 := Lib.hid (bA (bT L2.out hb) (.cells #[.int .i64 x, .int .i64 y] 32))
            have N3 := Lib.hid (Box2.new w3 x y 32)
            have hb3 := (bT L2.out hb).size
            clear hb r0 r1 r4
            go_wp2_with fail
            generalize w3.alloc (.cells #[.int .i64 x, .int .i64 y] 32) = W3 at *
            generalize w3.heap.size = bt at *
            refine (IT.out _).mono ?_
            rintro e w4 ⟨rfl, rfl⟩
            obtain ⟨n0, n1, _, _, n4⟩ := N3.out
            go_upto_region 6 with fail
            have ST0 := Lib.hid (show StR w bt x y W3 from ⟨L3.out, N3.out⟩)
            have ST := Lib.hid ST0.out.drew
            go_cut [10, 11] (fun s6 s7 wx => CutEr w bt x y a b (.bool false) s6 s7 wx)
            case first =>
              go_region_with (first
                | (go_at_call 38;
                   (refine (RT.out _ (by first | with_reducible exact StR.bel ST.out | with_reducible exact StR.bel (StR.alloc ST.out _) | with_reducible exact StR.bel (StR.drew (StR.alloc ST0.out _)))).mono ?_);
                   rintro e w' ⟨rfl, hb⟩;
                   (first
                    | (have ST := Lib.hid (StR.keep hb ST.out))
                    | (have BX := Lib.hid (BxR.keep hb (BxR.mk ST.out)); have ST := Lib.hid (StR.keep hb (StR.alloc ST.out _)))
                    | (have BX := Lib.hid (BxR.keep hb (BxR.mk ST0.out).drew); have ST := Lib.hid (StR.keep hb (StR.alloc ST0.out _).drew)));
                   obtain ⟨t0, t1, _, _, t4⟩ := ST.out.2)
                | (go_at_call 37;
                   (refine (MU.out _ (by first | with_reducible exact StR.bel ST.out | with_reducible exact StR.bel (StR.alloc ST.out _))).mono ?_);
                   rintro e w' ⟨rfl, hbe⟩;
                   (first
                    | (have Q := BX.out.2.2.keep hbe; obtain ⟨v0, v1, v2, v3, v4⟩ := Q; (try simp only [drew_size] at v0 v1 v2 v3))
                    | (have Q := (StR.box ST.out).keep hbe; clear Q)
                    | (have BX := Lib.hid (BxR.mk ST.out); have ST := Lib.hid (StR.alloc ST.out (.cells #[.int .i64 0, .int .i64 0] 32)); have Q := BX.out.2.2.keep hbe; obtain ⟨v0, v1, v2, v3, v4⟩ := Q; (try simp only [drew_size] at v0 v1 v2 v3)))))
              all_goals go_wp2_with fail
              all_goals go_meet
              all_goals first
                | exact cutEr1 BX.out ST.out hbe
                | exact cutEr2 ST.out hbe
                | exact cutEr3 ST.out hbe
            case rest =>
              obtain ⟨g, rfl, rfl, hbg, hst⟩ := hcut
              have G := Lib.hid hbg
              have L6 := Lib.hid hst.1
              clear hbg hst ST ST0 n0 n1 n4
              obtain ⟨g0, g1, _, _, g4⟩ := G.out
              go_wp2_with fail
              go_ret2
              exact ⟨rfl, L6.out⟩
          · obtain ⟨b1, b2, a1', a2'⟩ := mk_len hy1 hl
            have DG2 := Lib.hid (fun z => DG.out rfl ht hl z)
            rw [hl] at MU
            have HN := Lib.hid (show drN x y t = near (mkA (mulX x t) (mulX y 1) * 1000000) (mkB (mulX x t) (mulX y 1)) by unfold drN; rw [Int.mul_comm])
            rw [HN.out] at DX DG2
            clear ht hl DK DT DM DG HR hR hy1 HN
            generalize mkA (mulX x t) (mulX y 1) = a at *
            generalize mkB (mulX x t) (mulX y 1) = b at *
            have NE := Lib.hid (fun W => l02Near_any (a * 1000000) b W (by omega) (by omega) b1 b2)
            generalize hz : near (a * 1000000) b = z at *
            have IZ := Lib.hid (fun W => l00In_any z (-1000000000) 1000000000 W)
            clear hz
            cases hi : inB z (-1000000000) 1000000000
            all_goals
              obtain ⟨d1, d2⟩ := (by first | exact DX.out hi | exact DG2.out hi : rv = _ ∧ rc = _)
              rw [d1, d2]
              rw [hi] at IZ
              clear d1 d2 DX DG2 hi
              go_enter Tryd.func18, Tryd.ntmps18
              go_wp2_with fail
              refine OK.out.mono ?_
              rintro e w1 ⟨rfl, hb⟩
              have V1 := Lib.hid (V0.out.keep hb)
              have R1 := Lib.hid (R0.out.keep hb)
              have L1 := Lib.hid (bT L0.out hb)
              obtain ⟨r0, r1, _, _, r4⟩ := R1.out
              clear hb
              go_wp2_with fail
              refine (OR.out _).mono ?_
              rintro e w2 ⟨rfl, hb⟩
              have V2 := Lib.hid (V1.out.keep hb)
              have L2 := Lib.hid (bT L1.out hb)
              have R2 := Lib.hid (R1.out.keep hb)
              clear hb r0 r1 r4
              obtain ⟨r0, r1, _, _, r4⟩ := R2.out
              go_wp2_with fail
              refine (DF.out _ V2.out).mono ?_
              rintro e w3 ⟨rfl, hb⟩
              have L3 := Lib.hid (bA (bT L2.out hb) (.cells #[.int .i64 x, .int .i64 y] 32))
              have N3 := Lib.hid (Box2.new w3 x y 32)
              have hb3 := (bT L2.out hb).size
              clear hb r0 r1 r4
              go_wp2_with fail
              generalize w3.alloc (.cells #[.int .i64 x, .int .i64 y] 32) = W3 at *
              generalize w3.heap.size = bt at *
              refine (IT.out _).mono ?_
              rintro e w4 ⟨rfl, rfl⟩
              obtain ⟨n0, n1, _, _, n4⟩ := N3.out
              go_upto_region 6 with fail
              have ST0 := Lib.hid (show StR w bt x y W3 from ⟨L3.out, N3.out⟩)
              have ST := Lib.hid ST0.out.drew
              go_cut [10, 11] (fun s6 s7 wx => CutEr w bt x y a b (.bool true) s6 s7 wx)
              case first =>
                go_region_with (first
                  | (go_at_call 38;
                     (refine (RT.out _ (by first | with_reducible exact StR.bel ST.out | with_reducible exact StR.bel (StR.alloc ST.out _) | with_reducible exact StR.bel (StR.drew (StR.alloc ST0.out _)))).mono ?_);
                     rintro e w' ⟨rfl, hb⟩;
                     (first
                      | (have ST := Lib.hid (StR.keep hb ST.out))
                      | (have BX := Lib.hid (BxR.keep hb (BxR.mk ST.out)); have ST := Lib.hid (StR.keep hb (StR.alloc ST.out _)))
                      | (have BX := Lib.hid (BxR.keep hb (BxR.mk ST0.out).drew); have ST := Lib.hid (StR.keep hb (StR.alloc ST0.out _).drew)));
                     obtain ⟨t0, t1, _, _, t4⟩ := ST.out.2)
                  | (go_at_call 37;
                     (refine (MU.out _ (by first | with_reducible exact StR.bel ST.out | with_reducible exact StR.bel (StR.alloc ST.out _))).mono ?_);
                     rintro e w' ⟨rfl, hbe⟩;
                     (first
                      | (have Q := BX.out.2.2.keep hbe; obtain ⟨v0, v1, v2, v3, v4⟩ := Q; (try simp only [drew_size] at v0 v1 v2 v3))
                      | (have Q := (StR.box ST.out).keep hbe; clear Q)
                      | (have BX := Lib.hid (BxR.mk ST.out); have ST := Lib.hid (StR.alloc ST.out (.cells #[.int .i64 0, .int .i64 0] 32)); have Q := BX.out.2.2.keep hbe; obtain ⟨v0, v1, v2, v3, v4⟩ := Q; (try simp only [drew_size] at v0 v1 v2 v3)))))
                all_goals go_wp2_with fail
                all_goals go_meet
                all_goals first
                  | exact cutEr1 BX.out ST.out hbe
                  | exact cutEr2 ST.out hbe
                  | exact cutEr3 ST.out hbe
              case rest =>
                obtain ⟨g, rfl, rfl, hbg, hst⟩ := hcut
                have G := Lib.hid hbg
                have L6 := Lib.hid hst.1
                clear hbg hst ST ST0 n0 n1 n4
                obtain ⟨g0, g1, _, _, g4⟩ := G.out
                go_wp2_with fail
                refine (NE.out _).mono ?_
                rintro e w7 ⟨rfl, rfl⟩
                go_wp2_with fail
                refine (IZ.out _).mono ?_
                rintro e w8 ⟨rfl, rfl⟩
                go_wp2_with fail
                go_ret2
                exact ⟨rfl, L6.out⟩
end Go.Proofs.YtnndjbngcaafhaaDoor

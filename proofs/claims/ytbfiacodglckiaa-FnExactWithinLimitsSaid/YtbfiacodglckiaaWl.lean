/-
  Trains within limits: the plain words; the contracts of impl.Limits.exclude, slices.IndexFunc and slices.ContainsFunc at pairs with it, impl.WithinLimits, spec.WithinLimits; the walk of laws.FnExactWithinLimits.
-/
import Derived.Test.YtbfiacodglckiaaLim
import Derived.Test.YtbfiacodglckiaaTrS
namespace Go.Proofs.Ytbfiacodglckiaa
open Go.RowKit

/-- A pair within limits, and a train. -/
def inW (a b c d : Int) (p : Int × Int) : Bool := inB p.1 a b && inB p.2 c d
def wlV (ps : List (Int × Int)) (a b c d s : Int) : Bool := okL a b c d s && decide ((ps.length : Int) = s) && ps.all (inW a b c d)
theorem inW_true {a b c d x y : Int} : inW a b c d (x, y) = true ↔ (a ≤ x ∧ x ≤ b) ∧ c ≤ y ∧ y ≤ d := by simp [inW, inB]
theorem inW_false {a b c d x y : Int} (h : ¬ ((a ≤ x ∧ x ≤ b) ∧ c ≤ y ∧ y ≤ d)) : inW a b c d (x, y) = false := by
  cases hc : inW a b c d (x, y)
  · rfl
  · exact absurd (inW_true.1 hc) h
theorem wl_no1 {ps : List (Int × Int)} {a b c d s : Int} (h : okL a b c d s = false) : wlV ps a b c d s = false := by simp [wlV, h]
theorem wl_no2 {ps : List (Int × Int)} {a b c d s : Int} (h : ¬ (ps.length : Int) = s) : wlV ps a b c d s = false := by simp [wlV, h]
theorem wl_go {ps : List (Int × Int)} {a b c d s : Int} (h : okL a b c d s = true) (h2 : (ps.length : Int) = s) : wlV ps a b c d s = ps.all (inW a b c d) := by simp [wlV, h, h2]
/-- A train within limits is a train. -/
theorem wl_ok {ps : List (Int × Int)} {a b c d s : Int} (h : okL a b c d s = true) (h2 : (ps.length : Int) = s) (h3 : ps.all (inW a b c d) = true) : okT ps = true := by
  obtain ⟨g1, g2, s1, s2⟩ := okL_true.1 h
  obtain ⟨a1, a2, a3, a4⟩ := okG_true.1 g1
  obtain ⟨b1, b2, b3, b4⟩ := okG_true.1 g2
  refine okT_iff.2 ⟨by omega, fun p hp => ?_⟩
  have := List.all_eq_true.1 h3 p hp
  obtain ⟨x, y⟩ := p
  have := inW_true.1 this
  exact okP_yes (inB_true.2 (by omega)) (inB_true.2 (by omega))
theorem wl_no3 {ps : List (Int × Int)} {a b c d s : Int} (h : okT ps = false) : wlV ps a b c d s = false := by
  cases hc : wlV ps a b c d s
  · rfl
  · have h1 : okL a b c d s = true ∧ (ps.length : Int) = s ∧ ps.all (inW a b c d) = true := by
      unfold wlV at hc
      simp only [Bool.and_eq_true, decide_eq_true_eq] at hc
      exact ⟨hc.1.1, hc.1.2, hc.2⟩
    rw [wl_ok h1.1 h1.2.1 h1.2.2] at h
    cases h
def inK (a b c d : Int) (ps : List (Int × Int)) (k : Nat) : Prop := ∀ i, i < k → inW a b c d (pat ps i) = true
theorem inK_zero (a b c d : Int) (ps : List (Int × Int)) : inK a b c d ps 0 := fun _ h => absurd h (Nat.not_lt_zero _)
theorem inK_succ {a b c d : Int} {ps : List (Int × Int)} {k : Nat} (h : inK a b c d ps k) (h2 : inW a b c d (pat ps k) = true) : inK a b c d ps (k + 1) := by
  intro i hi
  by_cases e : i = k
  · rw [e]; exact h2
  · exact h i (by omega)
theorem inK_all {a b c d : Int} {ps : List (Int × Int)} (h : inK a b c d ps ps.length) : ps.all (inW a b c d) = true := by
  rw [List.all_eq_true]
  intro p hp
  obtain ⟨i, hi, e⟩ := List.getElem_of_mem hp
  have := h i hi
  rw [← pat_get hi, e] at this
  exact this
theorem inW_no {a b c d : Int} {ps : List (Int × Int)} {k : Nat} (hk : k < ps.length) (h : inW a b c d (pat ps k) = false) : ps.all (inW a b c d) = false := by
  cases hc : ps.all (inW a b c d)
  · rfl
  · rw [List.all_eq_true.1 hc _ (pat_mem hk)] at h; cases h

set_option maxHeartbeats 2000000 in
theorem exclude_any (a b c d s x y : Int) (w : World) :
    Calls Try.prog 92 #[.agg #[.int .i64 a, .int .i64 b, .int .i64 c, .int .i64 d, .int .i64 s], .agg #[.int .i64 x, .int .i64 y]] w fun e w' => e = .returned (.bool (!inW a b c d (x, y))) ∧ Below w.heap.size w w' := by
  by_cases h1 : a ≤ x
  · by_cases h2 : x ≤ b
    · by_cases h3 : c ≤ y
      · have HE := Lib.hid (show decide (d < y) = !inW a b c d (x, y) by
          rw [Bool.eq_iff_iff]
          simp [inW, inB, h1, h2, h3])
        go_enter Try.func92, Try.ntmps92
        go_wp2
        go_ret
        exact ⟨ret_bool (by rw [← HE.out, Bool.eq_iff_iff]; simp; omega), bA (bA (bR _) _) _⟩
      · rw [inW_false (by omega)]
        go_enter Try.func92, Try.ntmps92
        go_wp2
        go_ret
        exact ⟨rfl, bA (bA (bR _) _) _⟩
    · rw [inW_false (by omega)]
      go_enter Try.func92, Try.ntmps92
      go_wp2
      go_ret
      exact ⟨rfl, bA (bA (bR _) _) _⟩
  · rw [inW_false (by omega)]
    go_enter Try.func92, Try.ntmps92
    go_wp2
    go_ret
    exact ⟨rfl, bA (bA (bR _) _) _⟩
/-- What IndexFunc returns: the place of the first pair that is out of the limits. -/
def IdxRetL (a b c d : Int) (ps : List (Int × Int)) (w : World) (e : Ending) (w' : World) : Prop := ∃ r : Int, e = .returned (.int .i64 r) ∧ decide (0 ≤ r) = !ps.all (inW a b c d) ∧ r ≤ ps.length ∧ -1 ≤ r ∧ Below w.heap.size w w'
set_option maxHeartbeats 2000000 in
theorem idxL_any (a b c d s : Int) (ps : List (Int × Int)) (v : Value) (w : World) (ha : SlP w v ps) (hmax : ps.length ≤ 1000000000000) :
    Calls Try.prog 136 #[v, .func (.func 92) #[.agg #[.int .i64 a, .int .i64 b, .int .i64 c, .int .i64 d, .int .i64 s]] #[]] w (IdxRetL a b c d ps w) := by
  obtain ⟨ao, cap, rfl, ha⟩ := ha
  have HA := Lib.hid ha
  clear ha
  go_enter Try.func136, Try.ntmps136
  go_wp2_with fail
  go_loopw [8] (fun i wr => ∃ (k : Nat), k ≤ ps.length ∧ i = .int .i64 k ∧ inK a b c d ps k ∧ Below w.heap.size w wr) (fun i _ => ps.length - (intOf i).toNat)
  case atStart => exact ⟨0, by omega, rfl, inK_zero _ _ _ _ _, bR _⟩
  case round =>
    obtain ⟨k, hk, rfl, hok, hbw⟩ := hrel
    have HK := Lib.hid hok
    clear hok
    by_cases hlt : k < ps.length
    · obtain ⟨g, rfl, hg, hc⟩ := HA.out (by omega)
      obtain ⟨c1, c2⟩ := (hc.keep hg hbw) k hlt
      have HBW := Lib.hid hbw
      have HE := Lib.hid (show inW a b c d (pat ps k) = inW a b c d ((pat ps k).1, (pat ps k).2) from rfl)
      clear hc HA hbw hg
      generalize (pat ps k).1 = x at *
      generalize (pat ps k).2 = y at *
      cases hp : inW a b c d (x, y)
      · rw [hp] at HE
        have HN := Lib.hid (inW_no hlt HE.out)
        go_wp2_with fail
        refine (exclude_any _ _ _ _ _ _ _ _).mono ?_
        rw [hp]
        rintro e w1 ⟨rfl, hb1⟩
        have HB1 := Lib.hid (bT HBW.out hb1)
        clear hb1 hp
        go_wp2_with fail
        go_ret
        exact ⟨k, rfl, by rw [HN.out]; simp, by omega, by omega, HB1.out⟩
      · rw [hp] at HE
        have HS := Lib.hid (inK_succ HK.out HE.out)
        go_wp2_with fail
        refine (exclude_any _ _ _ _ _ _ _ _).mono ?_
        rw [hp]
        rintro e w1 ⟨rfl, hb1⟩
        have HB1 := Lib.hid (bT HBW.out hb1)
        clear hb1 hp
        go_wp2_with fail
        go_roundw
        case rel => exact ⟨k + 1, by omega, by go_num, HS.out, HB1.out⟩
        case measure => simp [intOf]; omega
    · obtain rfl : k = ps.length := by omega
      have HR := Lib.hid (inK_all HK.out)
      go_wp2_with fail
      go_ret
      exact ⟨-1, rfl, by rw [HR.out]; rfl, by omega, by omega, hbw⟩
theorem containsL_any (a b c d s : Int) (ps : List (Int × Int)) (v : Value) (w : World) (ha : SlP w v ps) (hmax : ps.length ≤ 1000000000000) :
    Calls Try.prog 91 #[v, .func (.func 92) #[.agg #[.int .i64 a, .int .i64 b, .int .i64 c, .int .i64 d, .int .i64 s]] #[]] w (BoolBel (!ps.all (inW a b c d)) w) := by
  go_enter Try.func91, Try.ntmps91
  go_wp2_with fail
  refine (idxL_any a b c d s ps v w ha hmax).mono ?_
  rintro e w1 ⟨r, rfl, hr, h1, h2, hb⟩
  have HR := Lib.hid hr
  clear hr
  go_wp2_with fail
  go_ret
  exact ⟨ret_bool HR.out, hb⟩
set_option maxHeartbeats 2000000 in
theorem WithinI_any (a b c d s : Int) (ps : List (Int × Int)) (v : Value) (w : World) (ha : SlP w v ps) (hmax : ps.length ≤ 1000000000000) :
    Calls Try.prog 47 #[v, .agg #[.int .i64 a, .int .i64 b, .int .i64 c, .int .i64 d, .int .i64 s]] w (BoolBel (wlV ps a b c d s) w) := by
  have HV := Lib.hid ha
  have B0 := Lib.hid (Box5.new w a b c d s 66)
  have L0 := Lib.hid (bA (bR w) (.cells #[.int .i64 a, .int .i64 b, .int .i64 c, .int .i64 d, .int .i64 s] 66))
  have VL := Lib.hid (fun W => ValidLimitsI_any a b c d s W)
  have CO := Lib.hid (fun W (h : SlP W v ps) => containsL_any a b c d s ps v W h hmax)
  obtain ⟨ao, cap, rfl, _⟩ := ha
  cases h1 : okL a b c d s
  · rw [wl_no1 h1]
    rw [h1] at VL
    clear h1
    go_enter Try.func47, Try.ntmps47
    go_wp2_with fail
    refine (VL.out _).mono ?_
    rintro e w1 ⟨rfl, hb⟩
    have L1 := Lib.hid (bT L0.out hb)
    clear hb
    go_wp2_with fail
    go_ret
    exact ⟨rfl, L1.out⟩
  · rw [h1] at VL
    by_cases h2 : (ps.length : Int) = s
    · rw [wl_go h1 h2]
      have H2 := Lib.hid h2
      have hq : ((ps.length : Int) == s) = true := by simpa using h2
      clear h1 h2
      generalize ps.all (inW a b c d) = r at *
      go_enter Try.func47, Try.ntmps47
      go_wp2_with fail
      refine (VL.out _).mono ?_
      rintro e w1 ⟨rfl, hb⟩
      have L1 := Lib.hid (bT L0.out hb)
      obtain ⟨c0, c1, c2, c3, c4, c5⟩ := B0.out.keep hb
      clear hb
      go_wp2_with fail
      refine (CO.out _ (HV.out.keep L1.out)).mono ?_
      rintro e w2 ⟨rfl, hb⟩
      have L2 := Lib.hid (bT L1.out hb)
      clear hb
      go_wp2_with fail
      go_ret
      exact ⟨ret_bool (by simp), L2.out⟩
    · rw [wl_no2 h2]
      have hq : ((ps.length : Int) == s) = false := by simpa using h2
      clear h1 h2
      go_enter Try.func47, Try.ntmps47
      go_wp2_with fail
      refine (VL.out _).mono ?_
      rintro e w1 ⟨rfl, hb⟩
      have L1 := Lib.hid (bT L0.out hb)
      obtain ⟨c0, c1, c2, c3, c4, c5⟩ := B0.out.keep hb
      clear hb
      go_wp2_with fail
      go_ret
      exact ⟨rfl, L1.out⟩
set_option maxRecDepth 100000 in
set_option maxHeartbeats 4000000 in
theorem WithinS_any (a b c d s : Int) (ps : List (Int × Int)) (v : Value) (w : World) (ha : SlP w v ps) (hmax : ps.length ≤ 1000000000000) :
    Calls Try.prog 46 #[v, .agg #[.int .i64 a, .int .i64 b, .int .i64 c, .int .i64 d, .int .i64 s]] w (BoolBel (wlV ps a b c d s) w) := by
  have HV := Lib.hid ha
  have B0 := Lib.hid (Box5.new w a b c d s 66)
  have L0 := Lib.hid (bA (bR w) (.cells #[.int .i64 a, .int .i64 b, .int .i64 c, .int .i64 d, .int .i64 s] 66))
  have VL := Lib.hid (fun W (h : Box5 W w.heap.size a b c d s) => l06Ok_any a b c d s w.heap.size W h)
  have OK := Lib.hid (fun W (h : SlP W v ps) => l05Ok_any ps v W h hmax)
  obtain ⟨ao, cap, rfl, _⟩ := ha
  cases h1 : okL a b c d s
  · rw [wl_no1 h1]
    rw [h1] at VL
    clear h1
    go_enter Try.func46, Try.ntmps46
    go_wp2_with fail
    refine (VL.out _ B0.out).mono ?_
    rintro e w1 ⟨rfl, hb⟩
    have L1 := Lib.hid (bT L0.out hb)
    clear hb
    go_wp2_with fail
    go_ret
    exact ⟨rfl, L1.out⟩
  · rw [h1] at VL
    cases ht : okT ps
    · rw [wl_no3 ht]
      rw [ht] at OK
      clear h1 ht
      go_enter Try.func46, Try.ntmps46
      go_wp2_with fail
      refine (VL.out _ B0.out).mono ?_
      rintro e w1 ⟨rfl, hb⟩
      have L1 := Lib.hid (bT L0.out hb)
      clear hb
      go_wp2_with fail
      refine (OK.out _ (HV.out.keep L1.out)).mono ?_
      rintro e w2 ⟨rfl, hb⟩
      have L2 := Lib.hid (bT L1.out hb)
      clear hb
      go_wp2_with fail
      go_ret
      exact ⟨rfl, L2.out⟩
    · rw [ht] at OK
      have h5 := (okT_iff.1 ht).1
      by_cases h2 : (ps.length : Int) = s
      · have HG := Lib.hid (wl_go h1 h2)
        have hq : ((ps.length : Int) != s) = false := by simpa using h2
        clear h1 h2 ht
        go_enter Try.func46, Try.ntmps46
        go_wp2_with fail
        refine (VL.out _ B0.out).mono ?_
        rintro e w1 ⟨rfl, hb⟩
        have L1 := Lib.hid (bT L0.out hb)
        have B1 := Lib.hid (B0.out.keep hb)
        clear hb
        go_wp2_with fail
        refine (OK.out _ (HV.out.keep L1.out)).mono ?_
        rintro e w2 ⟨rfl, hb⟩
        have L2 := Lib.hid (bT L1.out hb)
        have B2 := Lib.hid (B1.out.keep hb)
        obtain ⟨c0, c1, c2, c3, c4, c5⟩ := B1.out.keep hb
        clear hb
        go_wp2_with fail
        clear c0 c1 c2 c3 c4 c5
        go_loopw [5] (fun i wr => ∃ (k : Nat), k ≤ ps.length ∧ i = .int .i64 k ∧ inK a b c d ps k ∧ Below w2.heap.size w2 wr) (fun i _ => ps.length - (intOf i).toNat)
        case atStart => exact ⟨0, by omega, rfl, inK_zero _ _ _ _ _, bR _⟩
        case round =>
          obtain ⟨k, hk, rfl, hok, hbw⟩ := hrel
          have HK := Lib.hid hok
          have HBW := Lib.hid hbw
          have LW := Lib.hid (bT L2.out hbw)
          obtain ⟨c0, c1, c2, c3, c4, c5⟩ := B2.out.keep hbw
          clear hok hbw
          by_cases hlt : k < ps.length
          · obtain ⟨ao', cap', e', ha'⟩ := HV.out
            injection e' with e1 e2 e3
            subst e1 e3
            obtain ⟨g, rfl, hg, hc⟩ := ha' (by omega)
            obtain ⟨d1, d2⟩ := (hc.keep hg LW.out) k hlt
            have HE := Lib.hid (show inW a b c d (pat ps k) = inW a b c d ((pat ps k).1, (pat ps k).2) from rfl)
            have HN := Lib.hid (fun h => HG.out.trans (inW_no (a := a) (b := b) (c := c) (d := d) hlt h))
            have HS := Lib.hid (fun h => inK_succ (a := a) (b := b) (c := c) (d := d) HK.out h)
            clear e2 ha' hc hg
            generalize (pat ps k).1 = x at *
            generalize (pat ps k).2 = y at *
            have C1 := Lib.hid (fun W => l00In_any x a b W)
            have C2 := Lib.hid (fun W => l00In_any y c d W)
            cases hx : inB x a b
            · have HN2 := Lib.hid (HN.out (HE.out.trans (by simp [inW, hx])))
              rw [hx] at C1
              clear hx HN HS HE
              go_wp2_with fail
              go_quiet ((go_at_call 68; with_reducible exact quiet_eq (C1.out _)))
              go_wp2_with fail
              go_ret
              exact ⟨ret_bool HN2.out.symm, bD LW.out _⟩
            · cases hy : inB y c d
              · have HN2 := Lib.hid (HN.out (HE.out.trans (by simp [inW, hy])))
                rw [hx] at C1
                rw [hy] at C2
                clear hx hy HN HS HE
                go_wp2_with fail
                go_quiet (first | (go_at_call 68; with_reducible exact quiet_eq (C1.out _)) | (go_at_call 68; with_reducible exact quiet_eq (C2.out _)))
                go_wp2_with fail
                go_ret
                exact ⟨ret_bool HN2.out.symm, bD LW.out _⟩
              · have HS2 := Lib.hid (HS.out (HE.out.trans (by simp [inW, hx, hy])))
                rw [hx] at C1
                rw [hy] at C2
                clear hx hy HN HS HE
                go_wp2_with fail
                go_quiet (first | (go_at_call 68; with_reducible exact quiet_eq (C1.out _)) | (go_at_call 68; with_reducible exact quiet_eq (C2.out _)))
                go_wp2_with fail
                go_roundw
                case rel => exact ⟨k + 1, by omega, by go_num, HS2.out, bD HBW.out _⟩
                case measure => simp [intOf]; omega
          · obtain rfl : k = ps.length := by omega
            have HR := Lib.hid (HG.out.trans (inK_all HK.out))
            go_wp2_with fail
            go_ret
            exact ⟨ret_bool HR.out.symm, LW.out⟩
      · rw [wl_no2 h2]
        have hq : ((ps.length : Int) != s) = true := by simpa using h2
        clear h1 h2 ht
        go_enter Try.func46, Try.ntmps46
        go_wp2_with fail
        refine (VL.out _ B0.out).mono ?_
        rintro e w1 ⟨rfl, hb⟩
        have L1 := Lib.hid (bT L0.out hb)
        have B1 := Lib.hid (B0.out.keep hb)
        clear hb
        go_wp2_with fail
        refine (OK.out _ (HV.out.keep L1.out)).mono ?_
        rintro e w2 ⟨rfl, hb⟩
        have L2 := Lib.hid (bT L1.out hb)
        obtain ⟨c0, c1, c2, c3, c4, c5⟩ := B1.out.keep hb
        clear hb
        go_wp2_with fail
        go_ret
        exact ⟨rfl, L2.out⟩
end Go.Proofs.Ytbfiacodglckiaa

/-
  Comparing trains: the contracts of cmp.Compare, cmp.Or, impl.Pair.compare, slices.CompareFunc at pairs with it, impl.CompareTrains.
-/
import Derived.Test.YtbfiacodglckiaaCtM
import Derived.StillTailTactics
namespace Go.Proofs.Ytbfiacodglckiaa
open Go.RowKit

/-- A call that leaves the world alone, for a region that only reads ahead of its tail. -/
theorem still_of {P : Program} {f : FuncId} {args : Array Value} {w : World} {v : Value} (h : Calls P f args w fun e w' => e = .returned v ∧ w = w') : Calls P f args w fun e w'' => e = .returned v ∧ w'' = w :=
  h.mono fun _ _ ⟨he, hm⟩ => ⟨he, hm.symm⟩
theorem isNaN64_any (x : Int) (w : World) :
    Calls Try.prog 139 #[.int .i64 x] w fun e w' => e = .returned (.bool false) ∧ w = w' := by
  have h : (x != x) = false := by simp
  go_enter Try.func139, Try.ntmps139
  go_wp2
  go_ret
  exact ⟨rfl, rfl⟩
theorem cmp64_any (x y : Int) (w : World) :
    Calls Try.prog 95 #[.int .i64 x, .int .i64 y] w fun e w' => e = .returned (.int .i64 (cmpI x y)) ∧ w = w' := by
  by_cases h : x < y
  · rw [cmpI_lt h]
    go_enter Try.func95, Try.ntmps95
    go_wp2_with (go_at_call 139; refine (isNaN64_any _ _).mono ?_; rintro e w1 ⟨rfl, rfl⟩)
    go_ret
    exact ⟨rfl, rfl⟩
  · by_cases h2 : y < x
    · rw [cmpI_gt h2]
      go_enter Try.func95, Try.ntmps95
      go_wp2_with (go_at_call 139; refine (isNaN64_any _ _).mono ?_; rintro e w1 ⟨rfl, rfl⟩)
      go_ret
      exact ⟨rfl, rfl⟩
    · have HE := Lib.hid (cmpI_zero.2 (show x = y by omega))
      go_enter Try.func95, Try.ntmps95
      go_wp2_with (go_at_call 139; refine (isNaN64_any _ _).mono ?_; rintro e w1 ⟨rfl, rfl⟩)
      go_ret
      exact ⟨ret_int HE.out.symm, rfl⟩
/-- The first of two numbers that is not 0. -/
def orI (a b : Int) : Int := if a = 0 then b else a
theorem orI_ne {a b : Int} (h : a ≠ 0) : orI a b = a := by simp [orI, h]
theorem orI_zero (b : Int) : orI 0 b = b := by simp [orI]
theorem cmpOr_any (a b : Int) (g : Nat) (w : World) (h0 : w.cell? ⟨g, 0, none⟩ = some (.int .i64 a)) (h1 : w.cell? ⟨g, 1, none⟩ = some (.int .i64 b)) :
    Calls Try.prog 140 #[.slice (some ⟨g, 0, none⟩) 2 2] w fun e w' => e = .returned (.int .i64 (orI a b)) ∧ w = w' := by
  have HO := Lib.hid (show ∀ z, z = orI a b → Ending.returned (.int .i64 z) = .returned (.int .i64 (orI a b)) from fun z h => ret_int h)
  go_enter Try.func140, Try.ntmps140
  go_wp2_with fail
  go_loopw [8] (fun i wr => ∃ k : Nat, k ≤ 2 ∧ i = .int .i64 k ∧ (1 ≤ k → a = 0) ∧ (2 ≤ k → b = 0) ∧ wr = w) (fun i _ => 2 - (intOf i).toNat)
  case atStart => exact ⟨0, by omega, rfl, by omega, by omega, rfl⟩
  case round =>
    obtain ⟨k, hk, rfl, ha, hb, rfl⟩ := hrel
    have H := Lib.hid (And.intro ha hb)
    clear ha hb
    by_cases hk0 : k < 1
    · obtain rfl : k = 0 := by omega
      by_cases hz : a = 0
      · subst hz
        go_wp2_with fail
        go_roundw
        case rel => exact ⟨1, by omega, by go_num, by simp, by simp, by simp⟩
        case measure => simp [intOf]
      · have hn : (a != 0) = true := by simpa using hz
        have HN := Lib.hid (orI_ne (b := b) hz)
        clear hz
        go_wp2_with fail
        go_ret
        exact ⟨HO.out _ HN.out.symm, rfl⟩
    · by_cases hk1 : k < 2
      · obtain rfl : k = 1 := by omega
        have ha := H.out.1 (by omega)
        subst ha
        by_cases hz : b = 0
        · subst hz
          go_wp2_with fail
          go_roundw
          case rel => exact ⟨2, by omega, by go_num, by simp, by simp, by simp⟩
          case measure => simp [intOf]
        · have hn : (b != 0) = true := by simpa using hz
          clear hz
          go_wp2_with fail
          go_ret
          exact ⟨HO.out _ (orI_zero b).symm, rfl⟩
      · obtain rfl : k = 2 := by omega
        have ha := H.out.1 (by omega)
        have hb := H.out.2 (by omega)
        subst ha
        subst hb
        go_wp2_with fail
        go_ret
        exact ⟨HO.out _ (orI_zero 0).symm, rfl⟩
theorem or_cmp (x y x' y' : Int) : orI (cmpI x x') (cmpI y y') = cmpP (x, y) (x', y') := rfl
set_option maxRecDepth 100000 in
set_option maxHeartbeats 2000000 in
theorem pcmp_any (x y x' y' : Int) (w : World) :
    Calls Try.prog 97 #[.agg #[.int .i64 x, .int .i64 y], .agg #[.int .i64 x', .int .i64 y']] w fun e w' => e = .returned (.int .i64 (cmpP (x, y) (x', y'))) ∧ Below w.heap.size w w' := by
  rw [← or_cmp]
  generalize hp : cmpI x x' = p
  have HP := Lib.hid hp
  generalize hq : cmpI y y' = q
  have HQ := Lib.hid hq
  clear hp hq
  have C1 := Lib.hid (fun W => still_of (cmp64_any x x' W))
  have C2 := Lib.hid (fun W => still_of (cmp64_any y y' W))
  rw [HP.out] at C1
  rw [HQ.out] at C2
  clear HP HQ
  have B1 := Lib.hid (Box2.new w x y 108)
  have B2 := Lib.hid (Box2.new (w.alloc (.cells #[.int .i64 x, .int .i64 y] 108)) x' y' 108)
  have B3 := Lib.hid (B1.out.alloc (.cells #[.int .i64 x', .int .i64 y'] 108))
  obtain ⟨c0, c1, _, _, _⟩ := B3.out
  obtain ⟨d0, d1, _, _, _⟩ := B2.out
  have L := Lib.hid (bA (bA (bR w) (.cells #[.int .i64 x, .int .i64 y] 108)) (.cells #[.int .i64 x', .int .i64 y'] 108))
  simp only [World.size_alloc] at d0 d1
  go_enter Try.func97, Try.ntmps97
  go_wp2_with fail
  generalize (w.alloc (.cells #[.int .i64 x, .int .i64 y] 108)).alloc (.cells #[.int .i64 x', .int .i64 y'] 108) = W at *
  refine wp_region_still_tail 10 (by kernel_rfl) (by kernel_rfl) ?_
  change wpStill _ _ W.drew _ _ _
  simp only [List.take_succ_cons, List.take_zero, List.drop_succ_cons, List.drop_zero]
  still_step
  still_step
  still_step
  still_step
  still_call (C1.out _)
  still_step
  still_step
  still_step
  still_step
  still_call (C2.out _)
  refine wpStill_nil ?_
  have LD := Lib.hid L.out.drew
  change wpList _ _ _ _ _ W.drew
  generalize W.drew = W2 at *
  clear c0 c1 d0 d1 B1 B2 B3 L
  have LE := Lib.hid (bA LD.out (.cells #[.int .i64 p, .int .i64 q] 3))
  go_wp2_with (go_at_call 140; refine (cmpOr_any p q _ _ (by simp [go_sem]) (by simp [go_sem])).mono ?_; rintro e w' ⟨rfl, rfl⟩)
  go_ret
  exact ⟨rfl, LE.out⟩
/-- What CompareFunc keeps. -/
def CfK (ps qs : List (Int × Int)) (k : Nat) : Prop := cmpT ps qs = cmpT (ps.drop k) (qs.drop k)
set_option maxRecDepth 100000 in
set_option maxHeartbeats 4000000 in
theorem cmpFunc_any (ps qs : List (Int × Int)) (va vb : Value) (w : World) (ha : SlP w va ps) (hb : SlP w vb qs) (hmax : ps.length ≤ 1000000000000) (hmax2 : qs.length ≤ 1000000000000) :
    Calls Try.prog 96 #[va, vb, .func (.func 97) #[] #[]] w fun e w' => e = .returned (.int .i64 (cmpT ps qs)) ∧ Below w.heap.size w w' := by
  obtain ⟨ao, cap, rfl, ha⟩ := ha
  obtain ⟨bo, bcap, rfl, hb⟩ := hb
  have HA := Lib.hid ha
  have HB := Lib.hid hb
  clear ha hb
  go_enter Try.func96, Try.ntmps96
  go_wp2_with fail
  go_loopw [13] (fun i wr => ∃ (k : Nat), k ≤ ps.length ∧ k ≤ qs.length ∧ i = .int .i64 k ∧ CfK ps qs k ∧ Below w.heap.size w wr) (fun i _ => ps.length - (intOf i).toNat)
  case atStart => exact ⟨0, by omega, by omega, rfl, rfl, bR _⟩
  case round =>
    obtain ⟨k, hk, hk2, rfl, hcf, hbw⟩ := hrel
    have HK := Lib.hid hcf
    have HBW := Lib.hid hbw
    have hsz := hbw.size
    clear hcf hbw
    by_cases hlt : k < ps.length
    · obtain ⟨g, rfl, hg, hc⟩ := HA.out (by omega)
      obtain ⟨c1, c2⟩ := (hc.keep hg HBW.out) k hlt
      by_cases hlt2 : k < qs.length
      · obtain ⟨g2, rfl, hg2, hc2⟩ := HB.out (by omega)
        obtain ⟨d1, d2⟩ := (hc2.keep hg2 HBW.out) k hlt2
        have hgr : g < wr.heap.size := by omega
        have hg2r : g2 < wr.heap.size := by omega
        have HD := Lib.hid (fun h => HK.out.trans (cmpT_diff hlt hlt2 h))
        have HN := Lib.hid (fun h => HK.out.trans (cmpT_next hlt hlt2 h))
        have HP := Lib.hid (show cmpP (pat ps k) (pat qs k) = cmpP ((pat ps k).1, (pat ps k).2) ((pat qs k).1, (pat qs k).2) from rfl)
        clear hc hc2 HA HB
        generalize (pat ps k).1 = x at *
        generalize (pat ps k).2 = y at *
        generalize (pat qs k).1 = x' at *
        generalize (pat qs k).2 = y' at *
        go_wp2_with fail
        refine (pcmp_any _ _ _ _ _).mono ?_
        rw [← HP.out]
        generalize cmpP (pat ps k) (pat qs k) = r at *
        rintro e w1 ⟨rfl, hb1⟩
        have L1 := Lib.hid (bT (bA (bA HBW.out _) _) hb1)
        clear hb1
        by_cases hr : r = 0
        · have HN2 := Lib.hid (HN.out hr)
          subst hr
          go_wp2_with fail
          go_roundw
          case rel => exact ⟨k + 1, by omega, by omega, by go_num, HN2.out, L1.out⟩
          case measure => simp [intOf]; omega
        · have HD2 := Lib.hid (HD.out hr)
          have hn : (r != 0) = true := by simpa using hr
          clear hr
          go_wp2_with fail
          go_ret
          exact ⟨ret_int HD2.out.symm, L1.out⟩
      · have HE := Lib.hid (HK.out.trans (cmpT_over hlt (by omega)))
        have hle : qs.length ≤ k := by omega
        clear hc hg
        generalize (pat ps k).1 = x at *
        generalize (pat ps k).2 = y at *
        go_wp2_with fail
        go_ret
        exact ⟨ret_int HE.out.symm, bA HBW.out _⟩
    · obtain rfl : k = ps.length := by omega
      by_cases hlt2 : ps.length < qs.length
      · have HE := Lib.hid (HK.out.trans (cmpT_under rfl hlt2))
        go_wp2_with fail
        go_ret
        exact ⟨ret_int HE.out.symm, HBW.out⟩
      · have HE := Lib.hid (HK.out.trans (cmpT_done rfl (by omega)))
        go_wp2_with fail
        go_ret
        exact ⟨ret_int HE.out.symm, HBW.out⟩
set_option maxHeartbeats 4000000 in
theorem CompareTrainsI_any (ps qs : List (Int × Int)) (va vb : Value) (w : World) (ha : SlP w va ps) (hb : SlP w vb qs) (hmax : ps.length ≤ 1000000000000) (hmax2 : qs.length ≤ 1000000000000) :
    Calls Try.prog 49 #[va, vb] w fun e w' => e = .returned (.int .i64 (ctV ps qs)) ∧ Below w.heap.size w w' := by
  have HB := Lib.hid hb
  have T1 := Lib.hid (TeethOfI_any ps va w ha hmax)
  have T2 := Lib.hid (fun W (h : SlP W vb qs) => TeethOfI_any qs vb W h hmax2)
  have HC := Lib.hid (fun W (h : SlP W va ps) (h2 : SlP W vb qs) => cmpFunc_any ps qs va vb W h h2 hmax hmax2)
  have HA := Lib.hid ha
  clear ha hb
  cases h : okT ps
  · rw [ct_no1 h]
    have HT := Lib.hid (ts_no h)
    generalize tsN qs = b at *
    generalize tsC qs = c at *
    clear h
    go_enter Try.func49, Try.ntmps49
    go_wp2_with fail
    refine T1.out.mono ?_
    rw [HT.out.1, HT.out.2]
    rintro e w1 ⟨rfl, hb1⟩
    have HB1 := Lib.hid (HB.out.keep hb1)
    have L1 := Lib.hid hb1
    clear hb1
    go_wp2_with fail
    refine (T2.out _ HB1.out).mono ?_
    rintro e w2 ⟨rfl, hb2⟩
    have L2 := Lib.hid (bT L1.out hb2)
    clear hb2
    go_wp2_with fail
    go_ret
    exact ⟨rfl, L2.out⟩
  · cases h2 : okT qs
    · rw [ct_no2 h2]
      have HT := Lib.hid (ts_yes h)
      have HT2 := Lib.hid (ts_no h2)
      clear h h2
      generalize tSum ps = a at *
      go_enter Try.func49, Try.ntmps49
      go_wp2_with fail
      refine T1.out.mono ?_
      rw [HT.out.1, HT.out.2]
      rintro e w1 ⟨rfl, hb1⟩
      have HB1 := Lib.hid (HB.out.keep hb1)
      have L1 := Lib.hid hb1
      clear hb1
      go_wp2_with fail
      refine (T2.out _ HB1.out).mono ?_
      rw [HT2.out.1, HT2.out.2]
      rintro e w2 ⟨rfl, hb2⟩
      have L2 := Lib.hid (bT L1.out hb2)
      clear hb2
      go_wp2_with fail
      go_ret
      exact ⟨rfl, L2.out⟩
    · have HT := Lib.hid (ts_yes h)
      have HT2 := Lib.hid (ts_yes h2)
      by_cases h3 : tSum ps = tSum qs
      · rw [ct_eq h h2 h3]
        have H3 := Lib.hid h3
        clear h h2 h3
        have hne : (tSum ps != tSum ps) = false := by simp
        generalize cmpT ps qs = r at *
        rw [← H3.out] at HT2
        clear H3
        generalize tSum ps = a at *
        go_enter Try.func49, Try.ntmps49
        go_wp2_with fail
        refine T1.out.mono ?_
        rw [HT.out.1, HT.out.2]
        rintro e w1 ⟨rfl, hb1⟩
        have HB1 := Lib.hid (HB.out.keep hb1)
        have HA1 := Lib.hid (HA.out.keep hb1)
        have L1 := Lib.hid hb1
        clear hb1
        go_wp2_with fail
        refine (T2.out _ HB1.out).mono ?_
        rw [HT2.out.1, HT2.out.2]
        rintro e w2 ⟨rfl, hb2⟩
        have HB2 := Lib.hid (HB1.out.keep hb2)
        have HA2 := Lib.hid (HA1.out.keep hb2)
        have L2 := Lib.hid (bT L1.out hb2)
        clear hb2 HA1 HB1
        go_wp2_with fail
        refine (HC.out _ HA2.out HB2.out).mono ?_
        rintro e w3 ⟨rfl, hb3⟩
        have L3 := Lib.hid (bT L2.out hb3)
        clear hb3
        go_wp2_with fail
        go_ret
        exact ⟨rfl, L3.out⟩
      · rw [ct_ne h h2 h3]
        have hne : (tSum ps != tSum qs) = true := by simpa using h3
        clear h h2 h3
        generalize tSum ps = a at *
        generalize tSum qs = b at *
        have hne' : (a == b) = false := by simpa using hne
        go_enter Try.func49, Try.ntmps49
        go_wp2_with fail
        refine T1.out.mono ?_
        rw [HT.out.1, HT.out.2]
        rintro e w1 ⟨rfl, hb1⟩
        have HB1 := Lib.hid (HB.out.keep hb1)
        have L1 := Lib.hid hb1
        clear hb1
        go_wp2_with fail
        refine (T2.out _ HB1.out).mono ?_
        rw [HT2.out.1, HT2.out.2]
        rintro e w2 ⟨rfl, hb2⟩
        have L2 := Lib.hid (bT L1.out hb2)
        clear hb2
        go_wp2_with fail
        refine (cmp64_any _ _ _).mono ?_
        rintro e w3 ⟨rfl, rfl⟩
        go_wp2_with fail
        go_ret
        exact ⟨rfl, L2.out⟩
end Go.Proofs.Ytbfiacodglckiaa

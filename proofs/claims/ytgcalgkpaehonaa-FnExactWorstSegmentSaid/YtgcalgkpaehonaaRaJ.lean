/-
  Drifts after segments, worst segments, best bases: the program's side.
-/
import Derived.Test.YtgcalgkpaehonaaRaI
import Derived.Test.YtgcalgkpaehonaaRaX
namespace Go.Proofs.Ytgcalgkpaehonaa
open Go.RowKit

set_option maxRecDepth 100000 in
set_option maxHeartbeats 4000000 in
theorem DriftsAfterI_any (b l c m : Int) (ps : List (Int × Int)) (v : Value) (w : World) (ha : SlP w v ps) (hmax : ps.length ≤ 1000000000000) :
    Calls Try.prog 24 #[.agg #[.int .i64 b, .int .i64 l, .int .i64 c, .int .i64 m], v] w (SlC (daL b l c m ps).1 (daL b l c m ps).2 w) := by
  have CO := Lib.hid (fun W => ValidRateI_any b l c m W)
  have CL := Lib.hid (fun v W (h : SlP W v ps) => ValidSegmentsI_any ps v W h hmax)
  have B0 := Lib.hid (BoxL.new w [.int .i64 b, .int .i64 l, .int .i64 c, .int .i64 m] 25)
  have L0 := Lib.hid (bA (bR w) (.cells #[.int .i64 b, .int .i64 l, .int .i64 c, .int .i64 m] 25))
  have A0 := Lib.hid (ha.keep (bA (bR w) (.cells #[.int .i64 b, .int .i64 l, .int .i64 c, .int .i64 m] 25)))
  have hA0 := Lib.hid ha
  obtain ⟨ao, cap, rfl, _⟩ := ha
  cases h1 : okRt b l c m
  · rw [daL_1 h1]
    rw [h1] at CO
    go_enter Try.func24, Try.ntmps24
    go_wp2_with fail
    refine (CO.out _).mono ?_
    rintro e w1 ⟨rfl, hb⟩
    have B1 := Lib.hid (B0.out.keep hb)
    have L1 := Lib.hid (bT L0.out hb)
    have A1 := Lib.hid (A0.out.keep hb)
    clear hb B0 L0 A0
    obtain ⟨c0, c1, c2, c3, c4⟩ := B1.out.c4
    go_wp2_with fail
    go_ret2
    exact ⟨_, rfl, World.ownsRow_nil _ _ _ _, L1.out⟩
  rw [h1] at CO
  cases h2 : okSl ps
  · rw [daL_2 h2]
    rw [h2] at CL
    go_enter Try.func24, Try.ntmps24
    go_wp2_with fail
    refine (CO.out _).mono ?_
    rintro e w1 ⟨rfl, hb⟩
    have B1 := Lib.hid (B0.out.keep hb)
    have L1 := Lib.hid (bT L0.out hb)
    have A1 := Lib.hid (A0.out.keep hb)
    clear hb B0 L0 A0
    obtain ⟨c0, c1, c2, c3, c4⟩ := B1.out.c4
    go_wp2_with fail
    refine (CL.out _ _ A1.out).mono ?_
    rintro e w2 ⟨rfl, hb⟩
    have B2 := Lib.hid (B1.out.keep hb)
    have L2 := Lib.hid (bT L1.out hb)
    have A2 := Lib.hid (A1.out.keep hb)
    clear hb B1 L1 A1 c0 c1 c2 c3 c4
    obtain ⟨c0, c1, c2, c3, c4⟩ := B2.out.c4
    go_wp2_with fail
    go_ret2
    exact ⟨_, rfl, World.ownsRow_nil _ _ _ _, L2.out⟩
  rw [h2] at CL
  have hR := rte_of h1
  rw [daL_0 h1 h2]
  have CS := Lib.hid (fun v W (h : SlP W v ps) => sumsAfter_any b l c m ps v W h hR h2)
  have hln := (okSl_iff.1 h2).1
  have HLs := rnK_len (drS b l c m) ps ps.length
  have HBD := Lib.hid (fun i (hi : i < ps.length) => rn_bd hR h2 hi)
  clear hR
  generalize rnK (drS b l c m) ps ps.length = ts at *
  rw [← HLs] at HBD hln ⊢
  go_enter Try.func24, Try.ntmps24
  go_wp2_with fail
  refine (CO.out _).mono ?_
  rintro e w1 ⟨rfl, hb⟩
  have B1 := Lib.hid (B0.out.keep hb)
  have L1 := Lib.hid (bT L0.out hb)
  have A1 := Lib.hid (A0.out.keep hb)
  clear hb B0 L0 A0
  obtain ⟨c0, c1, c2, c3, c4⟩ := B1.out.c4
  go_wp2_with fail
  refine (CL.out _ _ A1.out).mono ?_
  rintro e w2 ⟨rfl, hb⟩
  have B2 := Lib.hid (B1.out.keep hb)
  have L2 := Lib.hid (bT L1.out hb)
  have A2 := Lib.hid (A1.out.keep hb)
  clear hb B1 L1 A1 c0 c1 c2 c3 c4
  obtain ⟨c0, c1, c2, c3, c4⟩ := B2.out.c4
  go_wp2_with fail
  refine (CS.out _ _ A2.out).mono ?_
  rintro e w3 ⟨vs, rfl, hr, hb⟩
  have R3 := Lib.hid (own_lower (B' := w.heap.size) hr (by omega))
  have L3 := Lib.hid (bT L2.out hb)
  obtain ⟨ai, caps, rfl, _⟩ := sl64_of hr
  clear hr hb c0 c1 c2 c3 c4 B2 A2 L2 HLs
  go_wp2_with fail
  go_loopw [22] (fun vi wr => ∃ k : Nat, k ≤ ts.length ∧ vi = .int .i64 k ∧ wr.ownsRow w.heap.size 2 1 (.slice ai ts.length caps) ts.length (intC (daK ts k ++ ts.drop k)) ∧ Below w.heap.size w wr) (fun vi _ => ts.length - (intOf vi).toNat)
  case atStart => exact ⟨0, Nat.zero_le _, rfl, by simpa [daK] using R3.out, L3.out⟩
  case round =>
    obtain ⟨k, hk, rfl, hrow, hbel⟩ := hrel
    have RW := Lib.hid hrow
    have BL := Lib.hid hbel
    clear hbel R3 L3
    by_cases hlt : k < ts.length
    · rcases hrow.2 with ⟨_, h0⟩ | ⟨g, cap', cur, h0, hg0, hh, _⟩
      · exact absurd h0 (by omega)
      cases h0
      have hll : (daK ts k ++ ts.drop k).length = ts.length := by rw [List.length_append, daK_len hk, List.length_drop]; omega
      have c1 : wr.cell? ⟨g, k, none⟩ = some (.int .i64 (at0 ts k)) := by
        rw [hrow.cellAt k (by omega)]
        unfold intC
        rw [List.getElem?_map, List.getElem?_eq_getElem (by omega), ← daK_mid hlt]
        unfold at0
        rw [List.getElem?_eq_getElem (by omega)]; rfl
      have HG := Lib.hid (Array.getElem?_eq_some_iff.1 hh).1
      have HD := Lib.hid (daK_set hlt)
      have hbd := HBD.out k hlt
      clear hrow hh hll HBD
      generalize at0 ts k = s at *
      go_wp2_with fail
      refine (nearestOf_any s 24 _ (by omega) (by omega) (by omega) (by omega)).mono ?_
      rintro en w4 ⟨rfl, hb⟩
      generalize near s 24 = q at *
      have RW4 := Lib.hid (own_keep RW.out hb)
      have BL4 := Lib.hid (bT BL.out hb)
      have f1 : w4.frozen? ⟨g, k, none⟩ = false := RW4.out.frozenAt k
      have c4 : w4.cell? ⟨g, k, none⟩ = some (.int .i64 s) := (hb.cell (p := ⟨g, k, none⟩) HG.out).trans c1
      have NR := Lib.hid ((RW4.out.stored k (.int .i64 q)).1)
      rw [← intC_set, HD.out] at NR
      have NB := Lib.hid (BL4.out.setCell (p := ⟨g, k, none⟩) hg0 (.int .i64 q))
      clear hb c1 RW BL RW4 BL4
      go_wp2_with fail
      go_roundw
      case rel => exact ⟨k + 1, by omega, by go_num, NR.out, NB.out⟩
      case measure => simp [intOf]; omega
    · obtain rfl : k = ts.length := by omega
      have RF := Lib.hid (show wr.ownsRow w.heap.size 2 1 (.slice ai ts.length caps) (daK ts ts.length).length (intC (daK ts ts.length)) from by
        have := RW.out
        rw [List.drop_of_length_le (Nat.le_refl _), List.append_nil] at this
        rw [daK_len (Nat.le_refl _)]; exact this)
      clear hrow
      go_wp2_with fail
      go_ret2
      exact ⟨_, rfl, RF.out, BL.out⟩
end Go.Proofs.Ytgcalgkpaehonaa

/-
  Worst segments: the document's side.
-/
import Derived.Test.YtgcalgkpaehonaaRaU
namespace Go.Proofs.Ytgcalgkpaehonaa
open Go.RowKit

set_option maxRecDepth 100000 in
set_option maxHeartbeats 4000000 in
theorem WorstSegmentS_any (b l c m : Int) (ps : List (Int × Int)) (v : Value) (w : World) (ha : SlP w v ps) (hmax : ps.length ≤ 1000000000000) :
    Calls Try.prog 29 #[.agg #[.int .i64 b, .int .i64 l, .int .i64 c, .int .i64 m], v] w (TwoN (wsE b l c m ps).1 (wsE b l c m ps).2 w) := by
  have CO := Lib.hid (fun W => l12Ok_any b l c m W)
  have CL := Lib.hid (fun v W (h : SlP W v ps) => l12List_any ps v W h hmax)
  have B0 := Lib.hid (BoxL.new w [.int .i64 b, .int .i64 l, .int .i64 c, .int .i64 m] 25)
  have L0 := Lib.hid (bA (bR w) (.cells #[.int .i64 b, .int .i64 l, .int .i64 c, .int .i64 m] 25))
  have A0 := Lib.hid (ha.keep (bA (bR w) (.cells #[.int .i64 b, .int .i64 l, .int .i64 c, .int .i64 m] 25)))
  obtain ⟨ao, cap, rfl, _⟩ := ha
  cases h1 : okRt b l c m
  · rw [wsE_1 h1]
    rw [h1] at CO
    go_enter Try.func29, Try.ntmps29
    go_wp2_with fail
    refine (CO.out _).mono ?_
    rintro e w1 ⟨rfl, hb⟩
    have B1 := Lib.hid (B0.out.keep hb)
    have L1 := Lib.hid (bT L0.out hb)
    have A1 := Lib.hid (A0.out.keep hb)
    clear hb B0 L0 A0
    obtain ⟨c0, c1, c2, c3, c4⟩ := B1.out.c4
    go_wp2_with fail
    go_ret2
    exact ⟨rfl, L1.out⟩
  rw [h1] at CO
  cases h2 : okSl ps
  · rw [wsE_2 h2]
    rw [h2] at CL
    go_enter Try.func29, Try.ntmps29
    go_wp2_with fail
    refine (CO.out _).mono ?_
    rintro e w1 ⟨rfl, hb⟩
    have B1 := Lib.hid (B0.out.keep hb)
    have L1 := Lib.hid (bT L0.out hb)
    have A1 := Lib.hid (A0.out.keep hb)
    clear hb B0 L0 A0
    obtain ⟨c0, c1, c2, c3, c4⟩ := B1.out.c4
    go_wp2_with fail
    refine (CL.out _ _ A1.out).mono ?_
    rintro e w2 ⟨rfl, hb⟩
    have B2 := Lib.hid (B1.out.keep hb)
    have L2 := Lib.hid (bT L1.out hb)
    have A2 := Lib.hid (A1.out.keep hb)
    clear hb B1 L1 A1 c0 c1 c2 c3 c4
    obtain ⟨c0, c1, c2, c3, c4⟩ := B2.out.c4
    go_wp2_with fail
    go_ret2
    exact ⟨rfl, L2.out⟩
  rw [h2] at CL
  have hR := rte_of h1
  by_cases h0 : ps.length = 0
  · rw [wsE_6 h1 h2 h0]
    have hz : ((ps.length : Int) == 0) = true := beq_iff_eq.2 (by omega)
    clear h0
    go_enter Try.func29, Try.ntmps29
    go_wp2_with fail
    refine (CO.out _).mono ?_
    rintro e w1 ⟨rfl, hb⟩
    have B1 := Lib.hid (B0.out.keep hb)
    have L1 := Lib.hid (bT L0.out hb)
    have A1 := Lib.hid (A0.out.keep hb)
    clear hb B0 L0 A0
    obtain ⟨c0, c1, c2, c3, c4⟩ := B1.out.c4
    go_wp2_with fail
    refine (CL.out _ _ A1.out).mono ?_
    rintro e w2 ⟨rfl, hb⟩
    have B2 := Lib.hid (B1.out.keep hb)
    have L2 := Lib.hid (bT L1.out hb)
    have A2 := Lib.hid (A1.out.keep hb)
    clear hb B1 L1 A1 c0 c1 c2 c3 c4
    obtain ⟨c0, c1, c2, c3, c4⟩ := B2.out.c4
    go_wp2_with fail
    go_ret2
    exact ⟨rfl, L2.out⟩
  have hz : ((ps.length : Int) == 0) = false := beq_eq_false_iff_ne.2 (by omega)
  rw [wsE_0 h1 h2 h0]
  have CS := Lib.hid (fun v W (h : SlP W v ps) => l12Sums_any b l c m ps v W h hR h2)
  have hln := (okSl_iff.1 h2).1
  have HLs := rnK_len (drS b l c m) ps ps.length
  have HBD := Lib.hid (fun i (hi : i < ps.length) => rn_bd hR h2 hi)
  clear hR
  generalize rnK (drS b l c m) ps ps.length = ts at *
  rw [← HLs] at HBD hln h0 ⊢
  go_enter Try.func29, Try.ntmps29
  go_wp2_with fail
  refine (CO.out _).mono ?_
  rintro e w1 ⟨rfl, hb⟩
  have B1 := Lib.hid (B0.out.keep hb)
  have L1 := Lib.hid (bT L0.out hb)
  have A1 := Lib.hid (A0.out.keep hb)
  clear hb B0 L0 A0
  obtain ⟨c0, c1, c2, c3, c4⟩ := B1.out.c4
  go_wp2_with fail
  refine (CL.out _ _ A1.out).mono ?_
  rintro e w2 ⟨rfl, hb⟩
  have B2 := Lib.hid (B1.out.keep hb)
  have L2 := Lib.hid (bT L1.out hb)
  have A2 := Lib.hid (A1.out.keep hb)
  clear hb B1 L1 A1 c0 c1 c2 c3 c4
  obtain ⟨c0, c1, c2, c3, c4⟩ := B2.out.c4
  go_wp2_with fail
  refine (CS.out _ _ A2.out).mono ?_
  rintro e w3 ⟨vs, rfl, hr, hb⟩
  have V3 := Lib.hid (sl64_of hr)
  have L3 := Lib.hid (bT L2.out hb)
  clear hr hb c0 c1 c2 c3 c4 B2 A2 L2 HLs
  obtain ⟨ai, caps, rfl, hs⟩ := V3.out
  obtain ⟨g, rfl, hg, hc⟩ := hs (by omega)
  have HC := Lib.hid hc
  clear hs hc hz V3
  go_wp2_with fail
  go_loopw [7, 8] (fun vb vi wr => ∃ k n : Nat, 1 ≤ k ∧ k ≤ ts.length ∧ vi = .int .i64 k ∧ vb = .int .i64 (wsK ts k) ∧ wr = w3.drewN n) (fun _ vi _ => ts.length - (intOf vi).toNat)
  case atStart => exact ⟨1, 0, Nat.le_refl _, by omega, rfl, by rw [wsK_one]; rfl, rfl⟩
  case round =>
    obtain ⟨k, n, hk1, hk, rfl, rfl, hw⟩ := hrel
    have HW := Lib.hid hw
    have hcw := fun i (hi : i < ts.length) => show wr.cell? ⟨g, i, none⟩ = some (.int .i64 (at0 ts i)) by rw [hw]; exact HC.out i hi
    clear hw
    by_cases hlt : k < ts.length
    · have hj := wsK_lt ts (k := k) (by omega)
      have c1 := hcw k hlt
      have c2 := hcw (wsK ts k) (by omega)
      have b1 := HBD.out k hlt
      have b2 := HBD.out (wsK ts k) (by omega)
      have HU := Lib.hid (wsK_up (ts := ts) (k := k))
      have HV := Lib.hid (wsK_stay (ts := ts) (k := k))
      clear HC HBD hcw
      generalize wsK ts k = j at *
      generalize at0 ts k = x at *
      generalize at0 ts j = y at *
      have CX := Lib.hid (fun W => l02Size_any x W (by omega))
      have CY := Lib.hid (fun W => l02Size_any y W (by omega))
      by_cases hcmp : y.natAbs < x.natAbs
      · have HN := Lib.hid (HU.out hcmp)
        have hci : ((y.natAbs : Nat) : Int) < ((x.natAbs : Nat) : Int) := by omega
        clear HU HV hcmp
        generalize ((x.natAbs : Nat) : Int) = X at *
        generalize ((y.natAbs : Nat) : Int) = Y at *
        go_wp2_with fail
        go_quiet (first | (go_at_call 51; exact quiet_eq (CX.out _)) | (go_at_call 51; exact quiet_eq (CY.out _)))
        go_wp2_with fail
        go_roundw
        case rel => exact ⟨k + 1, _, by omega, by omega, by go_num, by rw [HN.out], by rw [HW.out, World.drewN_drewN]⟩
        case measure => simp [intOf]; omega
      · have HN := Lib.hid (HV.out hcmp)
        have hci : ¬ ((y.natAbs : Nat) : Int) < ((x.natAbs : Nat) : Int) := by omega
        clear HU HV hcmp
        generalize ((x.natAbs : Nat) : Int) = X at *
        generalize ((y.natAbs : Nat) : Int) = Y at *
        go_wp2_with fail
        go_quiet (first | (go_at_call 51; exact quiet_eq (CX.out _)) | (go_at_call 51; exact quiet_eq (CY.out _)))
        go_wp2_with fail
        go_roundw
        case rel => exact ⟨k + 1, _, by omega, by omega, by go_num, by rw [HN.out], by rw [HW.out, World.drewN_drewN]⟩
        case measure => simp [intOf]; omega
    · obtain rfl : k = ts.length := by omega
      go_wp2_with fail
      go_ret2
      exact ⟨rfl, by rw [HW.out]; exact bD L3.out _⟩
end Go.Proofs.Ytgcalgkpaehonaa

/-
  Jumps: both sides.
-/
import Derived.Test.YtmmmbchlkjljaaaRgK
namespace Go.Proofs.Ytmmmbchlkjljaaa
open Go.RowKit

set_option maxRecDepth 100000 in
set_option maxHeartbeats 4000000 in
theorem JumpsOfS_any (ps : List (Int × Int)) (v : Value) (m : Int) (w : World) (ha : SlQ w v ps) (hmax : ps.length ≤ 1000000000000) :
    Calls Try.prog 12 #[v, .int .i64 m] w (SlC (joE ps m).1 (joE ps m).2 w) := by
  have CL := Lib.hid (fun W (h : SlQ W v ps) => l14Ok_any ps v W h hmax)
  have A0 := Lib.hid ha
  obtain ⟨ao, cap, rfl, _, _⟩ := ha
  cases h2 : okRd ps
  · rw [joE_1 h2]
    rw [h2] at CL
    go_enter Try.func12, Try.ntmps12
    go_wp2_with fail
    refine (CL.out _ A0.out).mono ?_
    rintro e w1 ⟨rfl, hb⟩
    go_wp2_with fail
    go_ret2
    exact ⟨_, rfl, World.ownsRow_nil _ _ _ _, hb⟩
  rw [h2] at CL
  cases h3 : inB m 0 200000
  · rw [joE_2 h2 h3]
    go_enter Try.func12, Try.ntmps12
    go_wp2_with fail
    refine (CL.out _ A0.out).mono ?_
    rintro e w1 ⟨rfl, hb⟩
    go_wp2_with fail
    refine (l00In_any _ _ _ _).mono ?_
    rintro e w2 ⟨rfl, rfl⟩
    go_wp2_with fail
    go_ret2
    exact ⟨_, rfl, World.ownsRow_nil _ _ _ _, hb⟩
  rw [joE_0 h2 h3]
  have hm := inB_true.1 h3
  have hln := okRd_len h2
  have HLJ := Lib.hid (fun (i : Nat) => jpK_len (stL ps) m i)
  have HST := Lib.hid (fun i (hi : i + 1 < ps.length) => step_bd h2 hi)
  have HSA := Lib.hid (fun i (hi : i + 1 < ps.length) => stL_at (ps := ps) hi)
  clear h2
  go_enter Try.func12, Try.ntmps12
  go_wp2_with fail
  refine (CL.out _ A0.out).mono ?_
  rintro e w1 ⟨rfl, hb⟩
  have L1 := Lib.hid hb
  obtain ⟨ao1, cap1, e1, _, ha1⟩ := A0.out
  cases e1
  have HA := Lib.hid ha1
  clear hb A0 CL ha1
  have R1 := Lib.hid (own_lower (B' := w.heap.size) (row0 w1 2) L1.out.size)
  have L1b := Lib.hid (bA L1.out (.cells #[] 2))
  go_wp2_with fail
  refine (l00In_any _ _ _ _).mono ?_
  rintro e w2 ⟨rfl, rfl⟩
  go_wp2_with fail
  generalize w1.alloc (.cells #[] 2) = w2 at *
  go_loopw [6, 7] (fun vo vi wr => ∃ t j : Nat, t < j ∧ j ≤ t + 1 ∧ (j ≤ ps.length ∨ j = 1) ∧ vi = .int .i64 j ∧ wr.ownsRow w.heap.size 2 1 vo (jpK (stL ps) m t).length (intC (jpK (stL ps) m t)) ∧ Below w.heap.size w wr) (fun _ vi _ => ps.length - (intOf vi).toNat)
  case atStart => exact ⟨0, 1, by omega, by omega, Or.inr rfl, rfl, R1.out, L1b.out⟩
  case round =>
    obtain ⟨t, j, hm1, hm2, hjl, rfl, hrow, hbel⟩ := hrel
    have RW := Lib.hid hrow
    have BL := Lib.hid hbel
    clear hrow R1 L1b L1
    by_cases hlt : j < ps.length
    · obtain ⟨g, o, rfl, hg, hc⟩ := HA.out (by omega)
      have HC := hc.keep hg hbel
      obtain ⟨c1, c2⟩ := HC j hlt
      obtain ⟨d1, d2⟩ := HC t (by omega)
      have e1 : (j : Int) - 1 = (t : Int) := by omega
      have htl : t < ps.length := by omega
      have w1 : IntKind.i64.wrap ((j : Int) - 1) = (t : Int) := by rw [e1]; exact IntWalk.i64_in _ (by omega)
      have w2 : IntKind.i64.wrap (t : Int) = (t : Int) := IntWalk.i64_in _ (by omega)
      have hj : t + 1 = j := by omega
      have bs := HST.out t (by omega)
      have es := HSA.out t (by omega)
      rw [hj] at bs es
      have ex : (pat (stL ps) t).2 = (pat ps j).2 - (pat ps t).2 := by rw [es]
      have HY := jpK_yes (ss := stL ps) (m := m) (k := t)
      have HN := jpK_no (ss := stL ps) (m := m) (k := t)
      have hjc : (t : Int) + 1 = (j : Int) := by omega
      rw [ex, hj] at HY HN
      rw [hjc] at HY
      have HY := Lib.hid HY
      have HN := Lib.hid HN
      have hol : (jpK (stL ps) m t).length ≤ 60 := by have := HLJ.out t; omega
      have HJ := Lib.hid hj
      have hwr := hbel.size
      clear hc HC HA HST HSA HLJ hbel hj hm1 hm2 es ex hjc
      generalize jpK (stL ps) m t = out at *
      generalize (pat ps j).1 = x at *
      generalize (pat ps j).2 = y at *
      generalize (pat ps t).1 = x0 at *
      generalize (pat ps t).2 = y0 at *
      have w4 : IntKind.i64.wrap (y - y0) = y - y0 := IntWalk.i64_in _ (by omega)
      have CZ := Lib.hid (fun W => l02Size_any (y - y0) W (by omega))
      clear bs
      generalize (((y - y0).natAbs : Nat) : Int) = z at *
      by_cases hc : m ≤ z
      · have HS := Lib.hid (HY.out hc)
        have hcb : decide (m ≤ z) = true := by simpa using hc
        clear HY HN
        go_wp2_with fail
        go_quiet (first | (go_at_call 53; exact quiet_eq (CZ.out _)))
        have RX := Lib.hid (own_keep RW.out (bD (bR wr) nq))
        have BX := Lib.hid (bD BL.out nq)
        have hBX := BX.out.size
        clear RW BL c1 c2 d1 d2 w4 CZ
        generalize World.drewN _ nq = wq at *
        go_wp2_with (at_builtin; refine app64w rfl _ _ rfl _ _ (j : Int) rfl RX.out hBX (by show Value.slice (some ⟨wq.heap.size, 0, none⟩) 1 1 = _; rfl) (by omega) ?_)
        intro v' w5 hown hap
        have R5 := Lib.hid hown
        have B5 := Lib.hid (BX.out.trans (hap.below (fun r e => (own_blk RX.out r e).1) hBX))
        clear hown hap RX BX
        go_wp2_with fail
        go_roundw
        case rel => exact ⟨t + 1, j + 1, by have := HJ.out; omega, by have := HJ.out; omega, Or.inl (by omega), by go_num, by rw [HJ.out, HS.out, List.length_append]; exact R5.out, B5.out⟩
        case measure => simp [intOf]; omega
      · have HS := Lib.hid (HN.out hc)
        have hcb : decide (m ≤ z) = false := by simpa using hc
        clear HY HN
        go_wp2_with fail
        go_quiet (first | (go_at_call 53; exact quiet_eq (CZ.out _)))
        have RX := Lib.hid (own_keep RW.out (bD (bR wr) nq))
        have BX := Lib.hid (bD BL.out nq)
        clear RW BL c1 c2 d1 d2 w4 CZ
        generalize World.drewN _ nq = wq at *
        go_wp2_with fail
        go_roundw
        case rel => exact ⟨t + 1, j + 1, by have := HJ.out; omega, by have := HJ.out; omega, Or.inl (by omega), by go_num, by rw [HJ.out, HS.out]; exact RX.out, BX.out⟩
        case measure => simp [intOf]; omega
    · have ht : t = ps.length - 1 := by omega
      have HE := Lib.hid (show jpK (stL ps) m t = jpK (stL ps) m (ps.length - 1) from by rw [ht])
      clear hm1 hm2 hjl ht HA HST HSA HLJ
      go_wp2_with fail
      go_ret2
      exact ⟨_, rfl, by rw [← HE.out]; exact RW.out, BL.out⟩
set_option maxRecDepth 100000 in
set_option maxHeartbeats 4000000 in
theorem JumpsOfI_any (ps : List (Int × Int)) (v : Value) (m : Int) (w : World) (ha : SlQ w v ps) (hmax : ps.length ≤ 1000000000000) :
    Calls Try.prog 14 #[v, .int .i64 m] w (SlC (joE ps m).1 (joE ps m).2 w) := by
  have CL := Lib.hid (fun W (h : SlQ W v ps) => ValidReadingsI_any ps v W h hmax)
  have A0 := Lib.hid ha
  obtain ⟨ao, cap, rfl, _, _⟩ := ha
  cases h2 : okRd ps
  · rw [joE_1 h2]
    rw [h2] at CL
    go_enter Try.func14, Try.ntmps14
    go_wp2_with fail
    refine (CL.out _ A0.out).mono ?_
    rintro e w1 ⟨rfl, hb⟩
    go_wp2_with fail
    go_ret2
    exact ⟨_, rfl, World.ownsRow_nil _ _ _ _, hb⟩
  rw [h2] at CL
  cases h3 : inB m 0 200000
  · rw [joE_2 h2 h3]
    go_enter Try.func14, Try.ntmps14
    go_wp2_with fail
    refine (CL.out _ A0.out).mono ?_
    rintro e w1 ⟨rfl, hb⟩
    go_wp2_with fail
    refine (isBetween_any _ _ _ _).mono ?_
    rintro e w2 ⟨rfl, rfl⟩
    go_wp2_with fail
    go_ret2
    exact ⟨_, rfl, World.ownsRow_nil _ _ _ _, hb⟩
  rw [joE_0 h2 h3]
  have hm := inB_true.1 h3
  have hln := okRd_len h2
  have HLJ := Lib.hid (fun (i : Nat) => jpK_len (stL ps) m i)
  have HST := Lib.hid (fun i (hi : i < (stL ps).length) => stL_bd h2 hi)
  have CT := Lib.hid (fun W (h : SlQ W (.slice ao ps.length cap) ps) => stepsOf_any ps _ W h h2)
  have hss : (stL ps).length ≤ 60 := by rw [stL_len]; omega
  have HSL := Lib.hid (stL_len ps)
  have wu : IntKind.u64.wrap m = m := by simp only [IntKind.wrap, IntKind.bits, IntKind.signed]; simp; omega
  rw [← HSL.out]
  clear h2 hln
  generalize stL ps = ss at *
  go_enter Try.func14, Try.ntmps14
  go_wp2_with fail
  refine (CL.out _ A0.out).mono ?_
  rintro e w1 ⟨rfl, hb⟩
  have A1 := Lib.hid (A0.out.keep hb)
  have L1 := Lib.hid hb
  clear hb A0 CL
  go_wp2_with fail
  refine (isBetween_any _ _ _ _).mono ?_
  rintro e w2 ⟨rfl, rfl⟩
  go_wp2_with fail
  refine (CT.out _ A1.out).mono ?_
  rintro e w2 ⟨u, rfl, hr, hb⟩
  obtain ⟨ai, caps, rfl, _⟩ := slP_of hr
  have J2 := Lib.hid (show JrR w ai caps ss [] (.slice none 0 0) w2 from ⟨World.ownsRow_nil _ _ _ _, slP_of hr, fun r e => ⟨by simp [Value.ownBlock], (own_blk hr r e).2⟩, bT L1.out hb⟩)
  clear hr hb A1 L1 CT
  go_wp2_with fail
  go_loopw [6, 20] (fun vo vi wr => ∃ k : Nat, k ≤ ss.length ∧ vi = .int .i64 k ∧ JrR w ai caps ss (jpK ss m k) vo wr) (fun _ vi _ => ss.length - (intOf vi).toNat)
  case atStart => exact ⟨0, Nat.zero_le _, rfl, J2.out⟩
  case round =>
    obtain ⟨k, hk, rfl, hj⟩ := hrel
    have JR := Lib.hid hj
    clear hj J2
    by_cases hlt : k < ss.length
    · obtain ⟨ao', cap', e', hcc⟩ := id JR.out.2.1
      obtain ⟨g, ea, hg, hc⟩ := hcc (by omega)
      clear hcc
      cases e'
      subst ea
      obtain ⟨c1, c2⟩ := hc k hlt
      have bs := HST.out k hlt
      have HY := Lib.hid (jpK_yes (ss := ss) (m := m) (k := k))
      have HN := Lib.hid (jpK_no (ss := ss) (m := m) (k := k))
      have hol : (jpK ss m k).length ≤ 60 := by have := HLJ.out k; omega
      clear hc HST HLJ
      generalize jpK ss m k = out at *
      generalize (pat ss k).1 = x at *
      generalize (pat ss k).2 = y at *
      have CZ := Lib.hid (fun W => magnitude_any y W (by omega) (by omega))
      clear bs
      have hz0 : (0 : Int) ≤ ((y.natAbs : Nat) : Int) := by omega
      generalize ((y.natAbs : Nat) : Int) = z at *
      by_cases hcm : m ≤ z
      · have HS := Lib.hid (HY.out hcm)
        clear HY HN
        go_wp2_with fail
        refine (CZ.out _).mono ?_
        rintro e w4 ⟨rfl, hw⟩
        have J4 := JR.out.keep (bA (bR _) (.cells #[.int .i64 x, .int .i64 y] 53))
        rw [hw] at J4
        have J4 := Lib.hid J4
        clear hw c1 c2
        have hB := J4.out.2.2.2.size
        clear JR
        go_wp2_with (at_builtin; refine app64w rfl _ _ rfl _ _ ((k : Int) + 1) rfl J4.out.1 hB (by show Value.slice (some ⟨w4.heap.size, 0, none⟩) 1 1 = _; rfl) (by omega) ?_)
        intro v' w5 hown hap
        have J5 := Lib.hid (J4.out.app (z := (k : Int) + 1) (by rw [List.length_append]; exact hown) hap)
        clear hown hap J4
        go_wp2_with fail
        go_roundw
        case rel => exact ⟨k + 1, by omega, by go_num, by rw [HS.out]; exact J5.out⟩
        case measure => simp [intOf]; omega
      · have HS := Lib.hid (HN.out hcm)
        clear HY HN
        go_wp2_with fail
        refine (CZ.out _).mono ?_
        rintro e w4 ⟨rfl, hw⟩
        have J4 := JR.out.keep (bA (bR _) (.cells #[.int .i64 x, .int .i64 y] 53))
        rw [hw] at J4
        have J4 := Lib.hid J4
        clear hw c1 c2
        clear JR
        go_wp2_with fail
        go_roundw
        case rel => exact ⟨k + 1, by omega, by go_num, by rw [HS.out]; exact J4.out⟩
        case measure => simp [intOf]; omega
    · obtain rfl : k = ss.length := by omega
      go_wp2_with fail
      go_ret2
      exact ⟨_, rfl, JR.out.1, JR.out.2.2.2⟩
end Go.Proofs.Ytmmmbchlkjljaaa

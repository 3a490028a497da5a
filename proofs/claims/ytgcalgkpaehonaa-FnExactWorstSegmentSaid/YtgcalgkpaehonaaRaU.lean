/-
  Drifts, worst segments, best bases: the document's side.
-/
import Derived.Test.YtgcalgkpaehonaaRaT
import Derived.Test.YtgcalgkpaehonaaRaN
import Derived.Test.YtgcalgkpaehonaaApd
namespace Go.Proofs.Ytgcalgkpaehonaa
open Go.RowKit

/-- A rate's box, cell by cell. -/
def RtC5 (b0 : Nat) (w : World) (b l c m : Int) (w' : World) : Prop :=
  w'.cell? ⟨b0, 0, none⟩ = some (.int .i64 b) ∧ w'.cell? ⟨b0, 1, none⟩ = some (.int .i64 l) ∧ w'.cell? ⟨b0, 2, none⟩ = some (.int .i64 c) ∧ w'.cell? ⟨b0, 3, none⟩ = some (.int .i64 m) ∧ Below w.heap.size w w'
theorem RtC5.of {b0 : Nat} {w : World} {b l c m : Int} {w' : World} (h : BoxL w b0 [.int .i64 b, .int .i64 l, .int .i64 c, .int .i64 m]) (hb : Below w.heap.size w w') : RtC5 b0 w b l c m w' := by
  obtain ⟨c0, c1, c2, c3, _⟩ := (h.keep hb).c4
  exact ⟨c0, c1, c2, c3, hb⟩
theorem RtC5.bel {b0 : Nat} {w : World} {b l c m : Int} {w' : World} (h : RtC5 b0 w b l c m w') : Below w.heap.size w w' := h.2.2.2.2
def SlC (ts : List Int) (c : Int) (w : World) (e : Ending) (w' : World) : Prop := ∃ v, e = .returned (.tuple #[v, .int .i64 c]) ∧ w'.ownsRow w.heap.size 2 1 v ts.length (intC ts) ∧ Below w.heap.size w w'
theorem l12Last_any (ts : List Int) (v : Value) (w : World) (ha : Sl64 w v ts) (hmax : ts.length ≤ 1000000000000) :
    Calls Try.prog 44 #[v] w fun e w' => e = .returned (.int .i64 (lastI ts)) ∧ w = w' := by
  obtain ⟨ao, cap, rfl, ha⟩ := ha
  by_cases h : ts.length = 0
  · have hz : ((ts.length : Int) == 0) = true := beq_iff_eq.2 (by omega)
    rw [lastI_0 h]
    clear ha
    go_enter Try.func44, Try.ntmps44
    go_wp2_with fail
    go_ret
    exact ⟨rfl, rfl⟩
  · have hz : ((ts.length : Int) == 0) = false := beq_eq_false_iff_ne.2 (by omega)
    obtain ⟨g, rfl, hg, hc⟩ := ha (by omega)
    have c0 := hc (ts.length - 1) (by omega)
    have HE := Lib.hid (lastI_1 h)
    rw [HE.out]
    have e1 : (ts.length : Int) - 1 = ((ts.length - 1 : Nat) : Int) := by omega
    have hlt : ts.length - 1 < ts.length := by omega
    clear hc HE
    generalize ts.length - 1 = j at *
    go_enter Try.func44, Try.ntmps44
    go_wp2_with fail
    go_ret
    exact ⟨rfl, rfl⟩
set_option maxHeartbeats 1000000 in
theorem l12Hours_any (ps : List (Int × Int)) (v : Value) (w : World) (ha : SlP w v ps) (hp : okSl ps = true) :
    Calls Try.prog 53 #[v] w fun e w' => e = .returned (.int .i64 (smF hrS ps)) ∧ w = w' := by
  obtain ⟨ao, cap, rfl, ha⟩ := ha
  have HA := Lib.hid ha
  have HS := Lib.hid (sumH_bd hp)
  have hlen := (okSl_iff.1 hp).1
  clear ha hp
  go_enter Try.func53, Try.ntmps53
  go_wp2_with fail
  go_loop [3, 4] (fun vs vi => ∃ k : Nat, k ≤ ps.length ∧ vi = .int .i64 k ∧ vs = .int .i64 (smF hrS (ps.take k))) (fun _ vi => ps.length - (intOf vi).toNat)
  case atStart => exact ⟨0, Nat.zero_le _, rfl, by simp [smF]⟩
  case round =>
    obtain ⟨k, hk, rfl, rfl⟩ := hrel
    by_cases hlt : k < ps.length
    · obtain ⟨g, rfl, hg, hc⟩ := HA.out (by omega)
      obtain ⟨c1, c2⟩ := hc k hlt
      have h0 := HS.out k
      have h1 := HS.out (k + 1)
      have HT := Lib.hid (smF_take hrS hlt)
      have hd : hrS (pat ps k) = (pat ps k).1 := rfl
      rw [HT.out, hd] at h1
      rw [hd] at HT
      clear hc HA hd HS
      generalize (pat ps k).1 = x at *
      generalize smF hrS (ps.take k) = s at *
      go_wp2_with fail
      go_round
      case rel => exact ⟨k + 1, by omega, by go_num, by rw [HT.out]⟩
      case measure => simp [intOf]; omega
    · obtain rfl : k = ps.length := by omega
      rw [List.take_of_length_le (Nat.le_refl _)]
      go_wp2_with fail
      go_ret
      exact ⟨rfl, rfl⟩
set_option maxRecDepth 100000 in
set_option maxHeartbeats 4000000 in
theorem DriftSumS_any (b l c m : Int) (ps : List (Int × Int)) (v : Value) (w : World) (ha : SlP w v ps) (hmax : ps.length ≤ 1000000000000) :
    Calls Try.prog 21 #[.agg #[.int .i64 b, .int .i64 l, .int .i64 c, .int .i64 m], v] w (TwoN (dsE b l c m ps).1 (dsE b l c m ps).2 w) := by
  have CO := Lib.hid (fun W => l12Ok_any b l c m W)
  have CL := Lib.hid (fun v W (h : SlP W v ps) => l12List_any ps v W h hmax)
  have B0 := Lib.hid (BoxL.new w [.int .i64 b, .int .i64 l, .int .i64 c, .int .i64 m] 25)
  have L0 := Lib.hid (bA (bR w) (.cells #[.int .i64 b, .int .i64 l, .int .i64 c, .int .i64 m] 25))
  have A0 := Lib.hid (ha.keep (bA (bR w) (.cells #[.int .i64 b, .int .i64 l, .int .i64 c, .int .i64 m] 25)))
  obtain ⟨ao, cap, rfl, _⟩ := ha
  cases h1 : okRt b l c m
  · rw [dsE_1 h1]
    rw [h1] at CO
    go_enter Try.func21, Try.ntmps21
    go_wp2_with fail
    refine (CO.out _).mono ?_
    rintro e w1 ⟨rfl, hb⟩
    have B1 := Lib.hid (B0.out.keep hb)
    have L1 := Lib.hid (bT L0.out hb)
    have A1 := Lib.hid (A0.out.keep hb)
    clear hb B0 L0 A0
    obtain ⟨c0, c1, c2, c3, c4⟩ := B1.out.c4
    go_wp2_with fail
    go_ret2
    exact ⟨rfl, L1.out⟩
  rw [h1] at CO
  cases h2 : okSl ps
  · rw [dsE_2 h2]
    rw [h2] at CL
    go_enter Try.func21, Try.ntmps21
    go_wp2_with fail
    refine (CO.out _).mono ?_
    rintro e w1 ⟨rfl, hb⟩
    have B1 := Lib.hid (B0.out.keep hb)
    have L1 := Lib.hid (bT L0.out hb)
    have A1 := Lib.hid (A0.out.keep hb)
    clear hb B0 L0 A0
    obtain ⟨c0, c1, c2, c3, c4⟩ := B1.out.c4
    go_wp2_with fail
    refine (CL.out _ _ A1.out).mono ?_
    rintro e w2 ⟨rfl, hb⟩
    have B2 := Lib.hid (B1.out.keep hb)
    have L2 := Lib.hid (bT L1.out hb)
    have A2 := Lib.hid (A1.out.keep hb)
    clear hb B1 L1 A1 c0 c1 c2 c3 c4
    obtain ⟨c0, c1, c2, c3, c4⟩ := B2.out.c4
    go_wp2_with fail
    go_ret2
    exact ⟨rfl, L2.out⟩
  rw [h2] at CL
  have hR := rte_of h1
  rw [dsE_0 h1 h2]
  have CS := Lib.hid (fun v W (h : SlP W v ps) => l12Sums_any b l c m ps v W h hR h2)
  have hln := (okSl_iff.1 h2).1
  have HL := Lib.hid (rnK_len (drS b l c m) ps ps.length)
  have HE := Lib.hid (last_rn (drS b l c m) ps)
  clear hR
  go_enter Try.func21, Try.ntmps21
  go_wp2_with fail
  refine (CO.out _).mono ?_
  rintro e w1 ⟨rfl, hb⟩
  have B1 := Lib.hid (B0.out.keep hb)
  have L1 := Lib.hid (bT L0.out hb)
  have A1 := Lib.hid (A0.out.keep hb)
  clear hb B0 L0 A0
  obtain ⟨c0, c1, c2, c3, c4⟩ := B1.out.c4
  go_wp2_with fail
  refine (CL.out _ _ A1.out).mono ?_
  rintro e w2 ⟨rfl, hb⟩
  have B2 := Lib.hid (B1.out.keep hb)
  have L2 := Lib.hid (bT L1.out hb)
  have A2 := Lib.hid (A1.out.keep hb)
  clear hb B1 L1 A1 c0 c1 c2 c3 c4
  obtain ⟨c0, c1, c2, c3, c4⟩ := B2.out.c4
  go_wp2_with fail
  refine (CS.out _ _ A2.out).mono ?_
  rintro e w3 ⟨vs, rfl, hr, hb⟩
  have V3 := Lib.hid (sl64_of hr)
  have L3 := Lib.hid (bT L2.out hb)
  clear hr hb c0 c1 c2 c3 c4 B2 A2 L2
  go_wp2_with fail
  refine (l12Last_any _ vs _ V3.out (by rw [HL.out]; omega)).mono ?_
  rw [HE.out]
  rintro e w4 ⟨rfl, rfl⟩
  go_wp2_with fail
  go_ret2
  exact ⟨rfl, L3.out⟩
set_option maxRecDepth 100000 in
set_option maxHeartbeats 4000000 in
theorem DriftsAfterS_any (b l c m : Int) (ps : List (Int × Int)) (v : Value) (w : World) (ha : SlP w v ps) (hmax : ps.length ≤ 1000000000000) :
    Calls Try.prog 23 #[.agg #[.int .i64 b, .int .i64 l, .int .i64 c, .int .i64 m], v] w (SlC (daL b l c m ps).1 (daL b l c m ps).2 w) := by
  have CO := Lib.hid (fun W => l12Ok_any b l c m W)
  have CL := Lib.hid (fun v W (h : SlP W v ps) => l12List_any ps v W h hmax)
  have B0 := Lib.hid (BoxL.new w [.int .i64 b, .int .i64 l, .int .i64 c, .int .i64 m] 25)
  have L0 := Lib.hid (bA (bR w) (.cells #[.int .i64 b, .int .i64 l, .int .i64 c, .int .i64 m] 25))
  have A0 := Lib.hid (ha.keep (bA (bR w) (.cells #[.int .i64 b, .int .i64 l, .int .i64 c, .int .i64 m] 25)))
  obtain ⟨ao, cap, rfl, _⟩ := ha
  cases h1 : okRt b l c m
  · rw [daL_1 h1]
    rw [h1] at CO
    go_enter Try.func23, Try.ntmps23
    go_wp2_with fail
    refine (CO.out _).mono ?_
    rintro e w1 ⟨rfl, hb⟩
    have B1 := Lib.hid (B0.out.keep hb)
    have L1 := Lib.hid (bT L0.out hb)
    have A1 := Lib.hid (A0.out.keep hb)
    clear hb B0 L0 A0
    obtain ⟨c0, c1, c2, c3, c4⟩ := B1.out.c4
    go_wp2_with fail
    go_ret2
    exact ⟨_, rfl, World.ownsRow_nil _ _ _ _, L1.out⟩
  rw [h1] at CO
  cases h2 : okSl ps
  · rw [daL_2 h2]
    rw [h2] at CL
    go_enter Try.func23, Try.ntmps23
    go_wp2_with fail
    refine (CO.out _).mono ?_
    rintro e w1 ⟨rfl, hb⟩
    have B1 := Lib.hid (B0.out.keep hb)
    have L1 := Lib.hid (bT L0.out hb)
    have A1 := Lib.hid (A0.out.keep hb)
    clear hb B0 L0 A0
    obtain ⟨c0, c1, c2, c3, c4⟩ := B1.out.c4
    go_wp2_with fail
    refine (CL.out _ _ A1.out).mono ?_
    rintro e w2 ⟨rfl, hb⟩
    have B2 := Lib.hid (B1.out.keep hb)
    have L2 := Lib.hid (bT L1.out hb)
    have A2 := Lib.hid (A1.out.keep hb)
    clear hb B1 L1 A1 c0 c1 c2 c3 c4
    obtain ⟨c0, c1, c2, c3, c4⟩ := B2.out.c4
    go_wp2_with fail
    go_ret2
    exact ⟨_, rfl, World.ownsRow_nil _ _ _ _, L2.out⟩
  rw [h2] at CL
  have hR := rte_of h1
  rw [daL_0 h1 h2]
  have CS := Lib.hid (fun v W (h : SlP W v ps) => l12Sums_any b l c m ps v W h hR h2)
  have hln := (okSl_iff.1 h2).1
  have HLs := rnK_len (drS b l c m) ps ps.length
  have HBD := Lib.hid (fun i (hi : i < ps.length) => rn_bd hR h2 hi)
  clear hR
  generalize rnK (drS b l c m) ps ps.length = ts at *
  rw [← HLs] at HBD hln ⊢
  go_enter Try.func23, Try.ntmps23
  go_wp2_with fail
  refine (CO.out _).mono ?_
  rintro e w1 ⟨rfl, hb⟩
  have B1 := Lib.hid (B0.out.keep hb)
  have L1 := Lib.hid (bT L0.out hb)
  have A1 := Lib.hid (A0.out.keep hb)
  clear hb B0 L0 A0
  obtain ⟨c0, c1, c2, c3, c4⟩ := B1.out.c4
  go_wp2_with fail
  refine (CL.out _ _ A1.out).mono ?_
  rintro e w2 ⟨rfl, hb⟩
  have B2 := Lib.hid (B1.out.keep hb)
  have L2 := Lib.hid (bT L1.out hb)
  have A2 := Lib.hid (A1.out.keep hb)
  clear hb B1 L1 A1 c0 c1 c2 c3 c4
  obtain ⟨c0, c1, c2, c3, c4⟩ := B2.out.c4
  have R0 := Lib.hid (row0 w2 2)
  go_wp2_with fail
  refine (CS.out _ _ (A2.out.keep (bA (bR _) _))).mono ?_
  rintro e w3 ⟨vs, rfl, hr, hb⟩
  have V3 := Lib.hid (sl64_of hr)
  have F3 := Lib.hid (fun (r : Nat) (e : vs.ownBlock = some r) => own_blk hr r e)
  have L3 := Lib.hid (bT (bA L2.out _) hb)
  have R3 := Lib.hid (own_keep R0.out hb)
  have hB3 : w2.heap.size ≤ w3.heap.size := Nat.le_trans (by simp) hb.size
  have hlt2 : w.heap.size ≤ w2.heap.size := by omega
  clear hr hb c0 c1 c2 c3 c4 B2 A2 L2 R0 HLs
  have N3 := Lib.hid (show ∀ r, vs.ownBlock = some r → (Value.slice (some ⟨w2.heap.size, 0, none⟩) 0 0).ownBlock ≠ some r ∧ r < w3.heap.size from fun r e => ⟨fun e2 => by have := F3.out r e; simp [Value.ownBlock] at this e2; omega, (F3.out r e).2⟩)
  clear F3
  obtain ⟨ai, caps, rfl, _⟩ := id V3.out
  generalize w2.heap.size = B at *
  go_wp2_with fail
  go_loopw [6, 8] (fun vo vi wr => ∃ k : Nat, k ≤ ts.length ∧ vi = .int .i64 k ∧ wr.ownsRow B 2 1 vo (daK ts k).length (intC (daK ts k)) ∧ Sl64 wr (.slice ai ts.length caps) ts ∧ (∀ r, (Value.slice ai ts.length caps).ownBlock = some r → vo.ownBlock ≠ some r ∧ r < wr.heap.size) ∧ Below w.heap.size w wr ∧ B ≤ wr.heap.size) (fun _ vi _ => ts.length - (intOf vi).toNat)
  case atStart => exact ⟨0, Nat.zero_le _, rfl, R3.out, V3.out, N3.out, L3.out, hB3⟩
  case round =>
    obtain ⟨k, hk, rfl, hrow, hsl, hnb, hbel, hB⟩ := hrel
    have RW := Lib.hid hrow
    have BL := Lib.hid hbel
    have SV := Lib.hid hsl
    have NB := Lib.hid hnb
    clear hrow hbel hsl hnb R3 L3 N3 V3 hB3
    by_cases hlt : k < ts.length
    · obtain ⟨ao', cap', e', hcc⟩ := id SV.out
      obtain ⟨g, ea, hg, hc⟩ := hcc (by omega)
      clear hcc
      cases e'
      subst ea
      have c1 := hc k hlt
      have HD := Lib.hid (daK_succ hlt)
      have HL := Lib.hid (daK_len hk)
      have hbd := HBD.out k hlt
      clear hc HBD
      generalize at0 ts k = s at *
      go_wp2_with fail
      refine (l02Near_any s 24 _ (by omega) (by omega) (by omega) (by omega)).mono ?_
      rintro e w4 ⟨rfl, rfl⟩
      have hll := HL.out
      generalize near s 24 = q at *
      go_wp2_with (at_builtin; refine app64w rfl _ _ rfl _ _ q rfl RW.out hB (by show Value.slice (some ⟨wr.heap.size, 0, none⟩) 1 1 = _; rfl) (by omega) ?_)
      intro v' w5 hown hap
      have RW5 := Lib.hid hown
      have BL5 := Lib.hid (BL.out.trans ((hap.below (fun r e => (own_blk RW.out r e).1) hB).mono hlt2))
      have SV5 := Lib.hid (hap.sl SV.out (fun r e => (NB.out r e).1))
      have hB5 : B ≤ w5.heap.size := Nat.le_trans hB hap.size
      have NB5 := Lib.hid (show ∀ r, (Value.slice (some ⟨g, 0, none⟩) ts.length caps).ownBlock = some r → v'.ownBlock ≠ some r ∧ r < w5.heap.size from fun r e => by
        obtain ⟨n1, n2⟩ := NB.out r e
        refine ⟨fun e2 => ?_, Nat.lt_of_lt_of_le n2 hap.size⟩
        rcases hap.own with e3 | ⟨r', e3, h3⟩
        · exact n1 (e3.symm.trans e2)
        · rw [e3] at e2; cases e2; omega)
      clear hown hap RW BL SV NB
      go_wp2_with fail
      go_roundw
      case rel => exact ⟨k + 1, by omega, by go_num, by rw [HD.out, List.length_append, HL.out]; exact RW5.out, SV5.out, NB5.out, BL5.out, hB5⟩
      case measure => simp [intOf]; omega
    · obtain rfl : k = ts.length := by omega
      have RF := Lib.hid (own_lower (B' := w.heap.size) RW.out hlt2)
      go_wp2_with fail
      go_ret2
      exact ⟨_, rfl, RF.out, BL.out⟩
end Go.Proofs.Ytgcalgkpaehonaa

/-
  The walk of laws.FnTerms.
-/
import Derived.Test.YtldjplopglpgfaaFtm
import Derived.Test.YtldjplopglpgfaaRtM
import Derived.Test.YtldjplopglpgfaaDraw2
import Derived.Test.YtldjplopglpgfaaCmpS
import Derived.Deep.QuietTactic
import Derived.BigQuiet
import Derived.StillTailTactics
namespace Go.Proofs.Ytldjplopglpgfaa
open Go.RowKit

theorem own_cut {W : World} {B : Nat} {v : Value} {ts : List Int} (h : W.ownsRow B 2 1 v ts.length (intC ts)) (h0 : ts.length ≠ 0) :
    ∃ g cap : Nat, v = .slice (some ⟨g, 0, none⟩) ts.length cap ∧ B ≤ g ∧ g < W.heap.size ∧ IntsAt W g ts ∧ ts.length ≤ cap ∧ cap ≤ 9223372036854775807 := by
  rcases h.2 with ⟨rfl, e⟩ | ⟨g, cap, cur, rfl, hB, hh, hl, hm, _⟩
  · exact absurd e h0
  · refine ⟨g, cap, rfl, hB, (Array.getElem?_eq_some_iff.1 hh).1, ?_, by first | exact hl | omega, by unfold maxLen at *; omega⟩
    intro i hi
    rw [h.cellAt i (by simpa using hi)]
    unfold intC at0
    rw [List.getElem?_map, List.getElem?_eq_getElem hi]; rfl
/-- What stands in the region of a round. -/
def QF (w : World) (g o : Nat) (x y : Int) (b : Nat) (n d : Int) (w' : World) : Prop :=
  w'.cell? ⟨g, o, none⟩ = some (.int .i64 x) ∧ w'.cell? ⟨g, o + 1, none⟩ = some (.int .i64 y) ∧ w'.cell? ⟨b, 0, none⟩ = some (.int .i64 n) ∧ w'.cell? ⟨b, 1, none⟩ = some (.int .i64 d) ∧ g < w'.heap.size ∧ b < w'.heap.size ∧ Below w.heap.size w w'
theorem QF.drew {w : World} {g o : Nat} {x y : Int} {b : Nat} {n d : Int} {w' : World} (h : QF w g o x y b n d w') : QF w g o x y b n d w'.drew := ⟨h.1, h.2.1, h.2.2.1, h.2.2.2.1, h.2.2.2.2.1, h.2.2.2.2.2.1, h.2.2.2.2.2.2.drew⟩
theorem QF.keep {w : World} {g o : Nat} {x y : Int} {b : Nat} {n d : Int} {w' w2 : World} (hb : Below w'.heap.size w' w2) (h : QF w g o x y b n d w') : QF w g o x y b n d w2 := by
  obtain ⟨h1, h2, h3, h4, h5, h6, h7⟩ := h
  exact ⟨(hb.cell (p := ⟨g, o, none⟩) h5).trans h1, (hb.cell (p := ⟨g, o + 1, none⟩) h5).trans h2, (hb.cell (p := ⟨b, 0, none⟩) h6).trans h3, (hb.cell (p := ⟨b, 1, none⟩) h6).trans h4, Nat.lt_of_lt_of_le h5 hb.size, Nat.lt_of_lt_of_le h6 hb.size, bT h7 hb⟩
set_option maxRecDepth 100000 in
set_option maxHeartbeats 8000000 in
theorem FnTerms_walk (a : Option Addr) (len cap : Nat) (zs : List Int) (w : World) (h : IsRow .u8 w a len cap zs) :
    Calls Try.prog 3 #[.slice a len cap] w fun e w' => e = .returned (.bool true) ∧ Below w.heap.size w w' := by
  have l1 := (row_of h).1
  unfold maxLen at l1
  have HA := Lib.hid h
  clear h
  by_cases hl : 3000 < len
  · go_enter Try.func3, Try.ntmps3
    go_wp2_with fail
    refine (a2Long_yes _ _ _ _ _ _ _ (by omega) (by omega) (.inl hl)).mono ?_
    rintro e w1 ⟨rfl, rfl⟩
    go_wp2_with fail
    go_ret
    exact ⟨rfl, bR _⟩
  · have hl1 : len ≤ 3000 := by omega
    clear hl
    go_enter Try.func3, Try.ntmps3
    go_wp2_with fail
    refine (a2Long_no _ _ _ _ _ _ _ hl1 (by omega)).mono ?_
    rintro e w0 ⟨rfl, rfl⟩
    go_wp2_with fail
    refine (A2Ratios_any _ a len cap zs HA.out).mono ?_
    rintro e w1 ⟨n, d, p, q, k1, k2, rfl, hb1⟩
    obtain ⟨o1, o2, o3, o4⟩ := okR_bd k1
    have hT0 : (terms n d).length ≠ 0 := by rw [terms_pos o1]; simp
    have hT1 : (terms n d).length ≤ 1000000000 := by have := terms_len n d (by omega) (by omega); omega
    have hTm : (terms n d).length ≤ 1000000000000 := by omega
    have hTB : ∀ u ∈ terms n d, -9223372036854775808 ≤ u ∧ u ≤ 9223372036854775807 := fun u hu => by
      obtain ⟨pre, rest, e⟩ := List.append_of_mem hu
      obtain ⟨b1, b2⟩ := term_bd k1 e
      omega
    obtain ⟨tr1, tr2⟩ := tr_yes k1
    obtain ⟨rt1, rt2, rt3⟩ := rt_terms k1
    have cv1 := cvg_yes k1
    have SD := Lib.hid (fun (i : Nat) (hi : i + 1 < (terms n d).length) => conv_side k1 hi)
    have PL := Lib.hid (pat_last k1)
    have A0 := Lib.hid ((Box2.new w1 n d 25).alloc (.cells #[.int .i64 p, .int .i64 q] 25))
    have L0 := Lib.hid (bA (bA hb1 (.cells #[.int .i64 n, .int .i64 d] 25)) (.cells #[.int .i64 p, .int .i64 q] 25))
    have TI := Lib.hid (fun W => TermsOfI_any n d W)
    have CI := Lib.hid (fun W => ConvergentsOfI_any n d W)
    have RI := Lib.hid (fun W g cap (hg : g < W.heap.size) (hc : IntsAt W g (terms n d)) (h1 : (terms n d).length ≤ cap) (h2 : cap ≤ 9223372036854775807) => RatioOfTermsI_cap (terms n d) g cap W hg hc hTm hTB hT0 h1 h2)
    rw [tr1, tr2] at TI
    rw [cv1, tr2] at CI
    unfold RtRet at RI
    rw [rt1, rt2, rt3] at RI
    have hPL : ((convL (terms n d)).map Prod.snd).length = (terms n d).length := cvg_length _
    have PC := Lib.hid (fun (i : Nat) (hi : i < (terms n d).length) => pat_cvg (ts := terms n d) hi)
    clear k1 k2 hb1 HA tr1 tr2 rt1 rt2 rt3 cv1 hTB l1
    generalize terms n d = ts at *
    generalize hps : (convL ts).map Prod.snd = ps at *
    clear hps
    go_wp2_with fail
    generalize (w1.alloc (.cells #[.int .i64 n, .int .i64 d] 25)).alloc (.cells #[.int .i64 p, .int .i64 q] 25) = W0 at *
    generalize w1.heap.size = ba at *
    obtain ⟨x0, x1, x2, x3, x4⟩ := A0.out
    go_wp2_with fail
    refine (TI.out _).mono ?_
    rintro e w2 ⟨v, rfl, ho, hb⟩
    obtain ⟨g, c, rfl, hBg, hg, hc, hc1, hc2⟩ := own_cut ho hT0
    have A1 := Lib.hid (A0.out.keep hb)
    have L1 := Lib.hid (bT L0.out hb)
    clear hb ho x0 x1 x2 x3 x4 hBg
    go_wp2_with fail
    refine (RI.out _ g c hg hc hc1 hc2).mono ?_
    rintro e w3 ⟨rfl, hb⟩
    have A2 := Lib.hid ((A1.out.keep hb).alloc (.cells #[.int .i64 n, .int .i64 d] 25))
    have B2 := Lib.hid (Box2.new w3 n d 25)
    have L2 := Lib.hid (bA (bT L1.out hb) (.cells #[.int .i64 n, .int .i64 d] 25))
    clear hb hg hc
    obtain ⟨x0, x1, x2, x3, x4⟩ := A2.out
    go_wp2_with fail
    generalize w3.alloc (.cells #[.int .i64 n, .int .i64 d] 25) = W3 at *
    generalize w3.heap.size = b3 at *
    refine (CI.out _).mono ?_
    rintro e w4 ⟨vA, rfl, ho, hb⟩
    obtain ⟨ao, capA, rfl, hao⟩ := slP_of ho
    obtain ⟨gA, rfl, hgA, hPA⟩ := hao (by omega)
    have A3 := Lib.hid (A2.out.keep hb)
    have B3 := Lib.hid (B2.out.keep hb)
    have L3 := Lib.hid (bT L2.out hb)
    have P3 := Lib.hid hPA
    clear hb ho hPA x0 x1 x2 x3 x4
    obtain ⟨m, hm⟩ : ∃ m, ts.length = m + 1 := ⟨ts.length - 1, by omega⟩
    have hL : ps.length = m + 1 := by omega
    obtain ⟨x0, x1, x2, x3, x4⟩ := A3.out
    obtain ⟨y0, y1, y2, y3, y4⟩ := B3.out
    obtain ⟨z0, z1⟩ := P3.out m (by omega)
    rw [hm] at PL
    rw [show m + 1 - 1 = m by omega] at PL
    rw [PL.out] at z0 z1
    simp only [] at z0 z1
    rw [hL, hm]
    have hmb : (m : Int) + 1 ≤ 1000000000 := by omega
    go_wp2_with fail
    have hq1 : (n == n) = true := by simp
    have hq2 : (d == d) = true := by simp
    have hq3 : (n != n) = false := by simp
    have hq4 : (d != d) = false := by simp
    have hq5 : ((m : Int) + 1 != (m : Int) + 1) = false := by simp
    have hq6 : decide ((m : Int) + 1 < 1) = false := by simp; omega
    go_quiet (fail)
    have A4 := Lib.hid (A3.out.drewN nq)
    have L4 := Lib.hid (show Below w.heap.size w (w4.drewN nq) from L3.out.trans ⟨rfl, rfl, rfl, Nat.le_refl _, fun _ _ => rfl⟩)
    have P4 := Lib.hid (show PairsAt (w4.drewN nq) gA ps from fun i hi => P3.out i hi)
    have hgA4 : gA < (w4.drewN nq).heap.size := hgA
    clear A3 B3 P3 L3 x0 x1 x2 x3 x4 y0 y1 y2 y3 y4 z0 z1 hq1 hq2 hq3 hq4 hq5 hq6 hgA PL TI CI RI L0 L1 L2 A0 A1 A2 B2
    generalize w4.drewN nq = W5 at *
    go_wp2_with fail
    go_loopw [11] (fun i wr => ∃ k : Nat, k ≤ m ∧ i = .int .i64 k ∧ Below W5.heap.size W5 wr) (fun i _ => m - (intOf i).toNat)
    case atStart => exact ⟨0, by omega, rfl, bR _⟩
    case round =>
      obtain ⟨k, hk, rfl, hbw⟩ := hrel
      by_cases hlt : k < m
      · obtain ⟨c1, c2⟩ := (P4.out.keep hgA4 hbw) k (by omega)
        have A5 := A4.out.keep hbw
        obtain ⟨d1, d2, _, _, d5⟩ := A5
        rw [PC.out k (by omega)] at c1 c2
        obtain ⟨s1, s2, s3⟩ := SD.out k (by omega)
        have hgw : gA < wr.heap.size := Nat.lt_of_lt_of_le hgA4 hbw.size
        have HBW := Lib.hid hbw
        generalize (stOf (ts.take (k + 1))).2.1 = x at *
        generalize (stOf (ts.take (k + 1))).2.2 = y at *
        have HS : QF W5 gA (k * 2) x y ba n d wr := ⟨c1, c2, d1, d2, hgw, d5, HBW.out⟩
        have hlt2 : (k : Int) + 1 < (m : Int) + 1 := by omega
        have hlt3 : (k : Int) < (m : Int) + 1 := by omega
        clear s1 hbw A4 P4
        go_wp2_with fail
        refine wp_region_still_tail 5 (by kernel_rfl) (by kernel_rfl) ?_
        change wpStill _ _ wr.drew _ _ _
        simp only [List.take_succ_cons, List.take_zero, List.drop_succ_cons, List.drop_zero]
        still_step
        still_step
        still_step
        still_step
        still_step
        refine wpStill_nil ?_
        change wpList _ _ _ _ _ wr.drew
        have HD := Lib.hid HBW.out.drew
        clear HS c1 c2 d1 d2 hgw d5 HBW
        go_wp2_with fail
        refine (CompareRatioS_any _ _ _ _ _).mono ?_
        rintro e w' ⟨rfl, hb⟩
        have HU := Lib.hid (bT HD.out hb)
        clear hb HD
        rcases Nat.mod_two_eq_zero_or_one k with hp | hp
        · rw [s2 hp]
          have hp1 : (k : Int) % 2 = 0 := by omega
          have hp2 : (k : Int).tmod 2 = 0 := by rw [Int.tmod_eq_emod_of_nonneg (by omega)]; omega
          go_wp2_with fail
          exact ⟨⟨k + 1, by omega, by go_num, HU.out⟩, by simp [intOf]; omega⟩
        · rw [s3 hp]
          have hp1 : (k : Int) % 2 = 1 := by omega
          have hp2 : (k : Int).tmod 2 = 1 := by rw [Int.tmod_eq_emod_of_nonneg (by omega)]; omega
          go_wp2_with fail
          exact ⟨⟨k + 1, by omega, by go_num, HU.out⟩, by simp [intOf]; omega⟩
      · go_wp2_with fail
        go_ret
        exact ⟨rfl, bT L4.out hbw⟩
end Go.Proofs.Ytldjplopglpgfaa

/-
  The contract of spec.PowersText.
-/
import Derived.Test.YtcgennkddoajeabDoorPtM
import Derived.Deep.RegionHeld3
namespace Go.Proofs.YtcgennkddoajeabDoor
open Go.RowKit

def PtRel (w : World) (l : List (Int × Int)) (g : Nat) (o i : Value) (wr : World) : Prop :=
  ∃ pre post, l = pre ++ post ∧ i = .int .i64 ((exL pre).length : Int) ∧ o = .string (oW pre) ∧ Below w.heap.size w wr ∧ g < wr.heap.size ∧ IntsAt wr g (exL l)
-- (no second relation)
set_option maxRecDepth 100000 in
set_option maxHeartbeats 8000000 in
theorem PowersTextS_any (n : Int) (w : World) :
    Calls Tryd.prog 4 #[.int .i64 n] w fun e w' => e = .returned (.string (ptB n)) ∧ Below w.heap.size w w' := by
  cases h : inB n 1 1000000000
  · rw [pt_no h]
    go_enter Tryd.func4, Tryd.ntmps4
    go_wp2_with fail
    refine (l04Ask_any _ _).mono ?_
    rw [h]
    rintro e w1 ⟨rfl, rfl⟩
    go_wp2_with fail
    go_ret
    exact ⟨rfl, bR _⟩
  · obtain ⟨h1, h2⟩ := inB_true.1 h
    have HI := Lib.hid h
    by_cases hn1 : n = 1
    · have HR := Lib.hid (pt_one h hn1)
      have HP1 := Lib.hid (show primesL n = [] by rw [hn1, primes_one])
      clear hn1
      clear h
      go_enter Tryd.func4, Tryd.ntmps4
      go_wp2_with fail
      refine (l04Ask_any _ _).mono ?_
      rw [HI.out]
      rintro e w1 ⟨rfl, rfl⟩
      go_wp2_with fail
      refine (l04Primes_any _ _ h1 h2).mono ?_
      rw [HP1.out]
      rintro e w2 ⟨v, rfl, hv, hb⟩
      obtain ⟨ao, cap, rfl, hs⟩ := sl64_of hv
      have HB := Lib.hid hb
      clear hv hb hs
      go_wp2_with fail
      go_ret
      exact ⟨ret_txt HR.out.symm, HB.out⟩
    · have HR := Lib.hid (pt_more h hn1)
      have hne := primes_ne (n := n) (by omega)
      have hpl := primes_len h1
      have hb0 : (((primesL n).length : Int) == 0) = false := by rw [beq_eq_false_iff_ne]; omega
      clear h
      go_enter Tryd.func4, Tryd.ntmps4
      go_wp2_with fail
      refine (l04Ask_any _ _).mono ?_
      rw [HI.out]
      rintro e w1 ⟨rfl, rfl⟩
      go_wp2_with fail
      refine (l04Primes_any _ _ h1 h2).mono ?_
      rintro e w2 ⟨v, rfl, hv, hb⟩
      obtain ⟨ao, cap, rfl, hs⟩ := sl64_of hv
      obtain ⟨g, rfl, hg, hc⟩ := hs (by omega)
      have HB := Lib.hid hb
      have HC := Lib.hid hc
      clear hv hb hs hc
      go_wp2_with fail
      -- LOOP
      go_loopw [4, 5] (fun o i wr => PtRel w (pfL n 2) g o i wr) (fun _ i _ => (primesL n).length - (intOf i).toNat)
      case atStart => exact ⟨[], pfL n 2, rfl, rfl, by rw [oW_nil], HB.out, hg, HC.out⟩
      case round =>
        obtain ⟨pre, post, hl, rfl, rfl, hbw, hgw, hcw⟩ := hrel
        have HBW := Lib.hid hbw
        have HCW := Lib.hid (show IntsAt wr g (primesL n) from hcw)
        have hall := fun x hx => pf_bd _ n 2 (Nat.le_refl _) (by omega) h1 (nd_two n) x hx
        have hasc := pf_asc _ n 2 (Nat.le_refl _) (by omega) h1 (nd_two n)
        have hcnt := pf_count h1 h2
        rw [hl] at hasc hcnt
        rcases post with _ | ⟨⟨q, t⟩, rest⟩
        · have hlen : (exL pre).length = (primesL n).length := by unfold primesL; rw [hl, List.append_nil]
          have HF := Lib.hid (show oW pre = ptB n by rw [HR.out, oW_all, hl, List.append_nil])
          clear hbw hcw hall hasc hcnt hl
          generalize (exL pre).length = i0 at *
          generalize oW pre = o at *
          subst hlen
          go_wp2_with fail
          go_ret
          exact ⟨ret_txt HF.out, HBW.out⟩
        · obtain ⟨q1, q2, t1, t2⟩ := hall (q, t) (by rw [hl]; simp)
          simp only at q1 q2 t1 t2
          obtain ⟨tn, rfl⟩ := Int.eq_ofNat_of_zero_le (show 0 ≤ t by omega)
          have hsz : ∀ x ∈ pre, (wT x).size ≤ 43 := fun x hx => by
            obtain ⟨a1, a2, a3, a4⟩ := hall x (by rw [hl]; simp [hx])
            exact wT_size (by omega) (by omega) a3 (by omega)
          have zo := oW_size hsz
          have zq := decT_size (n := q) (by omega) (by omega)
          have hpc : pre.length ≤ 30 := by simp at hcnt; omega
          have hlen2 : (exL pre).length + tn + (exL rest).length = (primesL n).length := by
            unfold primesL; rw [hl, exL_append]
            simp [exL]; omega
          have hrest : ∀ x ∈ rest, q < x.1 := fun x hx => (List.pairwise_cons.1 (List.pairwise_append.1 hasc).2.1).1 x hx
          have HIN := Lib.hid (show ∀ k, (exL pre).length ≤ k → k < (exL pre).length + tn → wr.cell? ⟨g, k, none⟩ = some (.int .i64 q) from fun k k1 k2 => by
            rw [hcw k (by show k < (primesL n).length; omega)]
            have e := exL_in (pre := pre) (rest := rest) (q := q) (t := (tn : Int)) (j := k - (exL pre).length) (by omega)
            rw [show (exL pre).length + (k - (exL pre).length) = k by omega, ← hl] at e
            unfold at0; rw [e]; rfl)
          have HOUT := Lib.hid (show ∀ k, k = (exL pre).length + tn → k < (primesL n).length → ∃ y, wr.cell? ⟨g, k, none⟩ = some (.int .i64 y) ∧ q < y from fun k k1 k2 => by
            refine ⟨_, hcw k k2, ?_⟩
            have e : (primesL n)[k]? = some (at0 (primesL n) k) := by unfold at0; rw [List.getElem?_eq_getElem k2]; rfl
            refine exL_out (pre := pre) (t := (tn : Int)) hrest ?_
            rw [← hl, Int.toNat_natCast, ← k1]
            exact e)
          by_cases hp : pre = []
          · have hi0 : (exL pre).length < 1 := by rw [hp]; decide
            by_cases ht : 1 < tn
            · have HNX := Lib.hid (show ∀ (W : World) (j : Nat), j = (exL pre).length + tn → Below w.heap.size w W → g < W.heap.size → IntsAt W g (primesL n) → PtRel w (pfL n 2) g (.string ((oW pre ++ decT q) ++ (⟨#[94]⟩ ++ decT ((j : Int) - ((exL pre).length : Int))))) (.int .i64 j) W from fun W j hj x1 x2 x3 => by
                refine ⟨pre ++ [(q, (tn : Int))], rest, by rw [hl]; simp, by rw [hj, exL_lenp]; rfl, ?_, x1, x2, x3⟩
                rw [show ((j : Int) - ((exL pre).length : Int)) = (tn : Int) by omega]
                rw [hp, oW_nil, List.nil_append, ← oW_one, wT_more (q := q) (t := (tn : Int)) (by omega)]
                rw [ByteArray.append_assoc])
              clear hall hasc hcnt hl hsz hrest hbw hcw hp
              generalize (exL pre).length = i0 at *
              generalize oW pre = o at *
              generalize (exL rest).length = r0 at *
              generalize (primesL n).length = L at *
              have b1 : decide (0 < (i0 : Int)) = false := by simp; omega
              have s2 := strAddL o (decT q) (by omega) (by omega)
              have zc2 : (o ++ decT q : ByteArray).size = o.size + (decT q).size := cat_size _ _
              generalize ho2 : o ++ decT q = o2 at *
              clear ho2
              go_wp2_with fail
              go_loopw [6] (fun k wr1 => ∃ (kk m : Nat), i0 ≤ kk ∧ kk ≤ i0 + tn ∧ k = .int .i64 kk ∧ wr1 = wr.drewN m) (fun k _ => i0 + tn - (intOf k).toNat)
              case atStart => exact ⟨i0, 0, Nat.le_refl _, by omega, rfl, rfl⟩
              case round =>
                obtain ⟨kk, m, k1, k2, rfl, rfl⟩ := hrel
                have c2 : wr.cell? ⟨g, i0, none⟩ = some (.int .i64 q) := HIN.out i0 (Nat.le_refl _) (by omega)
                by_cases hin : kk < i0 + tn
                · have c1 : wr.cell? ⟨g, kk, none⟩ = some (.int .i64 q) := HIN.out kk k1 hin
                  have b3 : (q == q) = true := by simp
                  have hlt : kk < L := by omega
                  have b5 : decide ((kk : Int) < (L : Int)) = true := by simp; omega
                  go_wp2_with fail
                  go_quiet (fail)
                  go_wp2_with fail
                  go_roundw
                  case rel => exact ⟨kk + 1, _, by omega, by omega, by go_num, rfl⟩
                  case measure => simp [intOf]; omega
                · have HK := Lib.hid (show kk = i0 + tn by omega)
                  have b4 : decide (1 < (kk : Int) - (i0 : Int)) = true := by simp; omega
                  have zd := decT_size (n := (kk : Int) - (i0 : Int)) (by omega) (by omega)
                  have s3 := strAddL ⟨#[94]⟩ (decT ((kk : Int) - (i0 : Int))) (by decide) (by omega)
                  have s4 := strAddL o2 (⟨#[94]⟩ ++ decT ((kk : Int) - (i0 : Int))) (by omega) (by rw [cat_size]; have : (⟨#[94]⟩ : ByteArray).size = 1 := rfl; omega)
                  have HN := Lib.hid (show ∀ (W : World) (j : Nat), j = kk → Below w.heap.size w W → g < W.heap.size → IntsAt W g (primesL n) → PtRel w (pfL n 2) g (.string (o2 ++ (⟨#[94]⟩ ++ decT ((kk : Int) - (i0 : Int))))) (.int .i64 j) W from fun W j hj x1 x2 x3 => by
                    subst hj
                    exact HNX.out W j HK.out x1 x2 x3)
                  have HW := Lib.hid (fun m : Nat => show Below w.heap.size w (wr.drewN m) ∧ g < (wr.drewN m).heap.size ∧ IntsAt (wr.drewN m) g (primesL n) from ⟨bD HBW.out m, Nat.lt_of_lt_of_le hgw (bD (bR wr) m).size, IntsAt.keep HCW.out hgw (bD (bR wr) m)⟩)
                  have c3 : (wr.drewN m).cell? ⟨g, i0, none⟩ = some (.int .i64 q) := ((bD (bR wr) m).cell (p := ⟨g, i0, none⟩) hgw).trans c2
                  by_cases hkL : kk < L
                  · obtain ⟨y, c1, hy⟩ := HOUT.out kk HK.out hkL
                    have b3 : (y == q) = false := by rw [beq_eq_false_iff_ne]; omega
                    have b5 : decide ((kk : Int) < (L : Int)) = true := by simp; omega
                    go_wp2_with fail
                    go_quiet (fail)
                    go_wp2_with fail
                    refine (l01DecT q _ (by omega) (by omega)).mono ?_
                    rintro e w3 ⟨rfl, hb3⟩
                    have B3 := Lib.hid (bT (HW.out _).1 hb3)
                    have G3 := Lib.hid (Nat.lt_of_lt_of_le (HW.out _).2.1 hb3.size)
                    have C3 := Lib.hid (IntsAt.keep (HW.out _).2.2 (HW.out _).2.1 hb3)
                    clear hb3
                    go_wp2_with fail
                    refine (l01DecT ((kk : Int) - (i0 : Int)) _ (by omega) (by omega)).mono ?_
                    rintro e w4 ⟨rfl, hb4⟩
                    have B4 := Lib.hid (bT B3.out hb4)
                    have G4 := Lib.hid (Nat.lt_of_lt_of_le G3.out hb4.size)
                    have C4 := Lib.hid (IntsAt.keep C3.out G3.out hb4)
                    clear hb4
                    go_wp2_with fail
                    go_roundw
                    case rel => exact HN.out _ _ (by omega) B4.out G4.out C4.out
                    case measure => simp [intOf]; omega
                  · have b5 : decide ((kk : Int) < (L : Int)) = false := by simp; omega
                    go_wp2_with fail
                    go_quiet (fail)
                    go_wp2_with fail
                    refine (l01DecT q _ (by omega) (by omega)).mono ?_
                    rintro e w3 ⟨rfl, hb3⟩
                    have B3 := Lib.hid (bT (HW.out _).1 hb3)
                    have G3 := Lib.hid (Nat.lt_of_lt_of_le (HW.out _).2.1 hb3.size)
                    have C3 := Lib.hid (IntsAt.keep (HW.out _).2.2 (HW.out _).2.1 hb3)
                    clear hb3
                    go_wp2_with fail
                    refine (l01DecT ((kk : Int) - (i0 : Int)) _ (by omega) (by omega)).mono ?_
                    rintro e w4 ⟨rfl, hb4⟩
                    have B4 := Lib.hid (bT B3.out hb4)
                    have G4 := Lib.hid (Nat.lt_of_lt_of_le G3.out hb4.size)
                    have C4 := Lib.hid (IntsAt.keep C3.out G3.out hb4)
                    clear hb4
                    go_wp2_with fail
                    go_roundw
                    case rel => exact HN.out _ _ (by omega) B4.out G4.out C4.out
                    case measure => simp [intOf]; omega
            · have HNX := Lib.hid (show ∀ (W : World) (j : Nat), j = (exL pre).length + tn → Below w.heap.size w W → g < W.heap.size → IntsAt W g (primesL n) → PtRel w (pfL n 2) g (.string (oW pre ++ decT q)) (.int .i64 j) W from fun W j hj x1 x2 x3 => by
                refine ⟨pre ++ [(q, (tn : Int))], rest, by rw [hl]; simp, by rw [hj, exL_lenp]; rfl, ?_, x1, x2, x3⟩
                skip
                rw [hp, oW_nil, List.nil_append, ← oW_one, wT_one (q := q) (t := (tn : Int)) (by omega)]
                skip)
              clear hall hasc hcnt hl hsz hrest hbw hcw hp
              generalize (exL pre).length = i0 at *
              generalize oW pre = o at *
              generalize (exL rest).length = r0 at *
              generalize (primesL n).length = L at *
              have b1 : decide (0 < (i0 : Int)) = false := by simp; omega
              have s2 := strAddL o (decT q) (by omega) (by omega)
              have zc2 : (o ++ decT q : ByteArray).size = o.size + (decT q).size := cat_size _ _
              generalize ho2 : o ++ decT q = o2 at *
              clear ho2
              go_wp2_with fail
              go_loopw [6] (fun k wr1 => ∃ (kk m : Nat), i0 ≤ kk ∧ kk ≤ i0 + tn ∧ k = .int .i64 kk ∧ wr1 = wr.drewN m) (fun k _ => i0 + tn - (intOf k).toNat)
              case atStart => exact ⟨i0, 0, Nat.le_refl _, by omega, rfl, rfl⟩
              case round =>
                obtain ⟨kk, m, k1, k2, rfl, rfl⟩ := hrel
                have c2 : wr.cell? ⟨g, i0, none⟩ = some (.int .i64 q) := HIN.out i0 (Nat.le_refl _) (by omega)
                by_cases hin : kk < i0 + tn
                · have c1 : wr.cell? ⟨g, kk, none⟩ = some (.int .i64 q) := HIN.out kk k1 hin
                  have b3 : (q == q) = true := by simp
                  have hlt : kk < L := by omega
                  have b5 : decide ((kk : Int) < (L : Int)) = true := by simp; omega
                  go_wp2_with fail
                  go_quiet (fail)
                  go_wp2_with fail
                  go_roundw
                  case rel => exact ⟨kk + 1, _, by omega, by omega, by go_num, rfl⟩
                  case measure => simp [intOf]; omega
                · have HK := Lib.hid (show kk = i0 + tn by omega)
                  have b4 : decide (1 < (kk : Int) - (i0 : Int)) = false := by simp; omega
                  have HN := Lib.hid (show ∀ (W : World) (j : Nat), j = kk → Below w.heap.size w W → g < W.heap.size → IntsAt W g (primesL n) → PtRel w (pfL n 2) g (.string (o2)) (.int .i64 j) W from fun W j hj x1 x2 x3 => by
                    subst hj
                    exact HNX.out W j HK.out x1 x2 x3)
                  have HW := Lib.hid (fun m : Nat => show Below w.heap.size w (wr.drewN m) ∧ g < (wr.drewN m).heap.size ∧ IntsAt (wr.drewN m) g (primesL n) from ⟨bD HBW.out m, Nat.lt_of_lt_of_le hgw (bD (bR wr) m).size, IntsAt.keep HCW.out hgw (bD (bR wr) m)⟩)
                  have c3 : (wr.drewN m).cell? ⟨g, i0, none⟩ = some (.int .i64 q) := ((bD (bR wr) m).cell (p := ⟨g, i0, none⟩) hgw).trans c2
                  by_cases hkL : kk < L
                  · obtain ⟨y, c1, hy⟩ := HOUT.out kk HK.out hkL
                    have b3 : (y == q) = false := by rw [beq_eq_false_iff_ne]; omega
                    have b5 : decide ((kk : Int) < (L : Int)) = true := by simp; omega
                    go_wp2_with fail
                    go_quiet (fail)
                    go_wp2_with fail
                    refine (l01DecT q _ (by omega) (by omega)).mono ?_
                    rintro e w3 ⟨rfl, hb3⟩
                    have B3 := Lib.hid (bT (HW.out _).1 hb3)
                    have G3 := Lib.hid (Nat.lt_of_lt_of_le (HW.out _).2.1 hb3.size)
                    have C3 := Lib.hid (IntsAt.keep (HW.out _).2.2 (HW.out _).2.1 hb3)
                    clear hb3
                    go_wp2_with fail
                    go_roundw
                    case rel => exact HN.out _ _ (by omega) B3.out G3.out C3.out
                    case measure => simp [intOf]; omega
                  · have b5 : decide ((kk : Int) < (L : Int)) = false := by simp; omega
                    go_wp2_with fail
                    go_quiet (fail)
                    go_wp2_with fail
                    refine (l01DecT q _ (by omega) (by omega)).mono ?_
                    rintro e w3 ⟨rfl, hb3⟩
                    have B3 := Lib.hid (bT (HW.out _).1 hb3)
                    have G3 := Lib.hid (Nat.lt_of_lt_of_le (HW.out _).2.1 hb3.size)
                    have C3 := Lib.hid (IntsAt.keep (HW.out _).2.2 (HW.out _).2.1 hb3)
                    clear hb3
                    go_wp2_with fail
                    go_roundw
                    case rel => exact HN.out _ _ (by omega) B3.out G3.out C3.out
                    case measure => simp [intOf]; omega
          · have hi0 : 0 < (exL pre).length := by
                rcases pre with _ | ⟨x, pre⟩
                · exact absurd rfl hp
                · have := (hall x (by rw [hl]; simp)).2.2.1
                  simp [exL]; omega
            by_cases ht : 1 < tn
            · have HNX := Lib.hid (show ∀ (W : World) (j : Nat), j = (exL pre).length + tn → Below w.heap.size w W → g < W.heap.size → IntsAt W g (primesL n) → PtRel w (pfL n 2) g (.string (((oW pre ++ ⟨#[32]⟩) ++ decT q) ++ (⟨#[94]⟩ ++ decT ((j : Int) - ((exL pre).length : Int))))) (.int .i64 j) W from fun W j hj x1 x2 x3 => by
                refine ⟨pre ++ [(q, (tn : Int))], rest, by rw [hl]; simp, by rw [hj, exL_lenp]; rfl, ?_, x1, x2, x3⟩
                rw [show ((j : Int) - ((exL pre).length : Int)) = (tn : Int) by omega]
                rw [← oW_snoc _ hp, wT_more (q := q) (t := (tn : Int)) (by omega)]
                rw [ByteArray.append_assoc])
              clear hall hasc hcnt hl hsz hrest hbw hcw hp
              generalize (exL pre).length = i0 at *
              generalize oW pre = o at *
              generalize (exL rest).length = r0 at *
              generalize (primesL n).length = L at *
              have b1 : decide (0 < (i0 : Int)) = true := by simp; omega
              have s1 := strAddL o ⟨#[32]⟩ (by omega) (by decide)
              have zc1 : (o ++ ⟨#[32]⟩ : ByteArray).size = o.size + 1 := by rw [cat_size]; rfl
              generalize ho1 : o ++ ⟨#[32]⟩ = o1 at *
              have s2 := strAddL o1 (decT q) (by omega) (by omega)
              have zc2 : (o1 ++ decT q : ByteArray).size = o1.size + (decT q).size := cat_size _ _
              generalize ho2 : o1 ++ decT q = o2 at *
              clear ho1
              clear ho2
              go_wp2_with fail
              go_loopw [6] (fun k wr1 => ∃ (kk m : Nat), i0 ≤ kk ∧ kk ≤ i0 + tn ∧ k = .int .i64 kk ∧ wr1 = wr.drewN m) (fun k _ => i0 + tn - (intOf k).toNat)
              case atStart => exact ⟨i0, 0, Nat.le_refl _, by omega, rfl, rfl⟩
              case round =>
                obtain ⟨kk, m, k1, k2, rfl, rfl⟩ := hrel
                have c2 : wr.cell? ⟨g, i0, none⟩ = some (.int .i64 q) := HIN.out i0 (Nat.le_refl _) (by omega)
                by_cases hin : kk < i0 + tn
                · have c1 : wr.cell? ⟨g, kk, none⟩ = some (.int .i64 q) := HIN.out kk k1 hin
                  have b3 : (q == q) = true := by simp
                  have hlt : kk < L := by omega
                  have b5 : decide ((kk : Int) < (L : Int)) = true := by simp; omega
                  go_wp2_with fail
                  go_quiet (fail)
                  go_wp2_with fail
                  go_roundw
                  case rel => exact ⟨kk + 1, _, by omega, by omega, by go_num, rfl⟩
                  case measure => simp [intOf]; omega
                · have HK := Lib.hid (show kk = i0 + tn by omega)
                  have b4 : decide (1 < (kk : Int) - (i0 : Int)) = true := by simp; omega
                  have zd := decT_size (n := (kk : Int) - (i0 : Int)) (by omega) (by omega)
                  have s3 := strAddL ⟨#[94]⟩ (decT ((kk : Int) - (i0 : Int))) (by decide) (by omega)
                  have s4 := strAddL o2 (⟨#[94]⟩ ++ decT ((kk : Int) - (i0 : Int))) (by omega) (by rw [cat_size]; have : (⟨#[94]⟩ : ByteArray).size = 1 := rfl; omega)
                  have HN := Lib.hid (show ∀ (W : World) (j : Nat), j = kk → Below w.heap.size w W → g < W.heap.size → IntsAt W g (primesL n) → PtRel w (pfL n 2) g (.string (o2 ++ (⟨#[94]⟩ ++ decT ((kk : Int) - (i0 : Int))))) (.int .i64 j) W from fun W j hj x1 x2 x3 => by
                    subst hj
                    exact HNX.out W j HK.out x1 x2 x3)
                  have HW := Lib.hid (fun m : Nat => show Below w.heap.size w (wr.drewN m) ∧ g < (wr.drewN m).heap.size ∧ IntsAt (wr.drewN m) g (primesL n) from ⟨bD HBW.out m, Nat.lt_of_lt_of_le hgw (bD (bR wr) m).size, IntsAt.keep HCW.out hgw (bD (bR wr) m)⟩)
                  have c3 : (wr.drewN m).cell? ⟨g, i0, none⟩ = some (.int .i64 q) := ((bD (bR wr) m).cell (p := ⟨g, i0, none⟩) hgw).trans c2
                  by_cases hkL : kk < L
                  · obtain ⟨y, c1, hy⟩ := HOUT.out kk HK.out hkL
                    have b3 : (y == q) = false := by rw [beq_eq_false_iff_ne]; omega
                    have b5 : decide ((kk : Int) < (L : Int)) = true := by simp; omega
                    go_wp2_with fail
                    go_quiet (fail)
                    go_wp2_with fail
                    refine (l01DecT q _ (by omega) (by omega)).mono ?_
                    rintro e w3 ⟨rfl, hb3⟩
                    have B3 := Lib.hid (bT (HW.out _).1 hb3)
                    have G3 := Lib.hid (Nat.lt_of_lt_of_le (HW.out _).2.1 hb3.size)
                    have C3 := Lib.hid (IntsAt.keep (HW.out _).2.2 (HW.out _).2.1 hb3)
                    clear hb3
                    go_wp2_with fail
                    refine (l01DecT ((kk : Int) - (i0 : Int)) _ (by omega) (by omega)).mono ?_
                    rintro e w4 ⟨rfl, hb4⟩
                    have B4 := Lib.hid (bT B3.out hb4)
                    have G4 := Lib.hid (Nat.lt_of_lt_of_le G3.out hb4.size)
                    have C4 := Lib.hid (IntsAt.keep C3.out G3.out hb4)
                    clear hb4
                    go_wp2_with fail
                    go_roundw
                    case rel => exact HN.out _ _ (by omega) B4.out G4.out C4.out
                    case measure => simp [intOf]; omega
                  · have b5 : decide ((kk : Int) < (L : Int)) = false := by simp; omega
                    go_wp2_with fail
                    go_quiet (fail)
                    go_wp2_with fail
                    refine (l01DecT q _ (by omega) (by omega)).mono ?_
                    rintro e w3 ⟨rfl, hb3⟩
                    have B3 := Lib.hid (bT (HW.out _).1 hb3)
                    have G3 := Lib.hid (Nat.lt_of_lt_of_le (HW.out _).2.1 hb3.size)
                    have C3 := Lib.hid (IntsAt.keep (HW.out _).2.2 (HW.out _).2.1 hb3)
                    clear hb3
                    go_wp2_with fail
                    refine (l01DecT ((kk : Int) - (i0 : Int)) _ (by omega) (by omega)).mono ?_
                    rintro e w4 ⟨rfl, hb4⟩
                    have B4 := Lib.hid (bT B3.out hb4)
                    have G4 := Lib.hid (Nat.lt_of_lt_of_le G3.out hb4.size)
                    have C4 := Lib.hid (IntsAt.keep C3.out G3.out hb4)
                    clear hb4
                    go_wp2_with fail
                    go_roundw
                    case rel => exact HN.out _ _ (by omega) B4.out G4.out C4.out
                    case measure => simp [intOf]; omega
            · have HNX := Lib.hid (show ∀ (W : World) (j : Nat), j = (exL pre).length + tn → Below w.heap.size w W → g < W.heap.size → IntsAt W g (primesL n) → PtRel w (pfL n 2) g (.string ((oW pre ++ ⟨#[32]⟩) ++ decT q)) (.int .i64 j) W from fun W j hj x1 x2 x3 => by
                refine ⟨pre ++ [(q, (tn : Int))], rest, by rw [hl]; simp, by rw [hj, exL_lenp]; rfl, ?_, x1, x2, x3⟩
                skip
                rw [← oW_snoc _ hp, wT_one (q := q) (t := (tn : Int)) (by omega)]
                skip)
              clear hall hasc hcnt hl hsz hrest hbw hcw hp
              generalize (exL pre).length = i0 at *
              generalize oW pre = o at *
              generalize (exL rest).length = r0 at *
              generalize (primesL n).length = L at *
              have b1 : decide (0 < (i0 : Int)) = true := by simp; omega
              have s1 := strAddL o ⟨#[32]⟩ (by omega) (by decide)
              have zc1 : (o ++ ⟨#[32]⟩ : ByteArray).size = o.size + 1 := by rw [cat_size]; rfl
              generalize ho1 : o ++ ⟨#[32]⟩ = o1 at *
              have s2 := strAddL o1 (decT q) (by omega) (by omega)
              have zc2 : (o1 ++ decT q : ByteArray).size = o1.size + (decT q).size := cat_size _ _
              generalize ho2 : o1 ++ decT q = o2 at *
              clear ho1
              clear ho2
              go_wp2_with fail
              go_loopw [6] (fun k wr1 => ∃ (kk m : Nat), i0 ≤ kk ∧ kk ≤ i0 + tn ∧ k = .int .i64 kk ∧ wr1 = wr.drewN m) (fun k _ => i0 + tn - (intOf k).toNat)
              case atStart => exact ⟨i0, 0, Nat.le_refl _, by omega, rfl, rfl⟩
              case round =>
                obtain ⟨kk, m, k1, k2, rfl, rfl⟩ := hrel
                have c2 : wr.cell? ⟨g, i0, none⟩ = some (.int .i64 q) := HIN.out i0 (Nat.le_refl _) (by omega)
                by_cases hin : kk < i0 + tn
                · have c1 : wr.cell? ⟨g, kk, none⟩ = some (.int .i64 q) := HIN.out kk k1 hin
                  have b3 : (q == q) = true := by simp
                  have hlt : kk < L := by omega
                  have b5 : decide ((kk : Int) < (L : Int)) = true := by simp; omega
                  go_wp2_with fail
                  go_quiet (fail)
                  go_wp2_with fail
                  go_roundw
                  case rel => exact ⟨kk + 1, _, by omega, by omega, by go_num, rfl⟩
                  case measure => simp [intOf]; omega
                · have HK := Lib.hid (show kk = i0 + tn by omega)
                  have b4 : decide (1 < (kk : Int) - (i0 : Int)) = false := by simp; omega
                  have HN := Lib.hid (show ∀ (W : World) (j : Nat), j = kk → Below w.heap.size w W → g < W.heap.size → IntsAt W g (primesL n) → PtRel w (pfL n 2) g (.string (o2)) (.int .i64 j) W from fun W j hj x1 x2 x3 => by
                    subst hj
                    exact HNX.out W j HK.out x1 x2 x3)
                  have HW := Lib.hid (fun m : Nat => show Below w.heap.size w (wr.drewN m) ∧ g < (wr.drewN m).heap.size ∧ IntsAt (wr.drewN m) g (primesL n) from ⟨bD HBW.out m, Nat.lt_of_lt_of_le hgw (bD (bR wr) m).size, IntsAt.keep HCW.out hgw (bD (bR wr) m)⟩)
                  have c3 : (wr.drewN m).cell? ⟨g, i0, none⟩ = some (.int .i64 q) := ((bD (bR wr) m).cell (p := ⟨g, i0, none⟩) hgw).trans c2
                  by_cases hkL : kk < L
                  · obtain ⟨y, c1, hy⟩ := HOUT.out kk HK.out hkL
                    have b3 : (y == q) = false := by rw [beq_eq_false_iff_ne]; omega
                    have b5 : decide ((kk : Int) < (L : Int)) = true := by simp; omega
                    go_wp2_with fail
                    go_quiet (fail)
                    go_wp2_with fail
                    refine (l01DecT q _ (by omega) (by omega)).mono ?_
                    rintro e w3 ⟨rfl, hb3⟩
                    have B3 := Lib.hid (bT (HW.out _).1 hb3)
                    have G3 := Lib.hid (Nat.lt_of_lt_of_le (HW.out _).2.1 hb3.size)
                    have C3 := Lib.hid (IntsAt.keep (HW.out _).2.2 (HW.out _).2.1 hb3)
                    clear hb3
                    go_wp2_with fail
                    go_roundw
                    case rel => exact HN.out _ _ (by omega) B3.out G3.out C3.out
                    case measure => simp [intOf]; omega
                  · have b5 : decide ((kk : Int) < (L : Int)) = false := by simp; omega
                    go_wp2_with fail
                    go_quiet (fail)
                    go_wp2_with fail
                    refine (l01DecT q _ (by omega) (by omega)).mono ?_
                    rintro e w3 ⟨rfl, hb3⟩
                    have B3 := Lib.hid (bT (HW.out _).1 hb3)
                    have G3 := Lib.hid (Nat.lt_of_lt_of_le (HW.out _).2.1 hb3.size)
                    have C3 := Lib.hid (IntsAt.keep (HW.out _).2.2 (HW.out _).2.1 hb3)
                    clear hb3
                    go_wp2_with fail
                    go_roundw
                    case rel => exact HN.out _ _ (by omega) B3.out G3.out C3.out
                    case measure => simp [intOf]; omega
end Go.Proofs.YtcgennkddoajeabDoor

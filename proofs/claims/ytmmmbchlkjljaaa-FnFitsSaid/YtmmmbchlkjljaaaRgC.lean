/-
  Best changes, the document's side.
-/
import Derived.Test.YtmmmbchlkjljaaaRgB
import Derived.Test.YtmmmbchlkjljaaaRgF
namespace Go.Proofs.Ytmmmbchlkjljaaa
open Go.RowKit

theorem yy_cut {ps : List (Int × Int)} (h : bdR ps) (hl : ps.length ≤ 60) (k : Nat) (hk : k ≤ ps.length) : 0 ≤ smF yyS (ps.take k) ∧ smF yyS (ps.take k) ≤ 600000000000 := by
  have := smF_cut (yy_b h) k hk; omega
set_option maxRecDepth 100000 in
set_option maxHeartbeats 4000000 in
theorem l14Spread_any (ps : List (Int × Int)) (v : Value) (w : World) (ha : SlQ w v ps) (h : bdR ps) (hlen : ps.length ≤ 60) :
    Calls Try.prog 61 #[v] w fun e w' => e = .returned (.int .i64 (spN ps)) ∧ ∃ n, w' = w.drewN n := by
  obtain ⟨ao, cap, rfl, _, ha⟩ := ha
  have HA := Lib.hid ha
  have H2 := Lib.hid (of_cut h hlen)
  have H3 := Lib.hid (yy_cut h hlen)
  have HYY := Lib.hid (yy_b h)
  have HOF := Lib.hid (of_b h)
  have hsp := spN_bd h hlen
  have ho := of_all h hlen
  have hy : 0 ≤ smF yyS ps ∧ smF yyS ps ≤ 600000000000 := by have := smF_bd2 (yy_b h); omega
  have p1 := mulB (a := (ps.length : Int)) (b := smF yyS ps) (A := 60) (B := 600000000000) (by omega) (by omega) (by omega) (by omega)
  have p2 := mulB (a := smF ofS ps) (b := smF ofS ps) (A := 6000000) (B := 6000000) (by omega) (by omega) (by omega) (by omega)
  have hspe : spN ps = (ps.length : Int) * smF yyS ps - smF ofS ps * smF ofS ps := rfl
  have HP := Lib.hid (And.intro hsp (And.intro p1 p2))
  rw [hspe] at HP ⊢
  clear ha h hsp ho hy p1 p2 hspe
  go_enter Try.func61, Try.ntmps61
  go_wp2_with fail
  go_loopw [3, 4, 5] (fun vs vq vi wr => ∃ k n : Nat, k ≤ ps.length ∧ vi = .int .i64 k ∧ vs = .int .i64 (smF ofS (ps.take k)) ∧ vq = .int .i64 (smF yyS (ps.take k)) ∧ wr = w.drewN n) (fun _ _ vi _ => ps.length - (intOf vi).toNat)
  case atStart => exact ⟨0, 0, Nat.zero_le _, rfl, by simp [smF], by simp [smF], rfl⟩
  case round =>
    obtain ⟨k, n, hk, rfl, rfl, rfl, hw⟩ := hrel
    have HW := Lib.hid hw
    by_cases hlt : k < ps.length
    · obtain ⟨g, o, rfl, hg, hc⟩ := HA.out (by omega)
      obtain ⟨c1, c2⟩ := (hc.keep hg (show Below w.heap.size w wr from by rw [hw]; exact bD (bR _) n)) k hlt
      have a2 := H2.out k (by omega)
      have a3 := H3.out k (by omega)
      have b2 := H2.out (k + 1) (by omega)
      have b3 := H3.out (k + 1) (by omega)
      have d3 := HYY.out k hlt
      have T2 := Lib.hid (smF_take ofS hlt)
      have T3 := Lib.hid (smF_take yyS hlt)
      rw [T2.out] at b2
      rw [T3.out] at b3
      have q2 : ofS (pat ps k) = (pat ps k).2 := rfl
      have q3 : yyS (pat ps k) = (pat ps k).2 * (pat ps k).2 := rfl
      rw [q2] at b2 T2
      rw [q3] at b3 T3 d3
      clear hc HA H2 H3 HYY HOF HP q2 q3 hw
      generalize (pat ps k).1 = x at *
      generalize (pat ps k).2 = y at *
      generalize smF ofS (ps.take k) = s2 at *
      generalize smF yyS (ps.take k) = s3 at *
      have g1 : IntKind.i64.wrap (y * y) = y * y := IntWalk.i64_in _ (by omega)
      have g2 : IntKind.i64.wrap (s3 + y * y) = s3 + y * y := IntWalk.i64_in _ (by omega)
      go_wp2_with fail
      go_quiet (fail)
      go_wp2_with fail
      go_roundw
      case rel => exact ⟨k + 1, _, by omega, by go_num, by rw [T2.out], by rw [T3.out], by rw [HW.out, World.drewN_drewN]⟩
      case measure => simp [intOf]; omega
    · obtain rfl : k = ps.length := by omega
      rw [List.take_of_length_le (Nat.le_refl _)]
      obtain ⟨h1, h2, h3⟩ := HP.out
      clear HA H2 H3 HYY HOF HP hw
      generalize hg2 : smF ofS ps = s2 at *
      generalize hg3 : smF yyS ps = s3 at *
      have HG := Lib.hid (And.intro hg2 hg3)
      clear hg2 hg3
      go_wp2_with fail
      go_ret
      exact ⟨ret_int (by rw [HG.out.1, HG.out.2]), n, HW.out⟩
theorem SlQ.take {W : World} {g o cap j : Nat} {ps : List (Int × Int)} (h : SlQ W (.slice (some ⟨g, o, none⟩) ps.length cap) ps) (hj : j ≤ ps.length) : SlQ W (.slice (some ⟨g, o, none⟩) j cap) (ps.take j) := by
  obtain ⟨ao, c, e, hc, h1⟩ := h
  cases e
  have hl : (ps.take j).length = j := by rw [List.length_take]; omega
  refine ⟨_, cap, by rw [hl], by omega, fun h0 => ?_⟩
  obtain ⟨g', o', e, hg, hp⟩ := h1 (by omega)
  cases e
  refine ⟨g, o, rfl, hg, fun i hi => ?_⟩
  rw [pat_takeL (by omega)]
  exact hp i (by omega)
theorem SlQ.drop {W : World} {g o cap j : Nat} {ps : List (Int × Int)} (h : SlQ W (.slice (some ⟨g, o, none⟩) ps.length cap) ps) (hj : j < ps.length) : SlQ W (.slice (some ⟨g, o + j * 2, none⟩) (ps.length - j) (cap - j)) (ps.drop j) := by
  obtain ⟨ao, c, e, hc, h1⟩ := h
  cases e
  have hl : (ps.drop j).length = ps.length - j := List.length_drop
  refine ⟨_, cap - j, by rw [hl], by omega, fun h0 => ?_⟩
  obtain ⟨g', o', e, hg, hp⟩ := h1 (by omega)
  cases e
  refine ⟨g, o + j * 2, rfl, hg, fun i hi => ?_⟩
  rw [pat_dropL]
  have := hp (j + i) (by omega)
  rw [show o + j * 2 + i * 2 = o + (j + i) * 2 by omega]
  exact this
theorem quiet_dr {P : Program} {f : FuncId} {args : Array Value} {w : World} {n : Nat} {v : Value}
    (h : Calls P f args (w.drewN n) fun e w' => e = .returned v ∧ ∃ m, w' = (w.drewN n).drewN m) : Calls P f args (w.drewN n) fun e w'' => e = .returned v ∧ ∃ m, w'' = w.drewN m :=
  h.mono fun _ _ ⟨he, m, hm⟩ => ⟨he, n + m, by rw [hm, World.drewN_drewN]⟩
set_option maxRecDepth 100000 in
set_option maxHeartbeats 4000000 in
theorem BestChangeS_any (ps : List (Int × Int)) (v : Value) (w : World) (ha : SlQ w v ps) (hmax : ps.length ≤ 1000000000000) :
    Calls Try.prog 22 #[v] w (TwoN (bcE ps).1 (bcE ps).2 w) := by
  have CL := Lib.hid (fun W (h : SlQ W v ps) => l14Ok_any ps v W h hmax)
  have A0 := Lib.hid ha
  obtain ⟨ao, cap, rfl, hcap, _⟩ := ha
  cases h2 : okRd ps
  · rw [bcE_1 h2]
    rw [h2] at CL
    go_enter Try.func22, Try.ntmps22
    go_wp2_with fail
    refine (CL.out _ A0.out).mono ?_
    rintro e w1 ⟨rfl, hb⟩
    go_wp2_with fail
    go_ret2
    exact ⟨rfl, hb⟩
  rw [h2] at CL
  by_cases h3 : ps.length < 2
  · rw [bcE_6 h2 h3]
    go_enter Try.func22, Try.ntmps22
    go_wp2_with fail
    refine (CL.out _ A0.out).mono ?_
    rintro e w1 ⟨rfl, hb⟩
    go_wp2_with fail
    go_ret2
    exact ⟨rfl, hb⟩
  rw [bcE_0 h2 h3]
  have hln := okRd_len h2
  have HB := Lib.hid (bdR_of h2)
  go_enter Try.func22, Try.ntmps22
  go_wp2_with fail
  refine (CL.out _ A0.out).mono ?_
  rintro e w1 ⟨rfl, hb⟩
  have L1 := Lib.hid hb
  clear hb CL
  go_wp2_with fail
  go_loopw [4, 5, 6, 7] (fun vb vn vd vi wr => ∃ t j : Nat, t < j ∧ j ≤ t + 1 ∧ j ≤ ps.length ∧ vi = .int .i64 j ∧ vb = .int .i64 (cnK ps t : Int) ∧ (cnK ps t = 0 → t = 0) ∧ (¬ cnK ps t = 0 → vn = .int .i64 (cdN ps (cnK ps t)) ∧ vd = .int .i64 (cnD ps (cnK ps t))) ∧ Below w.heap.size w wr) (fun _ _ _ vi _ => ps.length - (intOf vi).toNat)
  case atStart => exact ⟨0, 1, by omega, by omega, by omega, rfl, rfl, fun _ => rfl, fun h => absurd rfl h, L1.out⟩
  case round =>
    obtain ⟨t, j, ht1, ht2, hjl, rfl, rfl, ht0, hbn, hbel⟩ := hrel
    have BL := Lib.hid hbel
    by_cases hlt : j < ps.length
    · have AW := Lib.hid (A0.out.keep hbel)
      obtain ⟨ao1, cap1, e1, hcap1, ha1⟩ := AW.out
      cases e1
      obtain ⟨g, o, rfl, hg, hc⟩ := ha1 (by omega)
      have hj2 : j ≤ cap := by omega
      have hcj : ¬ cap = j := by omega
      have C1 := Lib.hid (fun W v (h : SlQ W v (ps.take j)) => l14Spread_any (ps.take j) v W h (bdR_take HB.out j) (by rw [List.length_take]; omega))
      have C2 := Lib.hid (fun W v (h : SlQ W v (ps.drop j)) => l14Spread_any (ps.drop j) v W h (bdR_drop HB.out j) (by rw [List.length_drop]; omega))
      have Q1 := Lib.hid (fun n => SlQ.take (j := j) (show SlQ (wr.drewN n) (.slice (some ⟨g, o, none⟩) ps.length cap) ps from AW.out.keep (bD (bR _) n)) hjl)
      have Q2 := Lib.hid (fun n => SlQ.drop (j := j) (show SlQ (wr.drewN n) (.slice (some ⟨g, o, none⟩) ps.length cap) ps from AW.out.keep (bD (bR _) n)) hlt)
      obtain ⟨⟨x1, x2⟩, ⟨y1, y2⟩, z1, z2⟩ := cdN_bd HB.out hln hjl
      obtain ⟨d1, d2⟩ := cnD_bd hln hjl
      have hcd : cdN ps j = spN (ps.take j) * ((ps.length : Int) - j) + spN (ps.drop j) * j := rfl
      have hcn : cnD ps j = (j : Int) * ((ps.length : Int) - j) := rfl
      have hfirst := cnK_first (ps := ps) (k := t)
      have hstay := cnK_stay (ps := ps) (k := t)
      have hjt : t + 1 = j := by omega
      rw [hjt] at hfirst hstay
      have hbj := cnK_hi (ps := ps) t
      have HLE := Lib.hid (fun (hb : cnK ps t ≤ ps.length) => cd_less (ps := ps) (j := j) (k := cnK ps t) hjl hb)
      have hbd := cdN_bd HB.out hln (k := cnK ps t) (by omega)
      have hbe := cnD_bd hln (k := cnK ps t) (by omega)
      have HJT := Lib.hid hjt
      have w1 : IntKind.i64.wrap (spN (ps.take j) * ((ps.length : Int) - j)) = spN (ps.take j) * ((ps.length : Int) - j) := IntWalk.i64_in _ (by omega)
      have w2 : IntKind.i64.wrap (spN (ps.drop j) * j) = spN (ps.drop j) * j := IntWalk.i64_in _ (by omega)
      have w3 : IntKind.i64.wrap (spN (ps.take j) * ((ps.length : Int) - j) + spN (ps.drop j) * j) = cdN ps j := IntWalk.i64_in _ (by omega)
      have hcb := hbd.2.2
      clear AW ha1 hc hjt hcd hbd
      generalize spN (ps.take j) = X at *
      generalize spN (ps.drop j) = Y at *
      by_cases hb0 : cnK ps t = 0
      · have hk := Lib.hid (hfirst (Or.inl hb0))
        have hz : ((cnK ps t : Int) == 0) = true := by rw [hb0]; rfl
        clear hfirst hstay ht0 hbn HLE hb0 hbj hbe hcb
        rw [hcn] at d1 d2
        have HCN := Lib.hid hcn
        clear hcn
        generalize hNj : cdN ps j = N at *
        have HN := Lib.hid hNj
        clear hNj
        generalize (cnK ps t : Int) = b0 at *
        go_wp2_with fail
        go_quiet (first | (go_at_call 61; with_reducible exact quiet_dr (C1.out _ (.slice (some ⟨g, o, none⟩) j cap) (Q1.out _))) | (go_at_call 61; with_reducible exact quiet_dr (C2.out _ _ (Q2.out _))))
        have BX := Lib.hid (bD BL.out nq)
        clear BL hbel
        generalize World.drewN _ nq = wq at *
        go_wp2_with fail
        go_roundw
        case rel => exact ⟨t + 1, j + 1, by have := HJT.out; omega, by have := HJT.out; omega, by omega, by go_num, by rw [HJT.out, hk.out], fun h => by rw [HJT.out, hk.out] at h; have := HJT.out; omega, fun _ => by rw [HJT.out, hk.out, HN.out, HCN.out]; exact ⟨rfl, rfl⟩, BX.out⟩
        case measure => simp [intOf]; omega
      · obtain ⟨rfl, rfl⟩ := hbn hb0
        have hz : ((cnK ps t : Int) == 0) = false := by simpa using hb0
        have hle := HLE.out (by omega)
        have HF := Lib.hid (fun h => hfirst (Or.inr h))
        have HS := Lib.hid (fun h => hstay (fun h2 => h2.elim hb0 h))
        have HB0 := Lib.hid hb0
        have p1 := mulB (a := cdN ps j) (b := cnD ps (cnK ps t)) (A := 4320000000000000) (B := 900) z1 z2 (by omega) hbe.2
        have p2 := mulB (a := cdN ps (cnK ps t)) (b := cnD ps j) (A := 4320000000000000) (B := 900) hcb.1 hcb.2 (by omega) d2
        have HCN := Lib.hid hcn
        rw [hcn] at p2 hle d1 d2
        have HBN := Lib.hid (show (cdN ps (cnK ps t), cnD ps (cnK ps t)) = (cdN ps (cnK ps t), cnD ps (cnK ps t)) from rfl)
        have HLT := Lib.hid hle
        clear hfirst hstay ht0 hbn HLE hb0 hbj hbe hcb hcn hle
        by_cases hcmp : cdN ps j * cnD ps (cnK ps t) < cdN ps (cnK ps t) * ((j : Int) * ((ps.length : Int) - j))
        · have hk := Lib.hid (HF.out (HLT.out.1 hcmp))
          have hcb : decide (cdN ps j * cnD ps (cnK ps t) < cdN ps (cnK ps t) * ((j : Int) * ((ps.length : Int) - j))) = true := by simpa using hcmp
          clear HF HS HLT
          generalize cdN ps (cnK ps t) = Nb at *
          generalize cnD ps (cnK ps t) = Db at *
          generalize (cnK ps t : Int) = b0 at *
          generalize hNj : cdN ps j = N at *
          have HN := Lib.hid hNj
          clear hNj
          go_wp2_with fail
          go_quiet (first | (go_at_call 61; with_reducible exact quiet_dr (C1.out _ (.slice (some ⟨g, o, none⟩) j cap) (Q1.out _))) | (go_at_call 61; with_reducible exact quiet_dr (C2.out _ _ (Q2.out _))))
          have BX := Lib.hid (bD BL.out nq)
          clear BL hbel
          generalize World.drewN _ nq = wq at *
          go_wp2_with fail
          go_roundw
          case rel => exact ⟨t + 1, j + 1, by have := HJT.out; omega, by have := HJT.out; omega, by omega, by go_num, by rw [HJT.out, hk.out], fun h => by rw [HJT.out, hk.out] at h; have := HJT.out; omega, fun _ => by rw [HJT.out, hk.out, HN.out, HCN.out]; exact ⟨rfl, rfl⟩, BX.out⟩
          case measure => simp [intOf]; omega
        · have hk := Lib.hid (HS.out (fun h => hcmp (HLT.out.2 h)))
          have hcb : decide (cdN ps j * cnD ps (cnK ps t) < cdN ps (cnK ps t) * ((j : Int) * ((ps.length : Int) - j))) = false := by simpa using hcmp
          clear HF HS HLT
          generalize hNb : cdN ps (cnK ps t) = Nb at *
          generalize hDb : cnD ps (cnK ps t) = Db at *
          generalize hKb : (cnK ps t : Int) = b0 at *
          have HE := Lib.hid (And.intro hNb (And.intro hDb hKb))
          clear hNb hDb hKb
          generalize cdN ps j = N at *
          go_wp2_with fail
          go_quiet (first | (go_at_call 61; with_reducible exact quiet_dr (C1.out _ (.slice (some ⟨g, o, none⟩) j cap) (Q1.out _))) | (go_at_call 61; with_reducible exact quiet_dr (C2.out _ _ (Q2.out _))))
          have BX := Lib.hid (bD BL.out nq)
          clear BL hbel
          generalize World.drewN _ nq = wq at *
          go_wp2_with fail
          go_roundw
          case rel => exact ⟨t + 1, j + 1, by have := HJT.out; omega, by have := HJT.out; omega, by omega, by go_num, by rw [HJT.out, hk.out, HE.out.2.2], fun h => by rw [HJT.out, hk.out] at h; exact absurd h HB0.out, fun _ => by rw [HJT.out, hk.out, HE.out.1, HE.out.2.1]; exact ⟨rfl, rfl⟩, BX.out⟩
          case measure => simp [intOf]; omega
    · have ht : t = ps.length - 1 := by omega
      have HE := Lib.hid (show (cnK ps t : Int) = (cnK ps (ps.length - 1) : Int) from by rw [ht])
      clear ht1 ht2 ht ht0 hbn HB
      go_wp2_with fail
      go_ret2
      exact ⟨congrArg (fun z : Int => Ending.returned (.tuple #[.int .i64 z, .int .i64 0])) HE.out, BL.out⟩
end Go.Proofs.Ytmmmbchlkjljaaa

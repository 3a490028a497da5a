/-
  The day with a number, the program's side: dateOf.
-/
import Derived.Test.YtbkhejideffflaaDtS
import Derived.Test.YtbkhejideffflaaDyI
namespace Go.Proofs.Ytbkhejideffflaa
open Go.RowKit

theorem MpH.setO {W : World} {b : Nat} {ms : List Mo} {i j : Nat} (h : MpH W b ms i j) (p : Addr) (u : Value) (hn : b ≠ p.block) : MpH (W.setCell p u) b ms i j := by
  obtain ⟨es, ck, h1, h2⟩ := h
  exact ⟨es, ck, (Below.heap_setCell W p u b hn).trans h1, h2⟩
theorem bP {pc : Nat} {w x y : World} (e : w.heap.size = pc) (h : Below pc w x) (k : Below x.heap.size x y) : Below pc w y := h.trans (k.mono (e ▸ h.size))
set_option maxRecDepth 100000 in
set_option maxHeartbeats 8000000 in
theorem dateOf_any (c : Cal) (n : Int) (x : Value) (w : World) (h : IsC w x c) (hc : okC c = true) (hin : inB n 0 (cyK c.ms c.rs 10000 - 1) = true) :
    Calls Try.prog 82 #[x, .int .i64 n] w (BelV (dtV c n) w) := by
  have hB := cyK_bd (okC_parts hc).2.2.1 c.rs 10000
  have hin' := inB_true.1 hin
  have ho := (okC_parts hc).2.2.1
  have LC := Lib.hid (fun x W (h : IsC W x c) => cycle_any c x W h hc)
  have LA := Lib.hid (fun (y : Nat) x W (h : IsC W x c) => daysInYear_any c (y : Int) x W h hc (by omega))
  have LK := Lib.hid (fun (y : Nat) (d1 d2 : Int) x W (h : IsC W x c) => kindOf_any c (y : Int) d1 d2 x W h hc (by omega))
  have LM := Lib.hid (fun x W (h : IsC W x c) => monthStarts_any c x W h ho)
  obtain ⟨q, a, d1, d2, d3, d4, d5, d6⟩ := dt_start hc hin'.1
  have HY := Lib.hid (fun (y : Nat) (h : cyK c.ms c.rs y ≤ n) => dt_year ho h hin'.2)
  have HM := Lib.hid (fun (R : Int) (y m : Nat) (h : smD c.ms (lpY c.rs (y : Int)) m ≤ R) (hm : m ≤ c.ms.length) (hn : R < dyY c.ms c.rs (y : Int)) => dt_month (c := c) h hm hn)
  have HB := Lib.hid (fun y : Nat => (cyK_bd ho c.rs y).1)
  have HD := Lib.hid (fun y : Nat => dyY_bd ho c.rs (y : Int))
  have HDM := Lib.hid (fun (m : Nat) (q : Bool) (hm : m < c.ms.length) => dyM_bd ho hm q)
  have HSM := Lib.hid (fun (m : Nat) (q : Bool) (hm : m ≤ c.ms.length) => (smD_bd ho q (k := m) hm).1)
  have HV := Lib.hid (fun (y k : Nat) (r : Int) (h : DtR c n y k r) => dtV_eq ho h)
  have h20 := (okMo_parts ho).2.1
  have CX := Lib.hid (fun (W : World) (b k : Nat) (q : Bool) (hk : k ≤ c.ms.length) (h : MpH W b c.ms c.ms.length 0) => mp_look (x := k) (q := q) h (by omega) (by unfold dnK; omega))
  have t1 : n.tdiv (cyA c) = (q : Int) := by rw [Int.tdiv_eq_ediv_of_nonneg hin'.1]; exact d1
  have t2 : n.tmod (cyA c) = n - cyK c.ms c.rs a := by rw [Int.tmod_eq_emod_of_nonneg hin'.1]; exact d4
  have v1 : IntKind.i64.wrap ((q : Int) * lcA c.rs) = (a : Int) := by rw [d2]; exact IntWalk.i64_in _ (by omega)
  have z0 : ¬ cyA c = 0 := by omega
  have v2 : IntKind.i64.wrap (a : Int) = (a : Int) := IntWalk.i64_in _ (by omega)
  have HN := Lib.hid (show n ≤ 12000000 by omega)
  have HA := Lib.hid d3
  have s1 : IntKind.i64.wrap (q : Int) = (q : Int) := IntWalk.i64_in _ (by have := Int.ediv_le_self (cyA c) hin'.1; omega)
  have s2 : IntKind.i64.wrap (n - cyK c.ms c.rs a) = n - cyK c.ms c.rs a := IntWalk.i64_in _ (by have := HB.out a; omega)
  have s3 : IntKind.i64.wrap n = n := IntWalk.i64_in _ (by omega)
  have g0 := hin'.1
  clear hc ho hB hin' hin d6 d3
  obtain ⟨u, v, rfl, hs, hM, hR⟩ := h
  obtain ⟨a1, n1, rfl, l1, _⟩ := hM.open
  obtain ⟨a2, n2, rfl, l2, _⟩ := hR.open
  have HSZ := Lib.hid hs
  have H0 := Lib.hid ((CaH.new w c a1 n1 a2 n2 33 hM hR).keep (bA (bR (w.alloc (.cells #[.string c.nm, .slice a1 c.ms.length n1, .slice a2 c.rs.length n2, .int .i64 c.wk] 33))) (.cells #[.int .i64 0, .int .i64 0, .int .i64 0] 35)))
  have R0 := Lib.hid (BoxL.at_ (w := w.alloc (.cells #[.string c.nm, .slice a1 c.ms.length n1, .slice a2 c.rs.length n2, .int .i64 c.wk] 33)) (b := w.heap.size + 1) (vs := [.int .i64 0, .int .i64 0, .int .i64 0]) (T := 35) (by simp))
  clear hM hR hs
  obtain ⟨c0, c1, c2, c3, c4, _, _, _⟩ := H0.out
  go_enter Try.func82, Try.ntmps82
  go_wp2_with fail
  generalize (w.alloc (.cells #[.string c.nm, .slice a1 c.ms.length n1, .slice a2 c.rs.length n2, .int .i64 c.wk] 33)).alloc (.cells #[.int .i64 0, .int .i64 0, .int .i64 0] 35) = W0 at *
  generalize hnb : w.heap.size = nb at H0 R0 c0 c1 c2 c3 c4 ⊢
  have HNB := Lib.hid hnb
  clear hnb
  refine (LC.out _ _ (H0.out.isC HSZ.out)).mono ?_
  rintro e w2 ⟨rfl, hb⟩
  have H2 := Lib.hid (H0.out.keep hb)
  have R2 := Lib.hid (R0.out.keep hb)
  clear hb H0 R0 LC c0 c1 c2 c3 c4
  obtain ⟨c0, c1, c2, c3, c4, _, _, _⟩ := H2.out
  generalize cyA c = D at *
  generalize lcA c.rs = YI at *
  go_wp2_with fail
  have R3 := Lib.hid (BoxL.new w2 [.int .i64 (a : Int), .int .i64 1, .int .i64 0] 35)
  have L3 := Lib.hid (bA (bR w2) (.cells #[.int .i64 (a : Int), .int .i64 1, .int .i64 0] 35))
  have q2 := R2.out.lt
  generalize w2.alloc (.cells #[.int .i64 (a : Int), .int .i64 1, .int .i64 0] 35) = W3 at *
  generalize hpc : w2.heap.size = pc at *
  have HPC := Lib.hid hpc
  clear hpc t1 t2 d1 d2 d4 d5 v1 v2 z0 s1 s2 c0 c1 c2 c3 c4
  have KC := Lib.hid (fun (w' : World) (hb : Below pc w2 w') => H2.out.keep (w2 := w') (by rw [HPC.out]; exact hb))
  obtain ⟨c0, c1, c2, c3, c4, _, _, _⟩ := KC.out _ L3.out
  obtain ⟨r0, r1, r2, _⟩ := R3.out.c3
  go_wp2_with fail
  refine (LA.out a _ _ ((KC.out _ L3.out).isC HSZ.out)).mono ?_
  rintro e w3 ⟨rfl, hb⟩
  have L4 := Lib.hid (bP HPC.out L3.out hb)
  have R4 := Lib.hid (R3.out.keep hb)
  clear hb c0 c1 c2 c3 c4 r0 r1 r2 R3 L3
  go_wp2_with fail
  go_loopw [8, 9] (fun i l wr => ∃ (y : Nat), cyK c.ms c.rs y ≤ n ∧ i = .int .i64 (n - cyK c.ms c.rs y) ∧ l = .int .i64 (dyY c.ms c.rs (y : Int)) ∧ BoxL wr pc [.int .i64 (y : Int), .int .i64 1, .int .i64 0] ∧ Below pc w2 wr) (fun i _ _ => (intOf i).toNat)
  case atStart => exact ⟨a, HA.out, rfl, rfl, R4.out, L4.out⟩
  case round =>
    obtain ⟨y, hy, rfl, rfl, hR, hL⟩ := hrel
    have X := Lib.hid hR
    have L := Lib.hid hL
    have hy9 := HY.out y hy
    have hn12 := HN.out
    have b1 := HB.out y
    have b2 := HD.out y
    have HS := Lib.hid (cyK_succ c.ms c.rs y)
    obtain ⟨r0, r1, r2, _⟩ := X.out.c3
    obtain ⟨f0, f1, f2⟩ := X.out.f3q
    clear hR hL R4 L4
    by_cases hlt : dyY c.ms c.rs (y : Int) ≤ n - cyK c.ms c.rs y
    · have C1 := Lib.hid (LA.out (y + 1))
      have b3 := HD.out (y + 1)
      generalize dyY c.ms c.rs (y : Int) = d at *
      generalize cyK c.ms c.rs y = s at *
      have vy : IntKind.i64.wrap ((y : Int) + 1) = (y : Int) + 1 := IntWalk.i64_in _ (by omega)
      have X3 := Lib.hid (BoxL.setQ (i := 0) (v := .int .i64 ((y : Int) + 1)) X.out rfl)
      have L3 := Lib.hid (L.out.setCell (p := ⟨pc, 0, none⟩) (by simp) (.int .i64 ((y : Int) + 1)))
      have ey : ((y + 1 : Nat) : Int) = (y : Int) + 1 := by omega
      rw [ey] at C1
      obtain ⟨c0, c1, c2, c3, c4, _, _, _⟩ := KC.out _ L3.out
      obtain ⟨g3, g1, g2, _⟩ := X3.out.c3
      go_wp2_with fail
      refine (C1.out _ _ ((KC.out _ L3.out).isC HSZ.out)).mono ?_
      rintro e w4 ⟨rfl, hb⟩
      have X4 := Lib.hid (X3.out.keep hb)
      have L4 := Lib.hid (bP HPC.out L3.out hb)
      clear hb c0 c1 c2 c3 c4 g3 g1 g2 r0 r1 r2 f0 f1 f2
      go_wp2_with fail
      go_roundw
      case rel => exact ⟨y + 1, by rw [HS.out]; omega, by rw [HS.out]; go_num, by rw [ey], by have := X4.out; simpa using this, L4.out⟩
      case measure => simp [intOf]; omega
    · have HLT := Lib.hid (show n - cyK c.ms c.rs y < dyY c.ms c.rs (y : Int) by omega)
      have HMy := Lib.hid (fun (m : Nat) (h : smD c.ms (lpY c.rs (y : Int)) m ≤ n - cyK c.ms c.rs y) (hm : m ≤ c.ms.length) => HM.out _ y m h hm HLT.out)
      have HR := Lib.hid (show 0 ≤ n - cyK c.ms c.rs y ∧ n - cyK c.ms c.rs y ≤ 12000000 by omega)
      have LKy := Lib.hid (LK.out y)
      have HVy := Lib.hid (fun (k : Nat) (r : Int) (h1 : k < c.ms.length) (h2 : 0 ≤ r) (h3 : r < dyM (moAt c.ms k) (lpY c.rs (y : Int))) (h4 : n - cyK c.ms c.rs y = smD c.ms (lpY c.rs (y : Int)) k + r) => HV.out y k r ⟨hy9, h1, h2, h3, by omega⟩)
      generalize hdd : dyY c.ms c.rs (y : Int) = d at *
      clear hdd
      generalize lpY c.rs (y : Int) = q' at *
      generalize n - cyK c.ms c.rs y = R at *
      have CXy := Lib.hid (fun (W : World) (b k : Nat) (hk : k ≤ c.ms.length) (h : MpH W b c.ms c.ms.length 0) => CX.out W b k q' hk h)
      clear HV HM LK LA HD HB HA HY HS b1 b2 hy HLT CX
      obtain ⟨c0, c1, c2, c3, c4, _, _, _⟩ := KC.out _ L.out
      go_wp2_with fail
      refine (LM.out _ _ ((KC.out _ L.out).isC HSZ.out)).mono ?_
      rintro e w3 ⟨g, rfl, hg, hmp, hb⟩
      have M1 := Lib.hid hmp
      have X1 := Lib.hid (X.out.keep hb)
      have L1 := Lib.hid (bP HPC.out L.out hb)
      have hgc : ¬ g = pc := by have := X.out.lt; omega
      clear hb c0 c1 c2 c3 c4 r0 r1 r2 f0 f1 f2 X L hmp hg
      go_wp2_with fail
      go_loopw [] (fun wr => ∃ (m : Nat), m ≤ c.ms.length ∧ smD c.ms q' m ≤ R ∧ BoxL wr pc [.int .i64 (y : Int), .int .i64 ((m : Int) + 1), .int .i64 0] ∧ MpH wr g c.ms c.ms.length 0 ∧ Below pc w2 wr) (fun wr => 100 - (intOf ((wr.cell? ⟨pc, 1, none⟩).getD undef)).toNat)
      case atStart => exact ⟨0, by omega, HR.out.1, X1.out, M1.out, L1.out⟩
      case round =>
        obtain ⟨m, hm0, hm1, hR, hM, hL⟩ := hrel
        have X := Lib.hid hR
        have M := Lib.hid hM
        have L := Lib.hid hL
        have hm := HMy.out m hm1 hm0
        have hr12 := HR.out.2
        have hm20 : m < 20 := by omega
        have b1 := HSM.out m q' hm0
        have b2 := HDM.out m q' hm
        have b4 := HSM.out (m + 1) q' (by omega)
        have HS := Lib.hid (smD_succ c.ms q' m)
        have HW := Lib.hid (HVy.out m (R - smD c.ms q' m) hm (by omega))
        have CX1 := Lib.hid (fun (W : World) (b : Nat) (h : MpH W b c.ms c.ms.length 0) => CXy.out W b (m + 1) (by omega) h)
        have CX0 := Lib.hid (fun (W : World) (b : Nat) (h : MpH W b c.ms c.ms.length 0) => CXy.out W b m (by omega) h)
        have em : ((m + 1 : Nat) : Int) = (m : Int) + 1 := by omega
        rw [em] at CX1
        obtain ⟨r0, r1, r2, _⟩ := X.out.c3
        have HC1 := Lib.hid r1
        obtain ⟨f0, f1, f2⟩ := X.out.f3q
        obtain ⟨c0, c1, c2, c3, c4, _, _, _⟩ := KC.out _ L.out
        clear hR hM hL X1 M1 L1 HMy HVy HSM HDM CXy
        go_wp2_with fail
        refine (LKy.out _ _ _ _ ((KC.out _ L.out).isC HSZ.out)).mono ?_
        rintro e w5 ⟨rfl, hb⟩
        have X1 := Lib.hid (X.out.keep hb)
        have M1 := Lib.hid (M.out.keep hb)
        have L1 := Lib.hid (bP HPC.out L.out hb)
        clear hb r0 r1 r2 f0 f1 f2 c0 c1 c2 c3 c4 X M L
        go_wp2_with fail
        refine (next_any2 _ _ _ (by omega) (by omega)).mono ?_
        rintro e w6 ⟨rfl, hb⟩
        have X2 := Lib.hid (X1.out.keep hb)
        have M2 := Lib.hid (M1.out.keep hb)
        have L2 := Lib.hid (bP HPC.out L1.out hb)
        clear hb X1 M1 L1
        have hx := CX1.out _ _ M2.out
        unfold kiV at hx
        obtain ⟨r0, r1, r2, _⟩ := X2.out.c3
        obtain ⟨f0, f1, f2⟩ := X2.out.f3q
        obtain ⟨c0, c1, c2, c3, c4, _, _, _⟩ := KC.out _ L2.out
        by_cases hlt : smD c.ms q' (m + 1) ≤ R
        · have vy : IntKind.i64.wrap ((m : Int) + 1 + 1) = (m : Int) + 1 + 1 := IntWalk.i64_in _ (by omega)
          have X3 := Lib.hid (BoxL.setQ (i := 1) (v := .int .i64 ((m : Int) + 1 + 1)) X2.out rfl)
          have M3 := Lib.hid (M2.out.setO ⟨pc, 1, none⟩ (.int .i64 ((m : Int) + 1 + 1)) hgc)
          have L3 := Lib.hid (L2.out.setCell (p := ⟨pc, 1, none⟩) (by simp) (.int .i64 ((m : Int) + 1 + 1)))
          have HC3 := Lib.hid X3.out.c3.2.1
          go_wp2_with fail
          go_roundw
          case rel => exact ⟨m + 1, hm, hlt, by have := X3.out; rw [em]; simpa using this, M3.out, L3.out⟩
          case measure =>
            rw [HC1.out, HC3.out]
            show 100 - ((m : Int) + 1 + 1).toNat < 100 - ((m : Int) + 1).toNat
            have := hm20
            omega
        · have HE := Lib.hid (HW.out (by rw [HS.out] at hlt; omega) (by omega))
          go_wp2_with fail
          refine (LKy.out _ _ _ _ ((KC.out _ L2.out).isC HSZ.out)).mono ?_
          rintro e w7 ⟨rfl, hb⟩
          have X3 := Lib.hid (X2.out.keep hb)
          have M3 := Lib.hid (M2.out.keep hb)
          have L3 := Lib.hid (bP HPC.out L2.out hb)
          clear hb r0 r1 r2 f0 f1 f2 c0 c1 c2 c3 c4 X2 M2 L2 hx hlt
          have hx := CX0.out _ _ M3.out
          unfold kiV at hx
          generalize dyM (moAt c.ms m) q' = d at *
          generalize smD c.ms q' m = s at *
          obtain ⟨r0, r1, r2, _⟩ := X3.out.c3
          obtain ⟨f0, f1, f2⟩ := X3.out.f3q
          obtain ⟨c0, c1, c2, c3, c4, _, _, _⟩ := KC.out _ L3.out
          have vy : IntKind.i64.wrap (R - s + 1) = R - s + 1 := IntWalk.i64_in _ (by omega)
          have vz : IntKind.i64.wrap (R - s) = R - s := IntWalk.i64_in _ (by omega)
          have X4 := Lib.hid (BoxL.setQ (i := 2) (v := .int .i64 (R - s + 1)) X3.out rfl)
          have L4 := Lib.hid (L3.out.setCell (p := ⟨pc, 2, none⟩) (by simp) (.int .i64 (R - s + 1)))
          have Q4 := Lib.hid (R2.out.keep (w' := w7.setCell ⟨pc, 2, none⟩ (.int .i64 (R - s + 1))) (by rw [HPC.out]; exact L4.out))
          obtain ⟨g4, g1, g2, _⟩ := X4.out.c3
          obtain ⟨e0, e1, e2, _⟩ := Q4.out.c3
          obtain ⟨e3, e4, e5⟩ := Q4.out.f3q
          go_wp2_with fail
          have Q5 := Lib.hid (BoxL.setQ (i := 2) (v := .int .i64 (R - s + 1)) (BoxL.setQ (i := 1) (v := .int .i64 ((m : Int) + 1)) (BoxL.setQ (i := 0) (v := .int .i64 (y : Int)) Q4.out rfl) rfl) rfl)
          have L5 := Lib.hid ((((bT H2.out.bel (show Below w2.heap.size w2 _ from by rw [HPC.out]; exact L4.out)).setCell (p := ⟨nb + 1, 0, none⟩) (by have := HNB.out; simp; omega) (.int .i64 (y : Int))).setCell (p := ⟨nb + 1, 1, none⟩) (by have := HNB.out; simp; omega) (.int .i64 ((m : Int) + 1))).setCell (p := ⟨nb + 1, 2, none⟩) (by have := HNB.out; simp; omega) (.int .i64 (R - s + 1)))
          clear e0 e1 e2 e3 e4 e5 g4 g1 g2 r0 r1 r2 f0 f1 f2
          obtain ⟨r0, r1, r2, _⟩ := Q5.out.c3
          rw [HE.out]
          exact bodyPost_ret (v := .agg #[.int .i64 (y : Int), .int .i64 ((m : Int) + 1), .int .i64 (R - s + 1)]) (by simp [results, Try.results82, r0, r1, r2, go_sem]) rfl ⟨rfl, L5.out⟩
end Go.Proofs.Ytbkhejideffflaa

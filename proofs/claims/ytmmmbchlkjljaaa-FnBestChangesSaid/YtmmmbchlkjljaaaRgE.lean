/-
  Best changes, the program's side.
-/
import Derived.Test.YtmmmbchlkjljaaaRgC
import Derived.Test.YtmmmbchlkjljaaaRgR
import Derived.Deep.AppendLies
import Derived.Deep.RegionLaw
import Derived.Scope
namespace Go.Proofs.Ytmmmbchlkjljaaa
open Go.RowKit

theorem infoChange : (Try.prog.info? 72).map (fun i => (i.zero, i.size, i.bytes)) = some (some (.agg #[.int .i64 0, .int .i64 0]), 2, 16) := by kernel_rfl
/-- The term of a change between two parts. -/
def chN (a b : Ft) : Int := a.y * a.y * b.n + b.y * b.y * a.n
def ChR (a b : Ft) (w : World) (e : Ending) (w' : World) : Prop := e = .returned (.agg #[.int .i64 (chN a b), .int .i64 (a.n * b.n)]) ∧ Below w.heap.size w w'
set_option maxRecDepth 100000 in
set_option maxHeartbeats 4000000 in
theorem changeBetween_any (a b : Ft) (w : World) (ha : -6000000 ≤ a.y ∧ a.y ≤ 6000000) (hb : -6000000 ≤ b.y ∧ b.y ≤ 6000000) (hna : 0 ≤ a.n ∧ a.n ≤ 60) (hnb : 0 ≤ b.n ∧ b.n ≤ 60) :
    Calls Try.prog 85 #[.agg #[.int .i64 a.n, .int .i64 a.x, .int .i64 a.y, .int .i64 a.xx, .int .i64 a.xy], .agg #[.int .i64 b.n, .int .i64 b.x, .int .i64 b.y, .int .i64 b.xx, .int .i64 b.xy]] w (ChR a b w) := by
  have p1 := mulB (a := a.y) (b := a.y) (A := 6000000) (B := 6000000) ha.1 ha.2 ha.1 ha.2
  have p2 := mulB (a := b.y) (b := b.y) (A := 6000000) (B := 6000000) hb.1 hb.2 hb.1 hb.2
  have p3 := mulB (a := a.y * a.y) (b := b.n) (A := 36000000000000) (B := 60) p1.1 p1.2 (by omega) hnb.2
  have p4 := mulB (a := b.y * b.y) (b := a.n) (A := 36000000000000) (B := 60) p2.1 p2.2 (by omega) hna.2
  have p5 := mulB (a := a.n) (b := b.n) (A := 60) (B := 60) (by omega) hna.2 (by omega) hnb.2
  have HN := Lib.hid (show chN a b = a.y * a.y * b.n + b.y * b.y * a.n from rfl)
  have R0 := BoxL.at_ (w := (w.alloc (.cells #[.int .i64 a.n, .int .i64 a.x, .int .i64 a.y, .int .i64 a.xx, .int .i64 a.xy] 41)).alloc (.cells #[.int .i64 b.n, .int .i64 b.x, .int .i64 b.y, .int .i64 b.xx, .int .i64 b.xy] 41)) (b := w.heap.size + 2) (vs := [.int .i64 0, .int .i64 0]) (T := 72) (by simp)
  unfold ChR
  rw [HN.out]
  go_enter Try.func85, Try.ntmps85
  go_wp2_with fail
  exact bodyPost_ret (v := .agg #[.int .i64 (a.y * a.y * b.n + b.y * b.y * a.n), .int .i64 (a.n * b.n)]) (by simp [results, Try.results85, go_sem]) rfl ⟨rfl, by first | exact ((bA (bA (bA (bR _) _) _) _).setCell (p := ⟨_, 0, none⟩) (by show w.heap.size ≤ _; simp; omega) _).setCell (p := ⟨_, 1, none⟩) (by show w.heap.size ≤ _; simp; omega) _ | exact bA (bA (bA (bR _) _) _) _⟩
theorem isBetter_any (a b c d : Int) (w : World) (h1 : -9223372036854775808 ≤ a * d ∧ a * d ≤ 9223372036854775807) (h2 : -9223372036854775808 ≤ c * b ∧ c * b ≤ 9223372036854775807) :
    Calls Try.prog 63 #[.agg #[.int .i64 a, .int .i64 b], .agg #[.int .i64 c, .int .i64 d]] w (BoolBel (decide (c * b < a * d)) w) := by
  go_enter Try.func63, Try.ntmps63
  go_wp2_with fail
  go_ret
  exact ⟨rfl, bA (bA (bR _) _) _⟩
/-- The first k changes. -/
def cnL (ps : List (Int × Int)) (k : Nat) : List (Int × Int) := (List.range k).map fun i => (cnN ps (i + 1), cnD ps (i + 1))
theorem cnL_len (ps : List (Int × Int)) (k : Nat) : (cnL ps k).length = k := by simp [cnL]
theorem cnL_succ (ps : List (Int × Int)) (k : Nat) : cnL ps (k + 1) = cnL ps k ++ [(cnN ps (k + 1), cnD ps (k + 1))] := by simp [cnL, List.range_succ]
theorem cnL_at {ps : List (Int × Int)} {i k : Nat} (h : i < k) : pat (cnL ps k) i = (cnN ps (i + 1), cnD ps (i + 1)) := by
  unfold cnL
  rw [pat, List.getElem?_map, List.getElem?_range h]
  rfl
/-- A row of changes beside a list of readings. -/
def ChS (w : World) (lst : Value) (ps : List (Int × Int)) (out : List (Int × Int)) (vo : Value) (W : World) : Prop :=
  W.ownsRow w.heap.size 72 2 vo out.length (pairC out) ∧ SlQ W lst ps ∧ Below w.heap.size w W
theorem ChS.keep {w : World} {lst : Value} {ps out : List (Int × Int)} {vo : Value} {W x : World} (hb : Below W.heap.size W x) (h : ChS w lst ps out vo W) : ChS w lst ps out vo x := ⟨own_keep h.1 hb, h.2.1.keep hb, bT h.2.2 hb⟩
theorem ch_val {ps : List (Int × Int)} {j : Nat} (h : j ≤ ps.length) : chN (fitL (ps.take j)) (fitL (ps.drop j)) = cnN ps j ∧ (fitL (ps.take j)).n * (fitL (ps.drop j)).n = cnD ps j := by
  have e1 : ((ps.take j).length : Int) = j := by rw [List.length_take]; omega
  have e2 : ((ps.drop j).length : Int) = (ps.length : Int) - j := by rw [List.length_drop]; omega
  unfold chN fitL cnN cnD
  simp only [e1, e2, and_self]
set_option maxRecDepth 100000 in
set_option maxHeartbeats 8000000 in
theorem changesOf_any (ps : List (Int × Int)) (v : Value) (w : World) (ha : SlQ w v ps) (h : bdR ps) (hln : ps.length ≤ 60) :
    Calls Try.prog 62 #[v] w fun e w' => ∃ u, e = .returned u ∧ w'.ownsRow w.heap.size 72 2 u (cnL ps (ps.length - 1)).length (pairC (cnL ps (ps.length - 1))) ∧ Below w.heap.size w w' := by
  obtain ⟨i0, hi, hz0, hz1, hz2⟩ := info_parts infoChange
  have A0 := Lib.hid ha
  obtain ⟨ao, cap, rfl, hcap, _⟩ := ha
  have HB := Lib.hid h
  clear h
  have R0 := Lib.hid (show ChS w (.slice ao ps.length cap) ps [] (.slice none 0 0) w from ⟨World.ownsRow_nil _ _ _ _, A0.out, bR w⟩)
  go_enter Try.func62, Try.ntmps62
  go_wp2_with fail
  go_loopw [3, 4] (fun vo vi wr => ∃ m j : Nat, m < j ∧ j ≤ m + 1 ∧ (j ≤ ps.length ∨ j = 1) ∧ vi = .int .i64 j ∧ ChS w (.slice ao ps.length cap) ps (cnL ps m) vo wr) (fun _ vi _ => ps.length - (intOf vi).toNat)
  case atStart => exact ⟨0, 1, by omega, by omega, Or.inr rfl, rfl, R0.out⟩
  case round =>
    obtain ⟨m, j, hm1, hm2, hjl, rfl, hst⟩ := hrel
    have ST := Lib.hid hst
    have HOB := Lib.hid (own_blk hst.1)
    clear hst R0
    by_cases hlt : j < ps.length
    · obtain ⟨ao1, cap1, e1, hcap1, ha1⟩ := A0.out
      cases e1
      obtain ⟨g, o, rfl, hg, hc⟩ := ha1 (by omega)
      have hj2 : j ≤ cap := by omega
      have hcj : ¬ cap = j := by omega
      have hjl' : j ≤ ps.length := by omega
      have l1 : (ps.take j).length = j := by rw [List.length_take]; omega
      have l2 : (ps.drop j).length = ps.length - j := List.length_drop
      have CF1 := Lib.hid (fun W (h : SlQ W (.slice (some ⟨g, o, none⟩) j cap) (ps.take j)) => fitOf_any (ps.take j) _ W h (bdR_take HB.out j) (by omega))
      have CF2 := Lib.hid (fun W (h : SlQ W (.slice (some ⟨g, o + j * 2, none⟩) (ps.length - j) (cap - j)) (ps.drop j)) => fitOf_any (ps.drop j) _ W h (bdR_drop HB.out j) (by omega))
      have oa := of_all (bdR_take HB.out j) (by omega)
      have ob := of_all (bdR_drop HB.out j) (by omega)
      have CC := Lib.hid (fun W => changeBetween_any (fitL (ps.take j)) (fitL (ps.drop j)) W oa ob (by show 0 ≤ ((ps.take j).length : Int) ∧ ((ps.take j).length : Int) ≤ 60; omega) (by show 0 ≤ ((ps.drop j).length : Int) ∧ ((ps.drop j).length : Int) ≤ 60; omega))
      unfold ChR at CC
      rw [(ch_val hjl').1, (ch_val hjl').2] at CC
      have HT := cnL_succ ps m
      have hj : m + 1 = j := by omega
      rw [hj] at HT
      have HJ := Lib.hid hj
      have HT := Lib.hid HT
      have hol : (cnL ps m).length ≤ 60 := by rw [cnL_len]; omega
      have hwr := ST.out.2.2.size
      have T0d := Lib.hid (ChS.keep (bR wr).drew ST.out)
      clear hg hc ha1 hj hm1 hm2 oa ob l1 l2
      generalize fitL (ps.take j) = fa at *
      generalize fitL (ps.drop j) = fb at *
      generalize cnN ps j = N at *
      generalize cnD ps j = D at *
      generalize cnL ps m = out at *
      go_wp2_with fail
      go_region_law (first
        | (refine step_append_lies _ (by rfl) _ _ 69 (by rfl) w.heap.size 72 i0 (.agg #[.int .i64 0, .int .i64 0]) 2 16 Try.underlying69 hi hz0 hz1 hz2 (by rfl) (by decide) _ out.length (pairC out) (by rfl) (T3.out.1.alloc _) ⟨_, 0, none⟩ 1 1 [.int .i64 N, .int .i64 D] (by rfl) (by rfl) (row_srcR _ _ _ _ _ (by rfl)) (by intro u hu; simp at hu; rcases hu with rfl | rfl <;> rfl) (by omega) (by unfold maxLen; omega) (by omega) (by have := T3.out.2.2.size; simp; omega) _ (by rfl) ?_; intro g' cap' w5 hown5 hg5 hat5 hlt5; have N5 := Lib.hid hown5; have G5 := Lib.hid hg5; clear hown5 hg5 hat5 hlt5)
        | (go_simp; go_at_call 85; refine (CC.out _).mono ?_; rintro e w' ⟨rfl, hb⟩; have T3 := Lib.hid (ChS.keep hb T2.out); clear hb)
        | (go_simp; go_at_call 66; refine (CF2.out _ (SlQ.drop T1.out.2.1 hlt)).mono ?_; rintro e w' ⟨rfl, hb⟩; have T2 := Lib.hid (ChS.keep hb T1.out); clear hb)
        | (go_simp; go_at_call 66; refine (CF1.out _ (SlQ.take T0d.out.2.1 hjl')).mono ?_; rintro e w' ⟨rfl, hb⟩; have T1 := Lib.hid (ChS.keep hb T0d.out); clear hb))
      all_goals go_wp2_with fail
      all_goals exact ⟨⟨m + 1, j + 1, by have := HJ.out; omega, by have := HJ.out; omega, Or.inl (by omega), by go_num, by rw [HJ.out, HT.out, pairC_snoc, List.length_append]; exact N5.out, A0.out.keep (bel_grownR (bA T3.out.2.2 _) G5.out (by have := T3.out.2.2.size; simp; omega) (fun r e => (HOB.out r e).1)), bel_grownR (bA T3.out.2.2 _) G5.out (by have := T3.out.2.2.size; simp; omega) (fun r e => (HOB.out r e).1)⟩, by simp [intOf]; omega⟩
    · have hm : m = ps.length - 1 := by omega
      have HE := Lib.hid (show cnL ps m = cnL ps (ps.length - 1) from by rw [hm])
      clear hm1 hm2 hjl hm HB
      go_wp2_with fail
      go_ret
      exact ⟨_, rfl, by rw [← HE.out]; exact ST.out.1, ST.out.2.2⟩
set_option maxRecDepth 100000 in
set_option maxHeartbeats 8000000 in
theorem BestChangeI_any (ps : List (Int × Int)) (v : Value) (w : World) (ha : SlQ w v ps) (hmax : ps.length ≤ 1000000000000) :
    Calls Try.prog 23 #[v] w (TwoN (bcE ps).1 (bcE ps).2 w) := by
  have CL := Lib.hid (fun W (h : SlQ W v ps) => ValidReadingsI_any ps v W h hmax)
  have A0 := Lib.hid ha
  obtain ⟨ao, cap, rfl, hcap, _⟩ := ha
  cases h2 : okRd ps
  · rw [bcE_1 h2]
    rw [h2] at CL
    go_enter Try.func23, Try.ntmps23
    go_wp2_with fail
    refine wp_scope_straight ?_
    go_wp2_with fail
    refine (CL.out _ A0.out).mono ?_
    rintro e w1 ⟨rfl, hb⟩
    go_wp2_with fail
    go_ret2
    exact ⟨rfl, hb⟩
  rw [h2] at CL
  have hln := okRd_len h2
  have CX := Lib.hid (fun W (h : SlQ W (.slice ao ps.length cap) ps) => changesOf_any ps _ W h (bdR_of h2) hln)
  by_cases h3 : ps.length < 2
  · rw [bcE_6 h2 h3]
    have hq : (cnL ps (ps.length - 1)).length = 0 := by rw [cnL_len]; omega
    have hqe : cnL ps (ps.length - 1) = [] := List.length_eq_zero_iff.1 hq
    rw [hqe] at CX
    clear hq hqe
    go_enter Try.func23, Try.ntmps23
    go_wp2_with fail
    refine wp_scope_straight ?_
    go_wp2_with fail
    refine (CL.out _ A0.out).mono ?_
    rintro e w1 ⟨rfl, hb⟩
    have A1 := Lib.hid (A0.out.keep hb)
    have L1 := Lib.hid hb
    clear hb A0 CL
    go_wp2_with fail
    refine (CX.out _ A1.out).mono ?_
    rintro e w2 ⟨u, rfl, hr, hb⟩
    obtain ⟨au, cu, rfl, _⟩ := slP_of hr
    have L2 := Lib.hid (bT L1.out hb)
    clear hb hr A1 L1 CX
    go_wp2_with fail
    refine wp_label ?_
    go_wp2_with fail
    go_loopw [16] (fun vi wr => vi = .int .i64 0 ∧ wr = w2) (fun _ _ => 0)
    case atStart => exact ⟨rfl, rfl⟩
    case round =>
      obtain ⟨rfl, rfl⟩ := hrel
      go_wp2_with fail
      go_ret2
      exact ⟨rfl, L2.out⟩
  rw [bcE_0 h2 h3]
  have V := Lib.hid (cnK_inv (ps := ps) (k := ps.length - 1) (by omega) (by omega))
  have HAT := Lib.hid (fun i (hi : i < ps.length - 1) => cnL_at (ps := ps) hi)
  have HL := Lib.hid (cnL_len ps (ps.length - 1))
  have HBN := Lib.hid (fun k (hk : k ≤ ps.length) => cnN_bd (bdR_of h2) hln hk)
  have HBD := Lib.hid (fun k (hk : k ≤ ps.length) => cnD_bd (ps := ps) hln hk)
  have hq1 : 1 ≤ ps.length - 1 := by omega
  clear h2
  generalize hbq : cnK ps (ps.length - 1) = b at *
  clear hbq
  have hb0 := V.out.lo
  have hb1 := V.out.hi
  generalize hL : cnL ps (ps.length - 1) = L at *
  clear hL
  go_enter Try.func23, Try.ntmps23
  go_wp2_with fail
  refine wp_scope_straight ?_
  go_wp2_with fail
  refine (CL.out _ A0.out).mono ?_
  rintro e w1 ⟨rfl, hb⟩
  have A1 := Lib.hid (A0.out.keep hb)
  have L1 := Lib.hid hb
  clear hb A0 CL
  go_wp2_with fail
  refine (CX.out _ A1.out).mono ?_
  rintro e w2 ⟨u, rfl, hr, hb⟩
  obtain ⟨au, cu, rfl, hsp⟩ := slP_of hr
  have L2 := Lib.hid (bT L1.out hb)
  have HLL := HL.out
  obtain ⟨g, rfl, hg, hc⟩ := hsp (by omega)
  have HC := Lib.hid hc
  clear hb hr A1 L1 CX hsp hc
  go_wp2_with fail
  refine wp_label ?_
  go_wp2_with fail
  go_loopw [16] (fun vi wr => ∃ i : Nat, i + 1 ≤ b ∧ vi = .int .i64 i ∧ Below w2.heap.size w2 wr) (fun vi _ => b - (intOf vi).toNat)
  case atStart => exact ⟨0, hb0, rfl, bR _⟩
  case round =>
    obtain ⟨i, hi, rfl, hbel⟩ := hrel
    have BL := Lib.hid hbel
    obtain ⟨c1, c2⟩ := (HC.out.keep hg hbel) i (by omega)
    have hil : i < L.length := by omega
    have hpi := HAT.out i (by omega)
    rw [hpi] at c1 c2
    simp only at c1 c2
    have hiq : i < ps.length - 1 := by omega
    have hiq2 : decide (i < ps.length - 1) = true := by simpa using hiq
    have hni := HBN.out (i + 1) (by omega)
    have hdi := HBD.out (i + 1) (by omega)
    have B0 := Lib.hid (BoxL.new wr [.int .i64 (cnN ps (i + 1)), .int .i64 (cnD ps (i + 1))] 72)
    have L0 := Lib.hid (bA BL.out (.cells #[.int .i64 (cnN ps (i + 1)), .int .i64 (cnD ps (i + 1))] 72))
    go_wp2_with fail
    generalize wr.alloc (.cells #[.int .i64 (cnN ps (i + 1)), .int .i64 (cnD ps (i + 1))] 72) = w3 at *
    generalize wr.heap.size = cb at *
    by_cases hib : i + 1 < b
    · go_loopw [23] (fun vj wx => ∃ j : Nat, j + 1 ≤ b ∧ vj = .int .i64 j ∧ BoxL wx cb [.int .i64 (cnN ps (i + 1)), .int .i64 (cnD ps (i + 1))] ∧ Below w2.heap.size w2 wx) (fun vj _ => b - (intOf vj).toNat)
      case atStart => exact ⟨0, hb0, rfl, B0.out, L0.out⟩
      case round =>
        obtain ⟨j, hj, rfl, hbx, hbel⟩ := hrel
        have BX := Lib.hid hbx
        have BJ := Lib.hid hbel
        obtain ⟨d1, d2⟩ := (HC.out.keep hg hbel) j (by omega)
        have hjl : j < L.length := by omega
        have hpj := HAT.out j (by omega)
        rw [hpj] at d1 d2
        simp only at d1 d2
        have hnj := HBN.out (j + 1) (by omega)
        have hdj := HBD.out (j + 1) (by omega)
        have m1 := mulB (a := cnN ps (j + 1)) (b := cnD ps (i + 1)) (A := 2160000000000000) (B := 900) (by omega) hnj.2 (by omega) hdi.2
        have m2 := mulB (a := cnN ps (i + 1)) (b := cnD ps (j + 1)) (A := 2160000000000000) (B := 900) (by omega) hni.2 (by omega) hdj.2
        have CI := Lib.hid (fun W => isBetter_any (cnN ps (j + 1)) (cnD ps (j + 1)) (cnN ps (i + 1)) (cnD ps (i + 1)) W (by omega) (by omega))
        have HALL := Lib.hid (V.out.all (i + 1) (by omega) hib)
        have HDEF := Lib.hid (show cnB ps (j + 1) (i + 1) ↔ cnN ps (i + 1) * cnD ps (j + 1) < cnN ps (j + 1) * cnD ps (i + 1) from Iff.rfl)
        obtain ⟨e1, e2, e3⟩ := hbx.c2
        clear hbx B0 L0 m1 m2 hnj hdj hpj
        by_cases hc : cnN ps (i + 1) * cnD ps (j + 1) < cnN ps (j + 1) * cnD ps (i + 1)
        · have hcb : decide (cnN ps (i + 1) * cnD ps (j + 1) < cnN ps (j + 1) * cnD ps (i + 1)) = true := by simpa using hc
          rw [hcb] at CI
          clear HALL HDEF hc hcb
          generalize cnN ps (i + 1) = Ni at *
          generalize cnD ps (i + 1) = Di at *
          generalize cnN ps (j + 1) = Nj at *
          generalize cnD ps (j + 1) = Dj at *
          obtain ⟨f1, f2, f3⟩ := (BX.out.alloc (.cells #[.int .i64 Nj, .int .i64 Dj] 72)).c2
          go_wp2_with fail
          refine (CI.out _).mono ?_
          rintro e w4 ⟨rfl, hb⟩
          have B4 := Lib.hid (bT (bA BJ.out (.cells #[.int .i64 Nj, .int .i64 Dj] 72)) hb)
          clear hb
          go_wp2_with fail
          go_roundw
          case rel => exact ⟨i + 1, by omega, by go_num, B4.out⟩
          case measure => simp [intOf]; omega
        · have hcb : decide (cnN ps (i + 1) * cnD ps (j + 1) < cnN ps (j + 1) * cnD ps (i + 1)) = false := by simpa using hc
          rw [hcb] at CI
          have hjb : j + 1 ≠ b := fun h => hc (HDEF.out.1 (by rw [h]; exact HALL.out))
          clear HALL HDEF hc hcb
          generalize cnN ps (i + 1) = Ni at *
          generalize cnD ps (i + 1) = Di at *
          generalize cnN ps (j + 1) = Nj at *
          generalize cnD ps (j + 1) = Dj at *
          obtain ⟨f1, f2, f3⟩ := (BX.out.alloc (.cells #[.int .i64 Nj, .int .i64 Dj] 72)).c2
          have B3 := Lib.hid (BX.out.alloc (.cells #[.int .i64 Nj, .int .i64 Dj] 72))
          go_wp2_with fail
          refine (CI.out _).mono ?_
          rintro e w4 ⟨rfl, hb⟩
          have B4 := Lib.hid (bT (bA BJ.out (.cells #[.int .i64 Nj, .int .i64 Dj] 72)) hb)
          have X4 := Lib.hid (B3.out.keep hb)
          clear hb
          go_wp2_with fail
          go_roundw
          case rel => exact ⟨j + 1, by omega, by go_num, X4.out, B4.out⟩
          case measure => simp [intOf]; omega
    · have hie : i + 1 = b := by omega
      go_loopw [23] (fun vj wx => ∃ j : Nat, j ≤ ps.length - 1 ∧ vj = .int .i64 j ∧ BoxL wx cb [.int .i64 (cnN ps (i + 1)), .int .i64 (cnD ps (i + 1))] ∧ Below w2.heap.size w2 wx) (fun vj _ => ps.length - 1 - (intOf vj).toNat)
      case atStart => exact ⟨0, by omega, rfl, B0.out, L0.out⟩
      case round =>
        obtain ⟨j, hj, rfl, hbx, hbel⟩ := hrel
        have BX := Lib.hid hbx
        have BJ := Lib.hid hbel
        by_cases hlt : j < ps.length - 1
        · obtain ⟨d1, d2⟩ := (HC.out.keep hg hbel) j (by omega)
          have hjl : j < L.length := by omega
          have hpj := HAT.out j (by omega)
          rw [hpj] at d1 d2
          simp only at d1 d2
          have hnj := HBN.out (j + 1) (by omega)
          have hdj := HBD.out (j + 1) (by omega)
          have m1 := mulB (a := cnN ps (j + 1)) (b := cnD ps (i + 1)) (A := 2160000000000000) (B := 900) (by omega) hnj.2 (by omega) hdi.2
          have m2 := mulB (a := cnN ps (i + 1)) (b := cnD ps (j + 1)) (A := 2160000000000000) (B := 900) (by omega) hni.2 (by omega) hdj.2
          have CI := Lib.hid (fun W => isBetter_any (cnN ps (j + 1)) (cnD ps (j + 1)) (cnN ps (i + 1)) (cnD ps (i + 1)) W (by omega) (by omega))
          have hnone := V.out.none (j + 1) (by omega) (by omega)
          rw [← hie] at hnone
          have hc : ¬ cnN ps (i + 1) * cnD ps (j + 1) < cnN ps (j + 1) * cnD ps (i + 1) := hnone
          have hcb : decide (cnN ps (i + 1) * cnD ps (j + 1) < cnN ps (j + 1) * cnD ps (i + 1)) = false := by simpa using hc
          rw [hcb] at CI
          obtain ⟨e1, e2, e3⟩ := hbx.c2
          clear hbx B0 L0 m1 m2 hnj hdj hpj hnone hc hcb
          have HIE := Lib.hid hie
          clear hie hib
          generalize cnN ps (i + 1) = Ni at *
          generalize cnD ps (i + 1) = Di at *
          generalize cnN ps (j + 1) = Nj at *
          generalize cnD ps (j + 1) = Dj at *
          obtain ⟨f1, f2, f3⟩ := (BX.out.alloc (.cells #[.int .i64 Nj, .int .i64 Dj] 72)).c2
          have B3 := Lib.hid (BX.out.alloc (.cells #[.int .i64 Nj, .int .i64 Dj] 72))
          go_wp2_with fail
          refine (CI.out _).mono ?_
          rintro e w4 ⟨rfl, hb⟩
          have B4 := Lib.hid (bT (bA BJ.out (.cells #[.int .i64 Nj, .int .i64 Dj] 72)) hb)
          have X4 := Lib.hid (B3.out.keep hb)
          clear hb
          go_wp2_with fail
          go_roundw
          case rel => exact ⟨j + 1, by omega, by go_num, X4.out, B4.out⟩
          case measure => simp [intOf]; omega
        · have LF := Lib.hid (bT L2.out BJ.out)
          have HE := Lib.hid (show (i : Int) + 1 = (b : Int) by omega)
          clear hie hib hbx B0 L0
          go_wp2_with fail
          go_ret2
          exact ⟨congrArg (fun z : Int => Ending.returned (.tuple #[.int .i64 z, .int .i64 0])) HE.out, LF.out⟩
end Go.Proofs.Ytmmmbchlkjljaaa

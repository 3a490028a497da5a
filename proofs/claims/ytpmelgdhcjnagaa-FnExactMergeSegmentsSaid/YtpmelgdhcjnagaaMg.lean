/-
  Merged segments: both sides.
-/
import Derived.Test.YtpmelgdhcjnagaaMgM
import Derived.Test.YtpmelgdhcjnagaaRaS
import Derived.Test.YtpmelgdhcjnagaaSgQ
import Derived.Test.YtpmelgdhcjnagaaApd
namespace Go.Proofs.Ytpmelgdhcjnagaa
open Go.RowKit

theorem row_src2 (w : World) (T : TypeId) (x y : Int) : ∀ (j : Nat) (u : Value), [Value.int .i64 x, Value.int .i64 y][j]? = some u → (w.alloc (.cells #[.int .i64 x, .int .i64 y] T)).cell? ((⟨w.heap.size, 0, none⟩ : Addr).add j) = some u := by
  intro j u hj
  match j with
  | 0 => simp at hj; subst hj; simp [go_sem, Addr.add]
  | 1 => simp at hj; subst hj; simp [go_sem, Addr.add]
  | j + 2 => simp at hj
theorem appSg {ops : Array Oper} {rest : List Oper} {o : Oper} {a : Act} {Q : Exit → Act → World → Prop} {B : Nat} {w : World} (hgd : o.guard = none) (s x : Operand)
    (ho : o.op = .call { callee := .builtin .append, args := #[s, x], argTypes := #[24, 24] }) (v : Value) (xs : List (Int × Int)) (g h' : Int) (hs : a.eval s = v) (hr : w.ownsRow B 49 2 v xs.length (pairC xs)) (hB : B ≤ w.heap.size)
    (hx : a.eval x = .slice (some ⟨w.heap.size, 0, none⟩) 1 1) (hl : xs.length ≤ 1000000)
    (h : ∀ v' w', w'.ownsRow B 49 2 v' (xs ++ [(g, h')]).length (pairC (xs ++ [(g, h')])) → Apd v v' w w' → wpList Try.prog ops Q rest (a.put o.dst v') w') : wpList Try.prog ops Q (o :: rest) a (w.alloc (.cells #[.int .i64 g, .int .i64 h'] 49)) := by
  obtain ⟨i0, hi, hz0, hz1, hz2⟩ := info_parts infoSegment
  refine wpList_append_own_at _ hgd s x 24 ho B 49 i0 (.agg #[.int .i64 0, .int .i64 0]) 2 16 Try.underlying24 hi hz0 hz1 hz2 rfl (by decide) v xs.length (pairC xs) hs (own_keep hr (bA (bR w) _)) ⟨w.heap.size, 0, none⟩ 1 1 [.int .i64 g, .int .i64 h'] hx rfl (row_src2 _ _ _ _) (by intro y hy; simp at hy; rcases hy with rfl | rfl <;> rfl) (by unfold maxLen; omega) (by omega) (by simp; omega) ?_
  intro v' w' hown hg _ hat
  have hsz := hg.size
  simp only [World.size_alloc] at hsz
  refine h v' w' ?_ ⟨hg.os, hg.tape, hg.output, by omega, fun k hk hn => (hg.block k (by simp; omega) (fun e => hn e.symm)).trans (Below.heap_alloc _ _ _ hk), ?_⟩
  · rw [pairC_snoc, List.length_append]; exact hown
  · rcases hat with e | e
    · exact .inl e
    · exact .inr ⟨_, e, by simp⟩
def SgC (ms : List (Int × Int)) (c : Int) (w : World) (e : Ending) (w' : World) : Prop := ∃ v, e = .returned (.tuple #[v, .int .i64 c]) ∧ w'.ownsRow w.heap.size 49 2 v ms.length (pairC ms) ∧ Below w.heap.size w w'
def MgR (ps : List (Int × Int)) (w : World) (vo vi : Value) (wr : World) : Prop :=
  ∃ k : Nat, k ≤ ps.length ∧ vi = .int .i64 k ∧ wr.ownsRow w.heap.size 49 2 vo (mgF (ps.take k)).length (pairC (mgF (ps.take k))) ∧ Below w.heap.size w wr
theorem mgC_len {out : List (Int × Int)} {p : Int × Int} (h : ¬ 0 < out.length) : ¬ mgC out p := fun hc => h hc.1
theorem row0p (w : World) (t : TypeId) : (w.alloc (.cells #[] t)).ownsRow w.heap.size t 2 (.slice (some ⟨w.heap.size, 0, none⟩) 0 0) 0 [] :=
  ⟨rfl, .inr ⟨w.heap.size, 0, #[], rfl, Nat.le_refl _, (MapKept.heap_alloc w _).1, Nat.le_refl _, Nat.zero_le _, rfl, rfl⟩⟩
set_option maxRecDepth 100000 in
set_option maxHeartbeats 8000000 in
theorem MergeSegmentsS_any (ps : List (Int × Int)) (v : Value) (w : World) (ha : SlP w v ps) (hmax : ps.length ≤ 1000000000000) :
    Calls Try.prog 7 #[v] w (SgC (mgL ps).1 (mgL ps).2 w) := by
  have CL := Lib.hid (fun v W (h : SlP W v ps) => l12List_any ps v W h hmax)
  have A0 := Lib.hid ha
  obtain ⟨ao, cap, rfl, _⟩ := ha
  cases h2 : okSl ps
  · rw [mgL_1 h2]
    rw [h2] at CL
    go_enter Try.func7, Try.ntmps7
    go_wp2_with fail
    refine (CL.out _ _ A0.out).mono ?_
    rintro e w1 ⟨rfl, hb⟩
    go_wp2_with fail
    go_ret2
    exact ⟨_, rfl, World.ownsRow_nil _ _ _ _, hb⟩
  rw [h2] at CL
  rw [mgL_0 h2]
  have hln := (okSl_iff.1 h2).1
  have HI := Lib.hid (fun k (hk : k ≤ ps.length) => mgF_inv (okSl_iff.1 h2).2 hk)
  have HP := Lib.hid (fun k (hk : k < ps.length) => okSl_at h2 hk)
  clear h2
  go_enter Try.func7, Try.ntmps7
  go_wp2_with fail
  refine (CL.out _ _ A0.out).mono ?_
  rintro e w1 ⟨rfl, hb⟩
  have L1 := Lib.hid hb
  obtain ⟨ao1, cap1, e1, ha1⟩ := A0.out
  cases e1
  have HA := Lib.hid ha1
  clear hb A0 CL ha1
  have R1 := Lib.hid (own_lower (B' := w.heap.size) (row0p w1 49) L1.out.size)
  have L1b := Lib.hid (bA L1.out (.cells #[] 49))
  go_wp2_with fail
  generalize w1.alloc (.cells #[] 49) = w2 at *
  go_loopw [4, 5] (fun vo vi wr => MgR ps w vo vi wr) (fun _ vi _ => ps.length - (intOf vi).toNat)
  case atStart => exact ⟨0, Nat.zero_le _, rfl, by rw [mgF_zero]; exact R1.out, L1b.out⟩
  case round =>
    obtain ⟨k, hk, rfl, hrow, hbel⟩ := hrel
    have RW := Lib.hid hrow
    have BL := Lib.hid hbel
    clear R1 L1b L1
    by_cases hlt : k < ps.length
    · obtain ⟨g, rfl, hg, hc⟩ := HA.out (by omega)
      obtain ⟨c1, c2⟩ := (hc.keep hg hbel) k hlt
      have hgw : g < wr.heap.size := Nat.lt_of_lt_of_le hg hbel.size
      obtain ⟨hx, hy⟩ := HP.out k hlt
      have HV := HI.out k hk
      have HT := Lib.hid (mgF_take hlt)
      have hle := HV.len
      have HO := Lib.hid HV.ok
      have hsz := hbel.size
      clear hc HA HP HI HV hbel
      generalize mgF (ps.take k) = out at *
      have hpe : pat ps k = ((pat ps k).1, (pat ps k).2) := rfl
      rw [hpe] at HT
      clear hpe
      generalize (pat ps k).1 = x at *
      generalize (pat ps k).2 = y at *
      have RA := RW
      have BA := BL
      obtain ⟨ao2, cap2, rfl, hrd⟩ := slP_of RA.out
      clear hrow
      by_cases h0 : 0 < out.length
      · obtain ⟨j, hj⟩ : ∃ j, out.length - 1 = j := ⟨_, rfl⟩
        have e1 : (out.length : Int) - 1 = (j : Int) := by omega
        have hpos : (0 : Int) ≤ (j : Int) := by omega
        have hjl : j < out.length := by omega
        have hjl2 : (j : Int) < (out.length : Int) := by omega
        obtain ⟨g2, rfl, hg2, hcc⟩ := hrd (by omega)
        obtain ⟨r1, r2⟩ := hcc j hjl
        have hu := okSg_bd (HO.out j hjl)
        have HMC := Lib.hid (show mgC out (x, y) ↔ (pat out j).2 = y ∧ (pat out j).1 + x ≤ 240 from by unfold mgC; rw [hj]; exact ⟨fun h => h.2, fun h => ⟨h0, h⟩⟩)
        have HST := Lib.hid (fun h => (mgS_set (out := out) (p := (x, y)) h).trans (by rw [hj]))
        have HPC := Lib.hid (fun z => pairC_set1 out j z hjl)
        clear hcc HO hj
        generalize hu1 : (pat out j).1 = u at *
        generalize hv1 : (pat out j).2 = v at *
        clear hu1 hv1
        have hlh : out.length ≤ 60 := by omega
        by_cases hvy : v = y
        · have hvb : (v == y) = true := beq_iff_eq.2 hvy
          by_cases hux : u + x ≤ 240
          · have HS := Lib.hid (HST.out (HMC.out.2 ⟨hvy, hux⟩))
            have f1 : wr.frozen? ⟨g2, j * 2, none⟩ = false := RA.out.frozenAt (j * 2)
            have hge : w.heap.size ≤ g2 := (own_blk RA.out g2 rfl).1
            have g1 : IntKind.i64.wrap (u + x) = u + x := IntWalk.i64_in _ (by omega)
            clear HST HMC
            go_wp2_with fail
            go_quiet (fail)
            have RX := Lib.hid (own_keep RA.out (bD (bR wr) nq))
            have BX := Lib.hid (bD BA.out nq)
            have hBX := BX.out.size
            have c1q : (wr.drewN nq).cell? ⟨g, k * 2, none⟩ = some (.int .i64 x) := c1
            have c2q : (wr.drewN nq).cell? ⟨g, k * 2 + 1, none⟩ = some (.int .i64 y) := c2
            have r1q : (wr.drewN nq).cell? ⟨g2, j * 2, none⟩ = some (.int .i64 u) := r1
            have f1q : (wr.drewN nq).frozen? ⟨g2, j * 2, none⟩ = false := f1
            clear f1 RA BA c1 c2 r1 r2
            generalize World.drewN _ nq = wq at *
            have NR := Lib.hid (((own_keep RX.out (bR wq).drew).stored (j * 2) (.int .i64 (u + x))).1)
            rw [← HPC.out] at NR
            have NB := Lib.hid ((BX.out.drew).setCell (p := ⟨g2, j * 2, none⟩) hge (.int .i64 (u + x)))
            clear RX BX HPC
            go_wp2_with fail
            go_region
            go_wp2_with fail
            go_roundw
            case rel => exact ⟨k + 1, by omega, by go_num, by rw [HT.out, HS.out, List.length_set]; exact NR.out, NB.out⟩
            case measure => simp [intOf]; omega
          · have HS := Lib.hid (mgS_app (fun hc => hux (HMC.out.1 hc).2))
            clear HST HMC HPC
            go_wp2_with fail
            go_quiet (fail)
            have RX := Lib.hid (own_keep RA.out (bD (bR wr) nq))
            have BX := Lib.hid (bD BA.out nq)
            have hBX := BX.out.size
            have c1q : (wr.drewN nq).cell? ⟨g, k * 2, none⟩ = some (.int .i64 x) := c1
            have c2q : (wr.drewN nq).cell? ⟨g, k * 2 + 1, none⟩ = some (.int .i64 y) := c2
            have r1q : (wr.drewN nq).cell? ⟨g2, j * 2, none⟩ = some (.int .i64 u) := r1
            clear RA BA c1 c2 r1 r2
            generalize World.drewN _ nq = wq at *
            go_wp2_with (at_builtin; refine appSg rfl _ _ rfl _ _ x y rfl RX.out hBX (by show Value.slice (some ⟨_, 0, none⟩) 1 1 = _; rfl) (by omega) ?_)
            intro v' w3 hown hap
            have RW3 := Lib.hid hown
            have BL3 := Lib.hid (BX.out.trans (hap.below (fun r e => (own_blk RX.out r e).1) hBX))
            clear hown hap
            go_wp2_with fail
            go_roundw
            case rel => exact ⟨k + 1, by omega, by go_num, by rw [HT.out, HS.out, List.length_append]; exact RW3.out, BL3.out⟩
            case measure => simp [intOf]; omega
        · have HS := Lib.hid (mgS_app (fun hc => hvy (HMC.out.1 hc).1))
          have hvb : (v == y) = false := beq_eq_false_iff_ne.2 hvy
          clear HST HMC HPC hvy
          go_wp2_with fail
          go_quiet (fail)
          have RX := Lib.hid (own_keep RA.out (bD (bR wr) nq))
          have BX := Lib.hid (bD BA.out nq)
          have hBX := BX.out.size
          have c1q : (wr.drewN nq).cell? ⟨g, k * 2, none⟩ = some (.int .i64 x) := c1
          have c2q : (wr.drewN nq).cell? ⟨g, k * 2 + 1, none⟩ = some (.int .i64 y) := c2
          have r1q : (wr.drewN nq).cell? ⟨g2, j * 2, none⟩ = some (.int .i64 u) := r1
          clear RA BA c1 c2 r1 r2
          generalize World.drewN _ nq = wq at *
          go_wp2_with (at_builtin; refine appSg rfl _ _ rfl _ _ x y rfl RX.out hBX (by show Value.slice (some ⟨_, 0, none⟩) 1 1 = _; rfl) (by omega) ?_)
          intro v' w3 hown hap
          have RW3 := Lib.hid hown
          have BL3 := Lib.hid (BX.out.trans (hap.below (fun r e => (own_blk RX.out r e).1) hBX))
          clear hown hap
          go_wp2_with fail
          go_roundw
          case rel => exact ⟨k + 1, by omega, by go_num, by rw [HT.out, HS.out, List.length_append]; exact RW3.out, BL3.out⟩
          case measure => simp [intOf]; omega
      · have HS := Lib.hid (mgS_app (mgC_len (p := (x, y)) h0))
        have e0 : (out.length : Int) - 1 = -1 := by omega
        have hlh : out.length ≤ 60 := by omega
        clear hrd h0 HO
        go_wp2_with fail
        go_quiet (fail)
        have RX := Lib.hid (own_keep RA.out (bD (bR wr) nq))
        have BX := Lib.hid (bD BA.out nq)
        have hBX := BX.out.size
        have c1q : (wr.drewN nq).cell? ⟨g, k * 2, none⟩ = some (.int .i64 x) := c1
        have c2q : (wr.drewN nq).cell? ⟨g, k * 2 + 1, none⟩ = some (.int .i64 y) := c2
        clear RA BA c1 c2
        generalize World.drewN _ nq = wq at *
        go_wp2_with (at_builtin; refine appSg rfl _ _ rfl _ _ x y rfl RX.out hBX (by show Value.slice (some ⟨_, 0, none⟩) 1 1 = _; rfl) (by omega) ?_)
        intro v' w3 hown hap
        have RW3 := Lib.hid hown
        have BL3 := Lib.hid (BX.out.trans (hap.below (fun r e => (own_blk RX.out r e).1) hBX))
        clear hown hap
        go_wp2_with fail
        go_roundw
        case rel => exact ⟨k + 1, by omega, by go_num, by rw [HT.out, HS.out, List.length_append]; exact RW3.out, BL3.out⟩
        case measure => simp [intOf]; omega
    · obtain rfl : k = ps.length := by omega
      rw [List.take_of_length_le (Nat.le_refl _)] at RW
      clear hrow hbel
      go_wp2_with fail
      go_ret2
      exact ⟨_, rfl, RW.out, BL.out⟩
set_option maxRecDepth 100000 in
set_option maxHeartbeats 8000000 in
theorem MergeSegmentsI_any (ps : List (Int × Int)) (v : Value) (w : World) (ha : SlP w v ps) (hmax : ps.length ≤ 1000000000000) :
    Calls Try.prog 9 #[v] w (SgC (mgL ps).1 (mgL ps).2 w) := by
  have CL := Lib.hid (fun v W (h : SlP W v ps) => ValidSegmentsI_any ps v W h hmax)
  have A0 := Lib.hid ha
  obtain ⟨ao, cap, rfl, _⟩ := ha
  cases h2 : okSl ps
  · rw [mgL_1 h2]
    rw [h2] at CL
    go_enter Try.func9, Try.ntmps9
    go_wp2_with fail
    refine (CL.out _ _ A0.out).mono ?_
    rintro e w1 ⟨rfl, hb⟩
    go_wp2_with fail
    go_ret2
    exact ⟨_, rfl, World.ownsRow_nil _ _ _ _, hb⟩
  rw [h2] at CL
  rw [mgL_0 h2]
  have hln := (okSl_iff.1 h2).1
  have HI := Lib.hid (fun k (hk : k ≤ ps.length) => mgF_inv (okSl_iff.1 h2).2 hk)
  have HP := Lib.hid (fun k (hk : k < ps.length) => okSl_at h2 hk)
  clear h2
  go_enter Try.func9, Try.ntmps9
  go_wp2_with fail
  refine (CL.out _ _ A0.out).mono ?_
  rintro e w1 ⟨rfl, hb⟩
  have L1 := Lib.hid hb
  obtain ⟨ao1, cap1, e1, ha1⟩ := A0.out
  cases e1
  have HA := Lib.hid ha1
  clear hb A0 CL ha1
  have R1 := Lib.hid (World.ownsRow_nil w1 w.heap.size 49 2)
  have L1b := L1
  go_wp2_with fail
  obtain ⟨w2, hw2⟩ : ∃ w2, w1 = w2 := ⟨_, rfl⟩
  subst hw2
  go_loopw [4, 13] (fun vo vi wr => MgR ps w vo vi wr) (fun _ vi _ => ps.length - (intOf vi).toNat)
  case atStart => exact ⟨0, Nat.zero_le _, rfl, by rw [mgF_zero]; exact R1.out, L1b.out⟩
  case round =>
    obtain ⟨k, hk, rfl, hrow, hbel⟩ := hrel
    have RW := Lib.hid hrow
    have BL := Lib.hid hbel
    clear R1 L1b L1
    by_cases hlt : k < ps.length
    · obtain ⟨g, rfl, hg, hc⟩ := HA.out (by omega)
      obtain ⟨c1, c2⟩ := (hc.keep hg hbel) k hlt
      have hgw : g < wr.heap.size := Nat.lt_of_lt_of_le hg hbel.size
      obtain ⟨hx, hy⟩ := HP.out k hlt
      have HV := HI.out k hk
      have HT := Lib.hid (mgF_take hlt)
      have hle := HV.len
      have HO := Lib.hid HV.ok
      have hsz := hbel.size
      clear hc HA HP HI HV hbel
      generalize mgF (ps.take k) = out at *
      have hpe : pat ps k = ((pat ps k).1, (pat ps k).2) := rfl
      rw [hpe] at HT
      clear hpe
      generalize (pat ps k).1 = x at *
      generalize (pat ps k).2 = y at *
      have RA := Lib.hid (own_keep RW.out (bA (bR wr) (.cells #[.int .i64 x, .int .i64 y] 49)))
      have BA := Lib.hid (bA BL.out (.cells #[.int .i64 x, .int .i64 y] 49))
      have EB := Lib.hid (BoxL.new wr [.int .i64 x, .int .i64 y] 49)
      obtain ⟨ao2, cap2, rfl, hrd⟩ := slP_of RA.out
      obtain ⟨d0, d1, d2⟩ := EB.out.c2
      clear hrow
      by_cases h0 : 0 < out.length
      · obtain ⟨j, hj⟩ : ∃ j, out.length - 1 = j := ⟨_, rfl⟩
        have e1 : (out.length : Int) - 1 = (j : Int) := by omega
        have hpos : (0 : Int) ≤ (j : Int) := by omega
        have hjl : j < out.length := by omega
        have hjl2 : (j : Int) < (out.length : Int) := by omega
        obtain ⟨g2, rfl, hg2, hcc⟩ := hrd (by omega)
        obtain ⟨r1, r2⟩ := hcc j hjl
        have hu := okSg_bd (HO.out j hjl)
        have HMC := Lib.hid (show mgC out (x, y) ↔ (pat out j).2 = y ∧ (pat out j).1 + x ≤ 240 from by unfold mgC; rw [hj]; exact ⟨fun h => h.2, fun h => ⟨h0, h⟩⟩)
        have HST := Lib.hid (fun h => (mgS_set (out := out) (p := (x, y)) h).trans (by rw [hj]))
        have HPC := Lib.hid (fun z => pairC_set1 out j z hjl)
        clear hcc HO hj
        generalize hu1 : (pat out j).1 = u at *
        generalize hv1 : (pat out j).2 = v at *
        clear hu1 hv1
        have hlh : out.length ≤ 60 := by omega
        by_cases hvy : v = y
        · have hvb : (v == y) = true := beq_iff_eq.2 hvy
          by_cases hux : u + x ≤ 240
          · have HS := Lib.hid (HST.out (HMC.out.2 ⟨hvy, hux⟩))
            have f1 : (wr.alloc (.cells #[.int .i64 x, .int .i64 y] 49)).frozen? ⟨g2, j * 2, none⟩ = false := RA.out.frozenAt (j * 2)
            have hge : w.heap.size ≤ g2 := (own_blk RA.out g2 rfl).1
            have g1 : IntKind.i64.wrap (u + x) = u + x := IntWalk.i64_in _ (by omega)
            clear HST HMC
            go_wp2_with fail
            go_quiet (fail)
            have RX := Lib.hid (own_keep RA.out (bD (bR (wr.alloc (.cells #[.int .i64 x, .int .i64 y] 49))) nq))
            have BX := Lib.hid (bD BA.out nq)
            have hBX := BX.out.size
            have EX := Lib.hid (EB.out.drewN nq)
            have r1q : ((wr.alloc (.cells #[.int .i64 x, .int .i64 y] 49)).drewN nq).cell? ⟨g2, j * 2, none⟩ = some (.int .i64 u) := r1
            have f1q : ((wr.alloc (.cells #[.int .i64 x, .int .i64 y] 49)).drewN nq).frozen? ⟨g2, j * 2, none⟩ = false := f1
            clear f1 RA BA c1 c2 EB d0 d1 d2 r1 r2
            generalize World.drewN _ nq = wq at *
            obtain ⟨d0, d1, d2⟩ := EX.out.c2
            have NR := Lib.hid (((own_keep RX.out (bR wq).drew).stored (j * 2) (.int .i64 (u + x))).1)
            rw [← HPC.out] at NR
            have NB := Lib.hid ((BX.out.drew).setCell (p := ⟨g2, j * 2, none⟩) hge (.int .i64 (u + x)))
            clear RX BX HPC
            go_wp2_with fail
            go_region
            go_wp2_with fail
            go_roundw
            case rel => exact ⟨k + 1, by omega, by go_num, by rw [HT.out, HS.out, List.length_set]; exact NR.out, NB.out⟩
            case measure => simp [intOf]; omega
          · have HS := Lib.hid (mgS_app (fun hc => hux (HMC.out.1 hc).2))
            clear HST HMC HPC
            go_wp2_with fail
            go_quiet (fail)
            have RX := Lib.hid (own_keep RA.out (bD (bR (wr.alloc (.cells #[.int .i64 x, .int .i64 y] 49))) nq))
            have BX := Lib.hid (bD BA.out nq)
            have hBX := BX.out.size
            have EX := Lib.hid (EB.out.drewN nq)
            have r1q : ((wr.alloc (.cells #[.int .i64 x, .int .i64 y] 49)).drewN nq).cell? ⟨g2, j * 2, none⟩ = some (.int .i64 u) := r1
            clear RA BA c1 c2 EB d0 d1 d2 r1 r2
            generalize World.drewN _ nq = wq at *
            obtain ⟨d0, d1, d2⟩ := EX.out.c2
            go_wp2_with (at_builtin; refine appSg rfl _ _ rfl _ _ x y rfl RX.out hBX (by show Value.slice (some ⟨_, 0, none⟩) 1 1 = _; rfl) (by omega) ?_)
            intro v' w3 hown hap
            have RW3 := Lib.hid hown
            have BL3 := Lib.hid (BX.out.trans (hap.below (fun r e => (own_blk RX.out r e).1) hBX))
            clear hown hap
            go_wp2_with fail
            go_roundw
            case rel => exact ⟨k + 1, by omega, by go_num, by rw [HT.out, HS.out, List.length_append]; exact RW3.out, BL3.out⟩
            case measure => simp [intOf]; omega
        · have HS := Lib.hid (mgS_app (fun hc => hvy (HMC.out.1 hc).1))
          have hvb : (v == y) = false := beq_eq_false_iff_ne.2 hvy
          clear HST HMC HPC hvy
          go_wp2_with fail
          go_quiet (fail)
          have RX := Lib.hid (own_keep RA.out (bD (bR (wr.alloc (.cells #[.int .i64 x, .int .i64 y] 49))) nq))
          have BX := Lib.hid (bD BA.out nq)
          have hBX := BX.out.size
          have EX := Lib.hid (EB.out.drewN nq)
          have r1q : ((wr.alloc (.cells #[.int .i64 x, .int .i64 y] 49)).drewN nq).cell? ⟨g2, j * 2, none⟩ = some (.int .i64 u) := r1
          clear RA BA c1 c2 EB d0 d1 d2 r1 r2
          generalize World.drewN _ nq = wq at *
          obtain ⟨d0, d1, d2⟩ := EX.out.c2
          go_wp2_with (at_builtin; refine appSg rfl _ _ rfl _ _ x y rfl RX.out hBX (by show Value.slice (some ⟨_, 0, none⟩) 1 1 = _; rfl) (by omega) ?_)
          intro v' w3 hown hap
          have RW3 := Lib.hid hown
          have BL3 := Lib.hid (BX.out.trans (hap.below (fun r e => (own_blk RX.out r e).1) hBX))
          clear hown hap
          go_wp2_with fail
          go_roundw
          case rel => exact ⟨k + 1, by omega, by go_num, by rw [HT.out, HS.out, List.length_append]; exact RW3.out, BL3.out⟩
          case measure => simp [intOf]; omega
      · have HS := Lib.hid (mgS_app (mgC_len (p := (x, y)) h0))
        have e0 : (out.length : Int) - 1 = -1 := by omega
        have hlh : out.length ≤ 60 := by omega
        clear hrd h0 HO
        go_wp2_with fail
        go_quiet (fail)
        have RX := Lib.hid (own_keep RA.out (bD (bR (wr.alloc (.cells #[.int .i64 x, .int .i64 y] 49))) nq))
        have BX := Lib.hid (bD BA.out nq)
        have hBX := BX.out.size
        have EX := Lib.hid (EB.out.drewN nq)
        clear RA BA c1 c2 EB d0 d1 d2
        generalize World.drewN _ nq = wq at *
        obtain ⟨d0, d1, d2⟩ := EX.out.c2
        go_wp2_with (at_builtin; refine appSg rfl _ _ rfl _ _ x y rfl RX.out hBX (by show Value.slice (some ⟨_, 0, none⟩) 1 1 = _; rfl) (by omega) ?_)
        intro v' w3 hown hap
        have RW3 := Lib.hid hown
        have BL3 := Lib.hid (BX.out.trans (hap.below (fun r e => (own_blk RX.out r e).1) hBX))
        clear hown hap
        go_wp2_with fail
        go_roundw
        case rel => exact ⟨k + 1, by omega, by go_num, by rw [HT.out, HS.out, List.length_append]; exact RW3.out, BL3.out⟩
        case measure => simp [intOf]; omega
    · obtain rfl : k = ps.length := by omega
      rw [List.take_of_length_le (Nat.le_refl _)] at RW
      clear hrow hbel
      go_wp2_with fail
      go_ret2
      exact ⟨_, rfl, RW.out, BL.out⟩
end Go.Proofs.Ytpmelgdhcjnagaa

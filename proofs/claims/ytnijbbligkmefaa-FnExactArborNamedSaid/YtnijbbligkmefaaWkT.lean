/-
  The contracts of spec.l08Known, l08Ok, ValidWorks.
-/
import Derived.Test.YtnijbbligkmefaaWkS
namespace Go.Proofs.Ytnijbbligkmefaa
open Go.RowKit

/-- A box of four numbers. -/
structure BoxM (w : World) (b : Nat) (x0 x1 x2 x3 : Int) : Prop where
  c0 : w.cell? ⟨b, 0, none⟩ = some (.int .i64 x0)
  c1 : w.cell? ⟨b, 1, none⟩ = some (.int .i64 x1)
  c2 : w.cell? ⟨b, 2, none⟩ = some (.int .i64 x2)
  c3 : w.cell? ⟨b, 3, none⟩ = some (.int .i64 x3)
  lt : b < w.heap.size
theorem BoxM.new (w : World) (x0 x1 x2 x3 : Int) (T : TypeId) : BoxM (w.alloc (.cells #[.int .i64 x0, .int .i64 x1, .int .i64 x2, .int .i64 x3] T)) w.heap.size x0 x1 x2 x3 :=
  ⟨by simp [go_sem], by simp [go_sem], by simp [go_sem], by simp [go_sem], by simp⟩
theorem BoxM.keep {w w' : World} {b : Nat} {x0 x1 x2 x3 : Int} (h : BoxM w b x0 x1 x2 x3) (hb : Below w.heap.size w w') : BoxM w' b x0 x1 x2 x3 :=
  ⟨(hb.cell (p := ⟨b, 0, none⟩) h.lt).trans h.c0, (hb.cell (p := ⟨b, 1, none⟩) h.lt).trans h.c1, (hb.cell (p := ⟨b, 2, none⟩) h.lt).trans h.c2, (hb.cell (p := ⟨b, 3, none⟩) h.lt).trans h.c3, Nat.lt_of_lt_of_le h.lt hb.size⟩
/-- What stands in a round of the look for a mesh. -/
def KnH (W0 : World) (b g bm i : Nat) (v : Value) (y0 y1 y2 y3 x0 x1 x2 x3 : Int) (w' : World) : Prop :=
  w'.cell? ⟨b, 1, none⟩ = some v ∧ w'.cell? ⟨g, i, none⟩ = some (.int .i64 y0) ∧ w'.cell? ⟨g, i + 1, none⟩ = some (.int .i64 y1) ∧ w'.cell? ⟨g, i + 2, none⟩ = some (.int .i64 y2) ∧ w'.cell? ⟨g, i + 3, none⟩ = some (.int .i64 y3) ∧
  w'.cell? ⟨bm, 0, none⟩ = some (.int .i64 x0) ∧ w'.cell? ⟨bm, 1, none⟩ = some (.int .i64 x1) ∧ w'.cell? ⟨bm, 2, none⟩ = some (.int .i64 x2) ∧ w'.cell? ⟨bm, 3, none⟩ = some (.int .i64 x3) ∧ b < w'.heap.size ∧ g < w'.heap.size ∧ bm < w'.heap.size ∧ Below W0.heap.size W0 w'
theorem KnH.drew {W0 : World} {b g bm i : Nat} {v : Value} {y0 y1 y2 y3 x0 x1 x2 x3 : Int} {w' : World} (h : KnH W0 b g bm i v y0 y1 y2 y3 x0 x1 x2 x3 w') : KnH W0 b g bm i v y0 y1 y2 y3 x0 x1 x2 x3 w'.drew := by
  obtain ⟨a, c0, c1, c2, c3, d0, d1, d2, d3, e1, e2, e3, e4⟩ := h
  exact ⟨a, c0, c1, c2, c3, d0, d1, d2, d3, e1, e2, e3, e4.drew⟩
theorem KnH.keep {W0 : World} {b g bm i : Nat} {v : Value} {y0 y1 y2 y3 x0 x1 x2 x3 : Int} {w' w2 : World} (hb : Below w'.heap.size w' w2) (h : KnH W0 b g bm i v y0 y1 y2 y3 x0 x1 x2 x3 w') : KnH W0 b g bm i v y0 y1 y2 y3 x0 x1 x2 x3 w2 := by
  obtain ⟨a, c0, c1, c2, c3, d0, d1, d2, d3, e1, e2, e3, e4⟩ := h
  exact ⟨(hb.cell (p := ⟨b, 1, none⟩) e1).trans a, (hb.cell (p := ⟨g, i, none⟩) e2).trans c0, (hb.cell (p := ⟨g, i + 1, none⟩) e2).trans c1, (hb.cell (p := ⟨g, i + 2, none⟩) e2).trans c2, (hb.cell (p := ⟨g, i + 3, none⟩) e2).trans c3,
    (hb.cell (p := ⟨bm, 0, none⟩) e3).trans d0, (hb.cell (p := ⟨bm, 1, none⟩) e3).trans d1, (hb.cell (p := ⟨bm, 2, none⟩) e3).trans d2, (hb.cell (p := ⟨bm, 3, none⟩) e3).trans d3, Nat.lt_of_lt_of_le e1 hb.size, Nat.lt_of_lt_of_le e2 hb.size, Nat.lt_of_lt_of_le e3 hb.size, bT e4 hb⟩
set_option maxRecDepth 100000 in
set_option maxHeartbeats 4000000 in
theorem l08Known_any (b : Nat) (rs : List Arb) (ms : List Msh) (x0 x1 x2 x3 : Int) (m : Nat) (w : World) (h : WkAt w b rs ms) (hm : m ≤ ms.length) :
    Calls Try.prog 73 #[.pointer (some ⟨b, 0, none⟩), .agg #[.int .i64 x0, .int .i64 x1, .int .i64 x2, .int .i64 x3], .int .i64 (m : Int)] w (BoolBel (knM ms (x0, x1, x2, x3) m) w) := by
  have H0 := Lib.hid (h.keep (bA (bR w) (.cells #[.int .i64 x0, .int .i64 x1, .int .i64 x2, .int .i64 x3] 52)))
  have B0 := Lib.hid (BoxM.new w x0 x1 x2 x3 52)
  have L0 := Lib.hid (bA (bR w) (.cells #[.int .i64 x0, .int .i64 x1, .int .i64 x2, .int .i64 x3] 52))
  clear h
  go_enter Try.func73, Try.ntmps73
  go_wp2_with fail
  generalize w.alloc (.cells #[.int .i64 x0, .int .i64 x1, .int .i64 x2, .int .i64 x3] 52) = W0 at *
  generalize w.heap.size = bm at B0
  have hmax : ms.length ≤ 1048576 := by obtain ⟨_, _, _, _, h, _⟩ := H0.out; exact h
  go_loopw [7] (fun i wr => ∃ (k : Nat), k ≤ m ∧ i = .int .i64 k ∧ nomK ms (x0, x1, x2, x3) k ∧ Below W0.heap.size W0 wr) (fun i _ => m - (intOf i).toNat)
  case atStart => exact ⟨0, by omega, rfl, nomK_zero _ _, bR _⟩
  case round =>
    obtain ⟨k, hk, rfl, hok, hbw⟩ := hrel
    have HK := Lib.hid hok
    have HBW := Lib.hid hbw
    clear hok hbw
    by_cases hlt : k < m
    · obtain ⟨u, v, ⟨_, z1, _, _, z4⟩, _, ⟨_, ao, cap, rfl, _, hc⟩⟩ := H0.out.keep HBW.out
      have hlt2 : k < ms.length := by omega
      obtain ⟨g, rfl, hg, hc⟩ := hc (by omega)
      obtain ⟨c0, c1, c2, c3⟩ := hc k (by omega)
      obtain ⟨d0, d1, d2, d3, d4⟩ := B0.out.keep HBW.out
      have HP := Lib.hid (show msAt ms k = ((msAt ms k).1, (msAt ms k).2.1, (msAt ms k).2.2.1, (msAt ms k).2.2.2) from rfl)
      clear hc
      generalize (msAt ms k).1 = y0 at *
      generalize (msAt ms k).2.1 = y1 at *
      generalize (msAt ms k).2.2.1 = y2 at *
      generalize (msAt ms k).2.2.2 = y3 at *
      have HS : KnH W0 b g bm (k * 4) (.slice (some ⟨g, 0, none⟩) ms.length cap) y0 y1 y2 y3 x0 x1 x2 x3 wr := ⟨z1, c0, c1, c2, c3, d0, d1, d2, d3, z4, hg, d4, HBW.out⟩
      have HY := Lib.hid (fun h : eqM (y0, y1, y2, y3) (x0, x1, x2, x3) = true => kn_yes (ms := ms) (m := (x0, x1, x2, x3)) (i := k) (k := m) hlt (by omega) (by rw [HP.out]; exact h))
      have HN := Lib.hid (fun h : eqM (y0, y1, y2, y3) (x0, x1, x2, x3) = false => nomK_succ (ms := ms) (m := (x0, x1, x2, x3)) (k := k) HK.out (by rw [HP.out]; exact h))
      have hq := l08Equal_any y0 y1 y2 y3 x0 x1 x2 x3
      generalize eqM (y0, y1, y2, y3) (x0, x1, x2, x3) = r at *
      have HQ := Lib.hid hq
      clear hq
      go_wp2_with fail
      go_region_held3 (fun w' => w'.cell? ⟨b, 1, none⟩ = some (.slice (some ⟨g, 0, none⟩) ms.length cap) ∧ w'.cell? ⟨g, k * 4, none⟩ = some (.int .i64 y0) ∧ w'.cell? ⟨g, k * 4 + 1, none⟩ = some (.int .i64 y1) ∧ w'.cell? ⟨g, k * 4 + 2, none⟩ = some (.int .i64 y2) ∧ w'.cell? ⟨g, k * 4 + 3, none⟩ = some (.int .i64 y3) ∧
        w'.cell? ⟨bm, 0, none⟩ = some (.int .i64 x0) ∧ w'.cell? ⟨bm, 1, none⟩ = some (.int .i64 x1) ∧ w'.cell? ⟨bm, 2, none⟩ = some (.int .i64 x2) ∧ w'.cell? ⟨bm, 3, none⟩ = some (.int .i64 x3) ∧ b < w'.heap.size ∧ g < w'.heap.size ∧ bm < w'.heap.size ∧ Below W0.heap.size W0 w') (first | exact HS.drew | exact KnH.keep hb (by assumption))
        ((go_at_call 92; refine (HQ.out _).mono ?_; rintro e w' ⟨rfl, hb⟩))
      have HT : KnH W0 b g bm (k * 4) (.slice (some ⟨g, 0, none⟩) ms.length cap) y0 y1 y2 y3 x0 x1 x2 x3 w' := by assumption
      have HU := Lib.hid HT.2.2.2.2.2.2.2.2.2.2.2.2
      clear hb HT HS
      cases r
      · have HN' := Lib.hid (HN.out rfl)
        go_wp2_with fail
        go_roundw
        case rel => exact ⟨k + 1, by omega, by go_num, HN'.out, HU.out⟩
        case measure => simp [intOf]; omega
      · have HY' := Lib.hid (HY.out rfl)
        go_wp2_with fail
        go_ret
        exact ⟨ret_bool HY'.out.symm, bT L0.out HU.out⟩
    · obtain rfl : k = m := by omega
      have HN := Lib.hid (kn_no HK.out)
      go_wp2_with fail
      go_ret
      exact ⟨ret_bool HN.out.symm, bT L0.out HBW.out⟩
theorem own_no {rs : List Arb} {k : Nat} (h : idxN rs (arAt rs k).1 ≠ (k : Int)) : ownN rs k = false := by simp [ownN, h]
theorem own_yes {rs : List Arb} {k : Nat} (h : idxN rs (arAt rs k).1 = (k : Int)) : ownN rs k = true := by simp [ownN, h]
set_option maxRecDepth 100000 in
set_option maxHeartbeats 4000000 in
theorem l08Ok_any (b : Nat) (rs : List Arb) (ms : List Msh) (w : World) (h : WkAt w b rs ms) :
    Calls Try.prog 46 #[.pointer (some ⟨b, 0, none⟩)] w (BoolBel (okW rs ms) w) := by
  have H0 := Lib.hid h
  obtain ⟨u, v, ⟨x0, x1, _, _, x4⟩, ⟨hmax, ao, cap, rfl, _, ha⟩, ⟨hmax2, bo, bcap, rfl, _, _⟩⟩ := h
  have HA := Lib.hid ha
  clear ha
  go_enter Try.func46, Try.ntmps46
  go_wp2_with fail
  go_loop [3] (fun i => ∃ (k : Nat), k ≤ rs.length ∧ i = .int .i64 k ∧ arbK rs k) (fun i => rs.length - (intOf i).toNat)
  case atStart => exact ⟨0, by omega, rfl, arbK_zero _⟩
  case round =>
    obtain ⟨k, hk, rfl, hok⟩ := hrel
    have HK := Lib.hid hok
    clear hok
    by_cases hlt : k < rs.length
    · obtain ⟨g, rfl, hg, hc⟩ := HA.out (by omega)
      obtain ⟨c0, hs, hts, u, c1, hu⟩ := hc k hlt
      have HP := Lib.hid (show arAt rs k = ((arAt rs k).1, (arAt rs k).2) from rfl)
      have HW := Lib.hid (fun h => okW_a (rs := rs) (ms := ms) hlt h)
      have HS := Lib.hid (arbK_succ (rs := rs) (k := k) HK.out)
      have HO := Lib.hid (own_no (rs := rs) (k := k))
      have HO' := Lib.hid (own_yes (rs := rs) (k := k))
      have hq := l08Arbor_any g (k * 2) (arAt rs k).1 (arAt rs k).2 u w c0 c1 hu hs hts
      have hf := l08Find_any b rs ms (arAt rs k).1 w H0.out
      rw [← HP.out] at hq
      have HQ := Lib.hid hq
      have HF := Lib.hid hf
      clear hc HA hu hs hts hq hf HP
      generalize (arAt rs k).1 = s at *
      generalize (arAt rs k).2 = ts at *
      generalize idxN rs s = z at *
      cases hp : arbB (arAt rs k)
      · have HW' := Lib.hid (HW.out (.inl hp))
        go_wp2_with fail
        refine HQ.out.mono ?_
        rw [hp]
        rintro e w1 ⟨rfl, rfl⟩
        go_wp2_with fail
        go_ret
        exact ⟨ret_bool HW'.out.symm, bR _⟩
      · by_cases hz : z = (k : Int)
        · subst hz
          have hz' : ((k : Int) != (k : Int)) = false := by simp
          have HS' := Lib.hid (HS.out hp (HO'.out rfl))
          go_wp2_with fail
          refine HQ.out.mono ?_
          rw [hp]
          rintro e w1 ⟨rfl, rfl⟩
          go_wp2_with fail
          refine HF.out.mono ?_
          rintro e w1 ⟨rfl, rfl⟩
          go_wp2_with fail
          go_round
          case rel => exact ⟨k + 1, by omega, by go_num, HS'.out⟩
          case measure => simp [intOf]; omega
        · have hz' : (z != (k : Int)) = true := by simp [hz]
          have HW' := Lib.hid (HW.out (.inr (HO.out hz)))
          go_wp2_with fail
          refine HQ.out.mono ?_
          rw [hp]
          rintro e w1 ⟨rfl, rfl⟩
          go_wp2_with fail
          refine HF.out.mono ?_
          rintro e w1 ⟨rfl, rfl⟩
          go_wp2_with fail
          go_ret
          exact ⟨ret_bool HW'.out.symm, bR _⟩
    · obtain rfl : k = rs.length := by omega
      clear HA
      go_wp2_with fail
      go_loopw [4] (fun i wr => ∃ (k : Nat), k ≤ ms.length ∧ i = .int .i64 k ∧ mshK rs ms k ∧ Below w.heap.size w wr) (fun i _ => ms.length - (intOf i).toNat)
      case atStart => exact ⟨0, by omega, rfl, mshK_zero _ _, bR _⟩
      case round =>
        obtain ⟨k, hk, rfl, hok, hbw⟩ := hrel
        have HM := Lib.hid hok
        have HBW := Lib.hid hbw
        clear hok hbw x0 x1
        obtain ⟨u, v, ⟨x0, x1, _, _, x4⟩, ⟨_, ao, cap, rfl, _, _⟩, ⟨_, bo, bcap, rfl, _, hc⟩⟩ := H0.out.keep HBW.out
        by_cases hlt : k < ms.length
        · obtain ⟨g, rfl, hg, hc⟩ := hc (by omega)
          obtain ⟨c0, c1, c2, c3⟩ := hc k (by omega)
          have HP := Lib.hid (show msAt ms k = ((msAt ms k).1, (msAt ms k).2.1, (msAt ms k).2.2.1, (msAt ms k).2.2.2) from rfl)
          have HW := Lib.hid (fun h => okW_m (rs := rs) (ms := ms) hlt h)
          have HS := Lib.hid (mshK_succ (rs := rs) (ms := ms) (k := k) HM.out)
          have HQ := Lib.hid (l08Mesh_any b rs ms (msAt ms k).1 (msAt ms k).2.1 (msAt ms k).2.2.1 (msAt ms k).2.2.2 wr (H0.out.keep HBW.out))
          have HF := Lib.hid (fun W (hb : Below wr.heap.size wr W) => l08Known_any b rs ms (msAt ms k).1 (msAt ms k).2.1 (msAt ms k).2.2.1 (msAt ms k).2.2.2 k W ((H0.out.keep HBW.out).keep hb) (by omega))
          have HC := Lib.hid (fun W (hb : Below wr.heap.size wr W) => show W.cell? ⟨b, 1, none⟩ = some (.slice (some ⟨g, 0, none⟩) ms.length bcap) from (hb.cell (p := ⟨b, 1, none⟩) x4).trans x1)
          have HD := Lib.hid (fun W (hb : Below wr.heap.size wr W) => hc.keep hg hb)
          rw [HP.out] at HW HS
          clear hc
          cases hp : mshB rs (msAt ms k)
          · rw [HP.out] at hp
            generalize (msAt ms k).1 = y0 at *
            generalize (msAt ms k).2.1 = y1 at *
            generalize (msAt ms k).2.2.1 = y2 at *
            generalize (msAt ms k).2.2.2 = y3 at *
            have HW' := Lib.hid (HW.out (.inl hp))
            go_wp2_with fail
            refine HQ.out.mono ?_
            rw [hp]
            rintro e w1 ⟨rfl, hb⟩
            have L1 := Lib.hid (bT HBW.out hb)
            clear hb
            go_wp2_with fail
            go_ret
            exact ⟨ret_bool HW'.out.symm, L1.out⟩
          · rw [HP.out] at hp
            have HD' := Lib.hid (fun W (hb : Below wr.heap.size wr W) => HD.out W hb k hlt)
            clear HD
            generalize (msAt ms k).1 = y0 at *
            generalize (msAt ms k).2.1 = y1 at *
            generalize (msAt ms k).2.2.1 = y2 at *
            generalize (msAt ms k).2.2.2 = y3 at *
            cases hkn : knM ms (y0, y1, y2, y3) k
            · have HS' := Lib.hid (HS.out hp hkn)
              go_wp2_with fail
              refine HQ.out.mono ?_
              rw [hp]
              rintro e w1 ⟨rfl, hb⟩
              have L1 := Lib.hid (bT HBW.out hb)
              have z1 := HC.out _ hb
              obtain ⟨d0, d1, d2, d3⟩ := HD'.out _ hb
              have HF' := Lib.hid (HF.out _ hb)
              clear hb c0 c1 c2 c3 x0 x1 HQ
              go_wp2_with fail
              refine HF'.out.mono ?_
              rw [hkn]
              rintro e w2 ⟨rfl, hb⟩
              have L2 := Lib.hid (bT L1.out hb)
              clear hb
              go_wp2_with fail
              go_roundw
              case rel => exact ⟨k + 1, by omega, by go_num, HS'.out, L2.out⟩
              case measure => simp [intOf]; omega
            · have HW' := Lib.hid (HW.out (.inr hkn))
              go_wp2_with fail
              refine HQ.out.mono ?_
              rw [hp]
              rintro e w1 ⟨rfl, hb⟩
              have L1 := Lib.hid (bT HBW.out hb)
              have z1 := HC.out _ hb
              obtain ⟨d0, d1, d2, d3⟩ := HD'.out _ hb
              have HF' := Lib.hid (HF.out _ hb)
              clear hb c0 c1 c2 c3 x0 x1 HQ
              go_wp2_with fail
              refine HF'.out.mono ?_
              rw [hkn]
              rintro e w2 ⟨rfl, hb⟩
              have L2 := Lib.hid (bT L1.out hb)
              clear hb
              go_wp2_with fail
              go_ret
              exact ⟨ret_bool HW'.out.symm, L2.out⟩
        · obtain rfl : k = ms.length := by omega
          have HR := Lib.hid (okW_go HK.out HM.out)
          clear hc
          by_cases h16 : rs.length ≤ 16
          · have HR' := Lib.hid (show okW rs ms = decide (ms.length ≤ 24) by rw [HR.out]; simp [h16])
            have h16' : (rs.length : Int) ≤ 16 := by omega
            go_wp2_with fail
            go_ret
            exact ⟨ret_bool (by rw [HR'.out, Bool.eq_iff_iff]; simp; omega), HBW.out⟩
          · have HR' := Lib.hid (show okW rs ms = false by rw [HR.out]; simp [h16])
            have h16' : ¬ (rs.length : Int) ≤ 16 := by omega
            go_wp2_with fail
            go_ret
            exact ⟨ret_bool HR'.out.symm, HBW.out⟩
theorem ValidWorksS_any (rs : List Arb) (ms : List Msh) (u v : Value) (w : World) (ha : SlA w u rs) (hm : SlM w v ms) :
    Calls Try.prog 12 #[.agg #[u, v]] w (BoolBel (okW rs ms) w) := by
  have H0 := Lib.hid (WkAt.new 31 ha hm)
  clear ha hm
  go_enter Try.func12, Try.ntmps12
  go_wp2_with fail
  refine (l08Ok_any _ rs ms _ H0.out).mono ?_
  rintro e w1 ⟨rfl, hb⟩
  go_wp2_with fail
  go_ret
  exact ⟨rfl, bT (bA (bR _) _) hb⟩
end Go.Proofs.Ytnijbbligkmefaa

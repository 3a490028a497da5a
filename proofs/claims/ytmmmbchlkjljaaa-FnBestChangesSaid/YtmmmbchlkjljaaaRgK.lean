/-
  Rates between readings: both sides.
-/
import Derived.Test.YtmmmbchlkjljaaaRgR
import Derived.Test.YtmmmbchlkjljaaaRgP
import Derived.Deep.AppendLies
import Derived.Deep.RegionLaw
namespace Go.Proofs.Ytmmmbchlkjljaaa
open Go.RowKit

theorem stL_len (ps : List (Int × Int)) : (stL ps).length = ps.length - 1 := stK_len ps _
theorem stL_at {ps : List (Int × Int)} {i : Nat} (h : i + 1 < ps.length) : pat (stL ps) i = ((pat ps (i + 1)).1 - (pat ps i).1, (pat ps (i + 1)).2 - (pat ps i).2) := stK_at (by omega)
theorem stL_bd {ps : List (Int × Int)} (h : okRd ps = true) {i : Nat} (hi : i < (stL ps).length) : (1 ≤ (pat (stL ps) i).1 ∧ (pat (stL ps) i).1 ≤ 10000) ∧ -200000 ≤ (pat (stL ps) i).2 ∧ (pat (stL ps) i).2 ≤ 200000 := by
  rw [stL_len] at hi
  rw [stL_at (by omega)]
  exact step_bd h (by omega)
/-- A row of numbers of one's own beside a list of steps. -/
def JrR (w : World) (ai : Option Addr) (caps : Nat) (ss : List (Int × Int)) (ts : List Int) (vo : Value) (wr : World) : Prop :=
  wr.ownsRow w.heap.size 2 1 vo ts.length (intC ts) ∧ SlP wr (.slice ai ss.length caps) ss ∧ (∀ r, (Value.slice ai ss.length caps).ownBlock = some r → vo.ownBlock ≠ some r ∧ r < wr.heap.size) ∧ Below w.heap.size w wr
theorem JrR.keep {w : World} {ai : Option Addr} {caps : Nat} {ss : List (Int × Int)} {ts : List Int} {vo : Value} {wr x : World} (h : JrR w ai caps ss ts vo wr) (hb : Below wr.heap.size wr x) : JrR w ai caps ss ts vo x :=
  ⟨own_keep h.1 hb, h.2.1.keep hb, fun r e => ⟨(h.2.2.1 r e).1, Nat.lt_of_lt_of_le (h.2.2.1 r e).2 hb.size⟩, bT h.2.2.2 hb⟩
theorem JrR.app {w : World} {ai : Option Addr} {caps : Nat} {ss : List (Int × Int)} {ts : List Int} {vo v' : Value} {wr x : World} {z : Int} (h : JrR w ai caps ss ts vo wr) (hown : x.ownsRow w.heap.size 2 1 v' (ts ++ [z]).length (intC (ts ++ [z]))) (hap : Apd vo v' wr x) : JrR w ai caps ss (ts ++ [z]) v' x := by
  have hB := h.2.2.2.size
  refine ⟨hown, hap.slP h.2.1 (fun r e => (h.2.2.1 r e).1), fun r e => ?_, h.2.2.2.trans (hap.below (fun r e => (own_blk h.1 r e).1) hB)⟩
  obtain ⟨n1, n2⟩ := h.2.2.1 r e
  refine ⟨fun e2 => ?_, Nat.lt_of_lt_of_le n2 hap.size⟩
  rcases hap.own with e3 | ⟨r', e3, h3⟩
  · exact n1 (e3.symm.trans e2)
  · rw [e3] at e2; cases e2; omega

theorem intC_snoc (xs : List Int) (g : Int) : intC (xs ++ [g]) = intC xs ++ [.int .i64 g] := by simp [intC]
set_option maxRecDepth 100000 in
set_option maxHeartbeats 4000000 in
theorem RatesBetweenS_any (ps : List (Int × Int)) (v : Value) (w : World) (ha : SlQ w v ps) (hmax : ps.length ≤ 1000000000000) :
    Calls Try.prog 45 #[v] w (SlC (rbE ps).1 (rbE ps).2 w) := by
  have CL := Lib.hid (fun W (h : SlQ W v ps) => l14Ok_any ps v W h hmax)
  have A0 := Lib.hid ha
  obtain ⟨ao, cap, rfl, _, _⟩ := ha
  cases h2 : okRd ps
  · rw [rbE_1 h2]
    rw [h2] at CL
    go_enter Try.func45, Try.ntmps45
    go_wp2_with fail
    refine (CL.out _ A0.out).mono ?_
    rintro e w1 ⟨rfl, hb⟩
    go_wp2_with fail
    go_ret2
    exact ⟨_, rfl, World.ownsRow_nil _ _ _ _, hb⟩
  rw [h2] at CL
  rw [rbE_0 h2]
  have hln := okRd_len h2
  obtain ⟨i0, hi, hz0, hz1, hz2⟩ := info_parts infoI64
  have HST := Lib.hid (fun i (hi : i + 1 < ps.length) => step_bd h2 hi)
  have HSA := Lib.hid (fun i (hi : i + 1 < ps.length) => stL_at (ps := ps) hi)
  clear h2
  go_enter Try.func45, Try.ntmps45
  go_wp2_with fail
  refine (CL.out _ A0.out).mono ?_
  rintro e w1 ⟨rfl, hb⟩
  have L1 := Lib.hid hb
  obtain ⟨ao1, cap1, e1, _, ha1⟩ := A0.out
  cases e1
  have HA := Lib.hid ha1
  clear hb A0 CL ha1
  have R1 := Lib.hid (own_lower (B' := w.heap.size) (row0 w1 2) L1.out.size)
  have L1b := Lib.hid (bA L1.out (.cells #[] 2))
  go_wp2_with fail
  generalize w1.alloc (.cells #[] 2) = w2 at *
  go_loopw [4, 5] (fun vo vi wr => ∃ m j : Nat, m < j ∧ j ≤ m + 1 ∧ (j ≤ ps.length ∨ j = 1) ∧ vi = .int .i64 j ∧ wr.ownsRow w.heap.size 2 1 vo (rtK (stL ps) m).length (intC (rtK (stL ps) m)) ∧ Below w.heap.size w wr) (fun _ vi _ => ps.length - (intOf vi).toNat)
  case atStart => exact ⟨0, 1, by omega, by omega, Or.inr rfl, rfl, R1.out, L1b.out⟩
  case round =>
    obtain ⟨m, j, hm1, hm2, hjl, rfl, hrow, hbel⟩ := hrel
    have RW := Lib.hid hrow
    have BL := Lib.hid hbel
    have HOB := Lib.hid (own_blk hrow)
    clear hrow R1 L1b L1
    by_cases hlt : j < ps.length
    · obtain ⟨g, o, rfl, hg, hc⟩ := HA.out (by omega)
      have HC := hc.keep hg hbel
      obtain ⟨c1, c2⟩ := HC j hlt
      obtain ⟨d1, d2⟩ := HC m (by omega)
      have e1 : (j : Int) - 1 = (m : Int) := by omega
      have hml : m < ps.length := by omega
      have w1 : IntKind.i64.wrap ((j : Int) - 1) = (m : Int) := by rw [e1]; exact IntWalk.i64_in _ (by omega)
      have w2 : IntKind.i64.wrap (m : Int) = (m : Int) := IntWalk.i64_in _ (by omega)
      have hj : m + 1 = j := by omega
      have bs := HST.out m (by omega)
      have es := HSA.out m (by omega)
      have HT := rtK_succ (stL ps) m
      rw [es] at HT
      unfold rtN at HT
      rw [hj] at HT bs
      have HJ := Lib.hid hj
      have HT := Lib.hid HT
      have hol : (rtK (stL ps) m).length ≤ 60 := by rw [rtK_len]; omega
      have hgw : g < wr.heap.size := Nat.lt_of_lt_of_le hg hbel.size
      have hwr := hbel.size
      clear hc HC HA HST HSA hbel hj hm1 hm2 es
      generalize rtK (stL ps) m = out at *
      generalize (pat ps j).1 = x at *
      generalize (pat ps j).2 = y at *
      generalize (pat ps m).1 = x0 at *
      generalize (pat ps m).2 = y0 at *
      have w3 : IntKind.i64.wrap (x - x0) = x - x0 := IntWalk.i64_in _ (by omega)
      have w4 : IntKind.i64.wrap (y - y0) = y - y0 := IntWalk.i64_in _ (by omega)
      have w5 : IntKind.i64.wrap (24000 * (y - y0)) = 24000 * (y - y0) := IntWalk.i64_in _ (by omega)
      have CN := Lib.hid (fun W => l02Near_any (24000 * (y - y0)) (x - x0) W (by omega) (by omega) (by omega) (by omega))
      clear bs
      generalize near (24000 * (y - y0)) (x - x0) = z at *
      go_wp2_with fail
      go_region_law (first
        | (refine step_append_lies _ (by rfl) _ _ 24 (by rfl) w.heap.size 2 i0 (.int .i64 0) 1 8 Try.underlying24 hi hz0 hz1 hz2 (by rfl) (by decide) _ out.length (intC out) (by rfl) ((own_heapR (W' := wr.drew) RW.out rfl).alloc _) ⟨wr.heap.size, 0, none⟩ 1 1 [.int .i64 z] (by rfl) (by rfl) (row_srcQ _ _ _ _ (by rfl)) (by intro u hu; simp at hu; subst hu; rfl) (by omega) (by unfold maxLen; omega) (by omega) (by simp; omega) _ (by rfl) ?_; intro g' cap' w5 hown5 hg5 hat5 hlt5; have N5 := Lib.hid hown5; have G5 := Lib.hid hg5; clear hown5 hg5 hat5 hlt5)
        | (go_simp; refine (CN.out _).mono ?_; rintro e w' ⟨rfl, rfl⟩))
      all_goals go_wp2_with fail
      all_goals exact ⟨⟨m + 1, j + 1, by have := HJ.out; omega, by have := HJ.out; omega, Or.inl (by omega), by go_num, by rw [HJ.out, HT.out, intC_snoc, List.length_append]; exact N5.out, bel_grownR (bA BL.out.drew _) G5.out (by simp; omega) (fun r e => (HOB.out r e).1)⟩, by simp [intOf]; omega⟩
    · have hm : m = ps.length - 1 := by omega
      have HE := Lib.hid (show rtK (stL ps) m = rtK (stL ps) (ps.length - 1) from by rw [hm])
      clear hm1 hm2 hjl hm HA HST HSA
      go_wp2_with fail
      go_ret2
      exact ⟨_, rfl, by rw [← HE.out]; exact RW.out, BL.out⟩
set_option maxRecDepth 100000 in
set_option maxHeartbeats 4000000 in
theorem RatesBetweenI_any (ps : List (Int × Int)) (v : Value) (w : World) (ha : SlQ w v ps) (hmax : ps.length ≤ 1000000000000) :
    Calls Try.prog 44 #[v] w (SlC (rbE ps).1 (rbE ps).2 w) := by
  have CL := Lib.hid (fun W (h : SlQ W v ps) => ValidReadingsI_any ps v W h hmax)
  have A0 := Lib.hid ha
  obtain ⟨ao, cap, rfl, _, _⟩ := ha
  cases h2 : okRd ps
  · rw [rbE_1 h2]
    rw [h2] at CL
    go_enter Try.func44, Try.ntmps44
    go_wp2_with fail
    refine (CL.out _ A0.out).mono ?_
    rintro e w1 ⟨rfl, hb⟩
    go_wp2_with fail
    go_ret2
    exact ⟨_, rfl, World.ownsRow_nil _ _ _ _, hb⟩
  rw [h2] at CL
  rw [rbE_0 h2]
  have hln := okRd_len h2
  have HST := Lib.hid (fun i (hi : i < (stL ps).length) => stL_bd h2 hi)
  have CT := Lib.hid (fun W (h : SlQ W (.slice ao ps.length cap) ps) => stepsOf_any ps _ W h h2)
  have hss : (stL ps).length ≤ 60 := by rw [stL_len]; omega
  have HSL := Lib.hid (stL_len ps)
  rw [← HSL.out]
  clear h2 hln
  generalize stL ps = ss at *
  go_enter Try.func44, Try.ntmps44
  go_wp2_with fail
  refine (CL.out _ A0.out).mono ?_
  rintro e w1 ⟨rfl, hb⟩
  have A1 := Lib.hid (A0.out.keep hb)
  have L1 := Lib.hid hb
  clear hb A0 CL
  go_wp2_with fail
  refine (CT.out _ A1.out).mono ?_
  rintro e w2 ⟨u, rfl, hr, hb⟩
  obtain ⟨ai, caps, rfl, _⟩ := slP_of hr
  have J2 := Lib.hid (show JrR w ai caps ss [] (.slice none 0 0) w2 from ⟨World.ownsRow_nil _ _ _ _, slP_of hr, fun r e => ⟨by simp [Value.ownBlock], (own_blk hr r e).2⟩, bT L1.out hb⟩)
  clear hr hb A1 L1 CT
  go_wp2_with fail
  go_loopw [4, 13] (fun vo vi wr => ∃ k : Nat, k ≤ ss.length ∧ vi = .int .i64 k ∧ JrR w ai caps ss (rtK ss k) vo wr) (fun _ vi _ => ss.length - (intOf vi).toNat)
  case atStart => exact ⟨0, Nat.zero_le _, rfl, J2.out⟩
  case round =>
    obtain ⟨k, hk, rfl, hj⟩ := hrel
    have JR := Lib.hid hj
    clear hj J2
    by_cases hlt : k < ss.length
    · obtain ⟨ao', cap', e', hcc⟩ := id JR.out.2.1
      obtain ⟨g, ea, hg, hc⟩ := hcc (by omega)
      clear hcc
      cases e'
      subst ea
      obtain ⟨c1, c2⟩ := hc k hlt
      have bs := HST.out k hlt
      have HT := Lib.hid (rtK_succ ss k)
      unfold rtN at HT
      have hol : (rtK ss k).length ≤ 60 := by rw [rtK_len]; omega
      have hwr := JR.out.2.2.2.size
      clear hc HST
      generalize rtK ss k = out at *
      generalize (pat ss k).1 = x at *
      generalize (pat ss k).2 = y at *
      have CN := Lib.hid (fun W => ratePerDay_any y x W (by omega) (by omega) (by omega))
      clear bs
      generalize near (24000 * y) x = z at *
      go_wp2_with fail
      refine (CN.out _).mono ?_
      rintro e w4 ⟨rfl, hb⟩
      have J4 := Lib.hid ((JR.out.keep (bA (bR _) (.cells #[.int .i64 x, .int .i64 y] 53))).keep hb)
      have hB := J4.out.2.2.2.size
      clear hb JR c1 c2
      go_wp2_with (at_builtin; refine app64w rfl _ _ rfl _ _ z rfl J4.out.1 hB (by show Value.slice (some ⟨w4.heap.size, 0, none⟩) 1 1 = _; rfl) (by omega) ?_)
      intro v' w5 hown hap
      have J5 := Lib.hid (J4.out.app (z := z) (by rw [List.length_append]; exact hown) hap)
      clear hown hap J4
      go_wp2_with fail
      go_roundw
      case rel => exact ⟨k + 1, by omega, by go_num, by rw [HT.out]; exact J5.out⟩
      case measure => simp [intOf]; omega
    · obtain rfl : k = ss.length := by omega
      go_wp2_with fail
      go_ret2
      exact ⟨_, rfl, JR.out.1, JR.out.2.2.2⟩
end Go.Proofs.Ytmmmbchlkjljaaa

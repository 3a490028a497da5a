/-
  Residuals of readings: both sides.
-/
import Derived.Test.YtmmmbchlkjljaaaRgT
import Derived.Test.YtmmmbchlkjljaaaRgR
import Derived.Deep.AppendLies
import Derived.Deep.RegionLaw
namespace Go.Proofs.Ytmmmbchlkjljaaa
open Go.RowKit

theorem intC_snocD (xs : List Int) (g : Int) : intC (xs ++ [g]) = intC xs ++ [.int .i64 g] := by simp [intC]
theorem oaF_bd {f : Ft} (hf : FtB f) (hd : 1 ≤ dF f) {h : Int} (h0 : 0 ≤ h ∧ h ≤ 10000) : -144000000000000001 ≤ oaF f h ∧ oaF f h ≤ 144000000000000001 := by
  have a := (atF_bd hf h0).2.2.2
  have b := near_lim (n := atF f h) (d := dF f) (M := 144000000000000000) hd (by omega) (by omega) (by omega)
  unfold oaF
  omega
/-- A row of numbers of one's own beside a box and two cells. -/
def RsS (w : World) (B b : Nat) (vs : List Value) (g o : Nat) (x y : Int) (out : List Int) (vo : Value) (W : World) : Prop :=
  W.ownsRow B 2 1 vo out.length (intC out) ∧ BoxL W b vs ∧ (W.cell? ⟨g, o, none⟩ = some (.int .i64 x) ∧ W.cell? ⟨g, o + 1, none⟩ = some (.int .i64 y) ∧ g < W.heap.size) ∧ Below w.heap.size w W
theorem RsS.keep {w : World} {B b : Nat} {vs : List Value} {g o : Nat} {x y : Int} {out : List Int} {vo : Value} {W x' : World} (hb : Below W.heap.size W x') (h : RsS w B b vs g o x y out vo W) : RsS w B b vs g o x y out vo x' :=
  ⟨own_keep h.1 hb, h.2.1.keep hb, ⟨(hb.cell (p := ⟨g, o, none⟩) h.2.2.1.2.2).trans h.2.2.1.1, (hb.cell (p := ⟨g, o + 1, none⟩) h.2.2.1.2.2).trans h.2.2.1.2.1, Nat.lt_of_lt_of_le h.2.2.1.2.2 hb.size⟩, bT h.2.2.2 hb⟩
theorem BoxL.grownD {w w' : World} {b : Nat} {vs : List Value} {row : Option Nat} (h : BoxL w b vs) (g : w.grownBy w' row) (hn : row ≠ some b) : BoxL w' b vs :=
  ⟨fun i u e => (World.cell?_of_block (g.block b h.lt (fun q => hn q.symm))).trans (h.c i u e), fun i u e => (World.frozen?_of_block (g.block b h.lt (fun q => hn q.symm))).trans (h.f i u e), Nat.lt_of_lt_of_le h.lt g.size⟩

set_option maxRecDepth 100000 in
set_option maxHeartbeats 8000000 in
theorem ResidualsOfS_any (ps : List (Int × Int)) (v : Value) (w : World) (ha : SlQ w v ps) (hmax : ps.length ≤ 1000000000000) :
    Calls Try.prog 43 #[v] w (SlC (roE ps).1 (roE ps).2 w) := by
  obtain ⟨i0, hi, hz0, hz1, hz2⟩ := info_parts infoI64
  have CL := Lib.hid (fun W (h : SlQ W v ps) => l14Ok_any ps v W h hmax)
  have A0 := Lib.hid ha
  obtain ⟨ao, cap, rfl, _, _⟩ := ha
  cases h2 : okRd ps
  · rw [roE_1 h2]
    rw [h2] at CL
    go_enter Try.func43, Try.ntmps43
    go_wp2_with fail
    refine (CL.out _ A0.out).mono ?_
    rintro e w1 ⟨rfl, hb⟩
    go_wp2_with fail
    go_ret2
    exact ⟨_, rfl, World.ownsRow_nil _ _ _ _, hb⟩
  rw [h2] at CL
  have hln := okRd_len h2
  have HB := Lib.hid (fun i (hi : i < ps.length) => okRd_at h2 hi)
  have hok := fit_okR h2
  have CF := Lib.hid (fun W (h : SlQ W (.slice ao ps.length cap) ps) => l14Fit_any ps _ W h (bdR_of h2) hln)
  have CC := Lib.hid (fun W => l14Code_any (fitL ps) W)
  by_cases h3 : dF (fitL ps) = 0
  · rw [roE_6 h2 h3]
    rw [lnC_6 hok h3] at CC
    clear h2
    go_enter Try.func43, Try.ntmps43
    go_wp2_with fail
    refine (CL.out _ A0.out).mono ?_
    rintro e w1 ⟨rfl, hb⟩
    have A1 := Lib.hid (A0.out.keep hb)
    have L1 := Lib.hid hb
    clear hb CL
    go_wp2_with fail
    refine (CF.out _ A1.out).mono ?_
    rintro e w2 ⟨rfl, hb⟩
    have L2 := Lib.hid (bT L1.out hb)
    clear hb A1 L1 CF
    have B3 := Lib.hid (BoxL.new w2 [.int .i64 (fitL ps).n, .int .i64 (fitL ps).x, .int .i64 (fitL ps).y, .int .i64 (fitL ps).xx, .int .i64 (fitL ps).xy] 41)
    have L3 := Lib.hid (bA L2.out (.cells #[.int .i64 (fitL ps).n, .int .i64 (fitL ps).x, .int .i64 (fitL ps).y, .int .i64 (fitL ps).xx, .int .i64 (fitL ps).xy] 41))
    clear L2
    go_upto_region 4 with fail
    generalize w2.alloc (.cells #[.int .i64 (fitL ps).n, .int .i64 (fitL ps).x, .int .i64 (fitL ps).y, .int .i64 (fitL ps).xx, .int .i64 (fitL ps).xy] 41) = w3 at *
    generalize w2.heap.size = fb at *
    obtain ⟨c0, c1, c2, c3, c4, c5⟩ := B3.out.c5
    go_wp2_with fail
    refine (CC.out _).mono ?_
    rintro e w4 ⟨rfl, hb⟩
    have B4 := Lib.hid (B3.out.keep hb)
    have L4 := Lib.hid (bT L3.out hb)
    clear hb c0 c1 c2 c3 c4 c5 B3 L3
    go_wp2_with fail
    go_ret2
    exact ⟨_, rfl, World.ownsRow_nil _ _ _ _, L4.out⟩
  rw [roE_0 h2 h3]
  rw [lnC_0 hok h3] at CC
  have hfb := okFt_bd hok
  have hd : 1 ≤ dF (fitL ps) := by have := hfb.d; omega
  have HF := Lib.hid (And.intro hfb hd)
  clear h2 h3 hok hfb hd
  go_enter Try.func43, Try.ntmps43
  go_wp2_with fail
  refine (CL.out _ A0.out).mono ?_
  rintro e w1 ⟨rfl, hb⟩
  have A1 := Lib.hid (A0.out.keep hb)
  have L1 := Lib.hid hb
  clear hb CL
  go_wp2_with fail
  refine (CF.out _ A1.out).mono ?_
  rintro e w2 ⟨rfl, hb⟩
  have L2 := Lib.hid (bT L1.out hb)
  clear hb A1 L1 CF
  have B3 := Lib.hid (BoxL.new w2 [.int .i64 (fitL ps).n, .int .i64 (fitL ps).x, .int .i64 (fitL ps).y, .int .i64 (fitL ps).xx, .int .i64 (fitL ps).xy] 41)
  have L3 := Lib.hid (bA L2.out (.cells #[.int .i64 (fitL ps).n, .int .i64 (fitL ps).x, .int .i64 (fitL ps).y, .int .i64 (fitL ps).xx, .int .i64 (fitL ps).xy] 41))
  clear L2
  go_upto_region 4 with fail
  generalize w2.alloc (.cells #[.int .i64 (fitL ps).n, .int .i64 (fitL ps).x, .int .i64 (fitL ps).y, .int .i64 (fitL ps).xx, .int .i64 (fitL ps).xy] 41) = w3 at *
  generalize w2.heap.size = fb at *
  obtain ⟨c0, c1, c2, c3, c4, c5⟩ := B3.out.c5
  go_wp2_with fail
  refine (CC.out _).mono ?_
  rintro e w4 ⟨rfl, hb⟩
  have B4 := Lib.hid (B3.out.keep hb)
  have L4 := Lib.hid (bT L3.out hb)
  clear hb c0 c1 c2 c3 c4 c5 B3 L3
  have R4 := Lib.hid (row0 w4 2)
  have hfb4 := B4.out.lt
  have hsz4 := L4.out.size
  have B5 := Lib.hid (B4.out.alloc (.cells #[] 2))
  have L5 := Lib.hid (bA L4.out (.cells #[] 2))
  clear B4 L4 CC
  go_wp2_with fail
  have hs5 : w4.heap.size ≤ (w4.alloc (.cells #[] 2)).heap.size := by simp
  generalize w4.alloc (.cells #[] 2) = w5 at *
  generalize fitL ps = f at *
  generalize w4.heap.size = B4 at *
  go_loopw [5, 6] (fun vo vi wr => ∃ k : Nat, k ≤ ps.length ∧ vi = .int .i64 k ∧ wr.ownsRow B4 2 1 vo (rsK ps f k).length (intC (rsK ps f k)) ∧ BoxL wr fb [.int .i64 f.n, .int .i64 f.x, .int .i64 f.y, .int .i64 f.xx, .int .i64 f.xy] ∧ B4 ≤ wr.heap.size ∧ Below w.heap.size w wr) (fun _ vi _ => ps.length - (intOf vi).toNat)
  case atStart => exact ⟨0, Nat.zero_le _, rfl, R4.out, B5.out, hs5, L5.out⟩
  case round =>
    obtain ⟨k, hk, rfl, hrow, hbx, hBB, hbel⟩ := hrel
    have HBB := Lib.hid hBB
    have HOB := Lib.hid (own_blk hrow)
    by_cases hlt : k < ps.length
    · obtain ⟨ao1, cap1, e1, _, ha1⟩ := A0.out
      cases e1
      obtain ⟨g, o, rfl, hg, hc⟩ := ha1 (by omega)
      obtain ⟨c1, c2⟩ := (hc.keep hg hbel) k hlt
      have hgw : g < wr.heap.size := Nat.lt_of_lt_of_le hg hbel.size
      have bk := HB.out k hlt
      have HT := rsK_succ ps f k
      have hol : (rsK ps f k).length ≤ 60 := by rw [rsK_len]; omega
      have hz := oaF_bd HF.out.1 HF.out.2 bk.1
      have CA := Lib.hid (fun W => l14At_any f (pat ps k).1 W HF.out.1 HF.out.2 bk.1)
      have T0 := Lib.hid (show RsS w B4 fb [.int .i64 f.n, .int .i64 f.x, .int .i64 f.y, .int .i64 f.xx, .int .i64 f.xy] g (o + k * 2) (pat ps k).1 (pat ps k).2 (rsK ps f k) _ wr from ⟨hrow, hbx, ⟨c1, c2, hgw⟩, hbel⟩)
      have T0d := Lib.hid (RsS.keep (bR wr).drew T0.out)
      have hwr := hbel.size
      obtain ⟨b0, b1, b2, b3, b4, b5⟩ := hbx.c5
      have HT := Lib.hid HT
      clear hc ha1 hrow hbx hbel R4 B5 L5 T0
      generalize oaF f (pat ps k).1 = z at *
      generalize (pat ps k).1 = x at *
      generalize (pat ps k).2 = y at *
      have w1 : IntKind.i64.wrap (y - z) = y - z := IntWalk.i64_in _ (by omega)
      generalize rsK ps f k = out at *
      clear bk hz
      go_wp2_with fail
      go_region_law (first
        | (refine step_append_lies _ (by rfl) _ _ 24 (by rfl) B4 2 i0 (.int .i64 0) 1 8 Try.underlying24 hi hz0 hz1 hz2 (by rfl) (by decide) _ out.length (intC out) (by rfl) (T1.out.1.alloc _) ⟨_, 0, none⟩ 1 1 [.int .i64 (y - z)] (by rfl) (by rfl) (row_srcQ _ _ _ _ (by rfl)) (by intro u hu; simp at hu; subst hu; rfl) (by omega) (by unfold maxLen; omega) (by omega) (by have q := HBB.out; simp at hs1; simp; omega) _ (by rfl) ?_; intro g' cap' w5 hown5 hg5 hat5 hlt5; have N5 := Lib.hid hown5; have G5 := Lib.hid hg5; clear hown5 hg5 hat5 hlt5)
        | (go_simp; go_at_call 77; refine (CA.out _).mono ?_; rintro e w' ⟨rfl, hb⟩; have hs1 := hb.size; have T1 := Lib.hid (RsS.keep hb T0d.out); obtain ⟨d0, d1, d2, d3, d4, d5⟩ := T1.out.2.1.c5; obtain ⟨d6, d7, d8⟩ := T1.out.2.2.1; clear hb))
      all_goals go_wp2_with fail
      all_goals exact ⟨⟨k + 1, by omega, by go_num, by rw [HT.out, intC_snocD, List.length_append]; exact N5.out, (T1.out.2.1.alloc _).grownD G5.out (fun e => by have := (HOB.out _ e).1; omega), by have := G5.out.size; have q := HBB.out; simp at hs1 this; omega, bel_grownR (bA T1.out.2.2.2 _) G5.out (by have := T1.out.2.2.2.size; simp; omega) (fun r e => by have := (HOB.out r e).1; omega)⟩, by simp [intOf]; omega⟩
    · obtain rfl : k = ps.length := by omega
      have RF := Lib.hid (own_lower (B' := w.heap.size) hrow hsz4)
      have LF := Lib.hid hbel
      clear HB HF
      go_wp2_with fail
      go_ret2
      exact ⟨_, rfl, RF.out, LF.out⟩
set_option maxRecDepth 100000 in
set_option maxHeartbeats 8000000 in
theorem ResidualsOfI_any (ps : List (Int × Int)) (v : Value) (w : World) (ha : SlQ w v ps) (hmax : ps.length ≤ 1000000000000) :
    Calls Try.prog 41 #[v] w (SlC (roE ps).1 (roE ps).2 w) := by
  obtain ⟨i0, hi, hz0, hz1, hz2⟩ := info_parts infoI64
  have CL := Lib.hid (fun W (h : SlQ W v ps) => ValidReadingsI_any ps v W h hmax)
  have A0 := Lib.hid ha
  obtain ⟨ao, cap, rfl, _, _⟩ := ha
  cases h2 : okRd ps
  · rw [roE_1 h2]
    rw [h2] at CL
    go_enter Try.func41, Try.ntmps41
    go_wp2_with fail
    refine (CL.out _ A0.out).mono ?_
    rintro e w1 ⟨rfl, hb⟩
    go_wp2_with fail
    go_ret2
    exact ⟨_, rfl, World.ownsRow_nil _ _ _ _, hb⟩
  rw [h2] at CL
  have hln := okRd_len h2
  have HB := Lib.hid (fun i (hi : i < ps.length) => okRd_at h2 hi)
  have hok := fit_okR h2
  have CF := Lib.hid (fun W (h : SlQ W (.slice ao ps.length cap) ps) => fitOf_any ps _ W h (bdR_of h2) hln)
  by_cases h3 : dF (fitL ps) = 0
  · rw [roE_6 h2 h3]
    have CC := Lib.hid (fun W => lineOf_flat (fitL ps) W hok h3)
    clear h2
    go_enter Try.func41, Try.ntmps41
    go_wp2_with fail
    refine (CL.out _ A0.out).mono ?_
    rintro e w1 ⟨rfl, hb⟩
    have A1 := Lib.hid (A0.out.keep hb)
    have L1 := Lib.hid hb
    clear hb CL
    go_wp2_with fail
    refine (CF.out _ A1.out).mono ?_
    rintro e w2 ⟨rfl, hb⟩
    have L2 := Lib.hid (bT L1.out hb)
    clear hb A1 L1 CF
    go_wp2_with fail
    refine (CC.out _).mono ?_
    rintro e w4 ⟨rfl, hb⟩
    have L4 := Lib.hid (bA (bT L2.out hb) (.cells #[.int .i64 0, .int .i64 0, .int .i64 0, .int .i64 0, .int .i64 0, .int .i64 0, .int .i64 0] 83))
    clear hb L2
    go_wp2_with fail
    go_ret2
    exact ⟨_, rfl, World.ownsRow_nil _ _ _ _, L4.out⟩
  rw [roE_0 h2 h3]
  have CC := Lib.hid (fun W => lineOf_yes (fitL ps) W hok h3)
  have hfb := okFt_bd hok
  have hd : 1 ≤ dF (fitL ps) := by have := hfb.d; omega
  have HF := Lib.hid (And.intro hfb hd)
  clear h2 h3 hok hfb hd
  go_enter Try.func41, Try.ntmps41
  go_wp2_with fail
  refine (CL.out _ A0.out).mono ?_
  rintro e w1 ⟨rfl, hb⟩
  have A1 := Lib.hid (A0.out.keep hb)
  have L1 := Lib.hid hb
  clear hb CL
  go_wp2_with fail
  refine (CF.out _ A1.out).mono ?_
  rintro e w2 ⟨rfl, hb⟩
  have L2 := Lib.hid (bT L1.out hb)
  clear hb A1 L1 CF
  go_wp2_with fail
  refine (CC.out _).mono ?_
  rintro e w4 ⟨rfl, hb⟩
  have L5 := Lib.hid (bA (bT L2.out hb) (.cells #[.int .i64 (fitL ps).n, .int .i64 (fitL ps).x, .int .i64 (fitL ps).y, .int .i64 (fitL ps).xx, .int .i64 (fitL ps).xy, .int .i64 (nF (fitL ps)), .int .i64 (dF (fitL ps))] 83))
  have B5 := Lib.hid (BoxL.new w4 [.int .i64 (fitL ps).n, .int .i64 (fitL ps).x, .int .i64 (fitL ps).y, .int .i64 (fitL ps).xx, .int .i64 (fitL ps).xy, .int .i64 (nF (fitL ps)), .int .i64 (dF (fitL ps))] 83)
  clear hb L2 CC
  go_upto_region 4 with fail
  generalize w4.alloc (.cells #[.int .i64 (fitL ps).n, .int .i64 (fitL ps).x, .int .i64 (fitL ps).y, .int .i64 (fitL ps).xx, .int .i64 (fitL ps).xy, .int .i64 (nF (fitL ps)), .int .i64 (dF (fitL ps))] 83) = w5 at *
  generalize w4.heap.size = fb at *
  have R5 := Lib.hid (World.ownsRow_nil w5 w5.heap.size 2 1)
  have hfb4 := B5.out.lt
  have hsz4 := L5.out.size
  generalize fitL ps = f at *
  go_wp2_with fail
  generalize hB4 : w5.heap.size = B4 at *
  go_loopw [6, 23] (fun vo vi wr => ∃ k : Nat, k ≤ ps.length ∧ vi = .int .i64 k ∧ wr.ownsRow B4 2 1 vo (rsK ps f k).length (intC (rsK ps f k)) ∧ BoxL wr fb [.int .i64 f.n, .int .i64 f.x, .int .i64 f.y, .int .i64 f.xx, .int .i64 f.xy, .int .i64 (nF f), .int .i64 (dF f)] ∧ B4 ≤ wr.heap.size ∧ Below w.heap.size w wr) (fun _ vi _ => ps.length - (intOf vi).toNat)
  case atStart => exact ⟨0, Nat.zero_le _, rfl, R5.out, B5.out, Nat.le_of_eq hB4.symm, L5.out⟩
  case round =>
    obtain ⟨k, hk, rfl, hrow, hbx, hBB, hbel⟩ := hrel
    have HOB := Lib.hid (own_blk hrow)
    by_cases hlt : k < ps.length
    · obtain ⟨ao1, cap1, e1, _, ha1⟩ := A0.out
      cases e1
      obtain ⟨g, o, rfl, hg, hc⟩ := ha1 (by omega)
      obtain ⟨c1, c2⟩ := (hc.keep hg hbel) k hlt
      have bk := HB.out k hlt
      have HT := rsK_succ ps f k
      have hol : (rsK ps f k).length ≤ 60 := by rw [rsK_len]; omega
      have hz := oaF_bd HF.out.1 HF.out.2 bk.1
      have CA := Lib.hid (fun W => lineAt_any f (pat ps k).1 W HF.out.1 HF.out.2 bk.1)
      have hBa : Below wr.heap.size wr (wr.alloc (.cells #[.int .i64 (pat ps k).1, .int .i64 (pat ps k).2] 53)) := bA (bR wr) _
      have T0 := Lib.hid (show RsS w B4 fb [.int .i64 f.n, .int .i64 f.x, .int .i64 f.y, .int .i64 f.xx, .int .i64 f.xy, .int .i64 (nF f), .int .i64 (dF f)] wr.heap.size 0 (pat ps k).1 (pat ps k).2 (rsK ps f k) _ (wr.alloc (.cells #[.int .i64 (pat ps k).1, .int .i64 (pat ps k).2] 53)) from ⟨own_keep hrow hBa, hbx.keep hBa, ⟨by simp [go_sem], by simp [go_sem], by simp⟩, bT hbel hBa⟩)
      have hBB2 : B4 ≤ (wr.alloc (.cells #[.int .i64 (pat ps k).1, .int .i64 (pat ps k).2] 53)).heap.size := by simp; omega
      have HT := Lib.hid HT
      clear hc ha1 hrow hbx hbel R5 B5 L5 hBB hBa
      go_upto_region 10 with fail
      generalize oaF f (pat ps k).1 = z at *
      generalize (pat ps k).1 = x at *
      generalize (pat ps k).2 = y at *
      have w1 : IntKind.i64.wrap (y - z) = y - z := IntWalk.i64_in _ (by omega)
      generalize rsK ps f k = out at *
      generalize wr.alloc (.cells #[.int .i64 x, .int .i64 y] 53) = wq at *
      generalize wr.heap.size = cb at *
      have T0d := Lib.hid (RsS.keep (bR wq).drew T0.out)
      obtain ⟨b0, b1, b2, b3, b4, b5, b6, b7⟩ := T0.out.2.1.c7
      obtain ⟨a6, a7, a8⟩ := T0.out.2.2.1
      have HBB := Lib.hid hBB2
      clear bk hz T0 hBB2 hB4
      go_region_law (first
        | (refine step_append_lies _ (by rfl) _ _ 24 (by rfl) B4 2 i0 (.int .i64 0) 1 8 Try.underlying24 hi hz0 hz1 hz2 (by rfl) (by decide) _ out.length (intC out) (by rfl) (T1.out.1.alloc _) ⟨_, 0, none⟩ 1 1 [.int .i64 (y - z)] (by rfl) (by rfl) (row_srcQ _ _ _ _ (by rfl)) (by intro u hu; simp at hu; subst hu; rfl) (by omega) (by unfold maxLen; omega) (by omega) (by have q := HBB.out; simp at hs1; simp; omega) _ (by rfl) ?_; intro g' cap' w5 hown5 hg5 hat5 hlt5; have N5 := Lib.hid hown5; have G5 := Lib.hid hg5; clear hown5 hg5 hat5 hlt5)
        | (go_simp; go_at_call 70; refine (CA.out _).mono ?_; rintro e w' ⟨rfl, hb⟩; have hs1 := hb.size; have T1 := Lib.hid (RsS.keep hb T0d.out); obtain ⟨d0, d1, d2, d3, d4, d5, d9, dA⟩ := T1.out.2.1.c7; obtain ⟨d6, d7, d8⟩ := T1.out.2.2.1; clear hb))
      all_goals go_wp2_with fail
      all_goals exact ⟨⟨k + 1, by omega, by go_num, by rw [HT.out, intC_snocD, List.length_append]; exact N5.out, (T1.out.2.1.alloc _).grownD G5.out (fun e => by have := (HOB.out _ e).1; omega), by have := G5.out.size; have q := HBB.out; simp at hs1 this; omega, bel_grownR (bA T1.out.2.2.2 _) G5.out (by have := T1.out.2.2.2.size; simp; omega) (fun r e => by have := (HOB.out r e).1; omega)⟩, by simp [intOf]; omega⟩
    · obtain rfl : k = ps.length := by omega
      have RF := Lib.hid (own_lower (B' := w.heap.size) hrow hsz4)
      have LF := Lib.hid hbel
      clear HB HF
      go_wp2_with fail
      go_ret2
      exact ⟨_, rfl, RF.out, LF.out⟩
end Go.Proofs.Ytmmmbchlkjljaaa

/-
  Drifts, the program's side: DriftSum; the clock on its way; DriftsAfter.
-/
import Derived.Test.YtgcalgkpaehonaaRaP
import Derived.Test.YtgcalgkpaehonaaRaU
import Derived.Test.YtgcalgkpaehonaaScl
namespace Go.Proofs.Ytgcalgkpaehonaa
open Go.RowKit

set_option maxRecDepth 100000 in
set_option maxHeartbeats 4000000 in
theorem DriftSumI_any (b l c m : Int) (ps : List (Int × Int)) (v : Value) (w : World) (ha : SlP w v ps) (hmax : ps.length ≤ 1000000000000) :
    Calls Try.prog 22 #[.agg #[.int .i64 b, .int .i64 l, .int .i64 c, .int .i64 m], v] w (TwoN (dsE b l c m ps).1 (dsE b l c m ps).2 w) := by
  have CO := Lib.hid (fun W => ValidRateI_any b l c m W)
  have CL := Lib.hid (fun v W (h : SlP W v ps) => ValidSegmentsI_any ps v W h hmax)
  have B0 := Lib.hid (BoxL.new w [.int .i64 b, .int .i64 l, .int .i64 c, .int .i64 m] 25)
  have L0 := Lib.hid (bA (bR w) (.cells #[.int .i64 b, .int .i64 l, .int .i64 c, .int .i64 m] 25))
  have A0 := Lib.hid (ha.keep (bA (bR w) (.cells #[.int .i64 b, .int .i64 l, .int .i64 c, .int .i64 m] 25)))
  obtain ⟨ao, cap, rfl, _⟩ := ha
  cases h1 : okRt b l c m
  · rw [dsE_1 h1]
    rw [h1] at CO
    go_enter Try.func22, Try.ntmps22
    go_wp2_with fail
    refine (CO.out _).mono ?_
    rintro e w1 ⟨rfl, hb⟩
    have B1 := Lib.hid (B0.out.keep hb)
    have L1 := Lib.hid (bT L0.out hb)
    have A1 := Lib.hid (A0.out.keep hb)
    clear hb B0 L0 A0
    obtain ⟨c0, c1, c2, c3, c4⟩ := B1.out.c4
    go_wp2_with fail
    go_ret2
    exact ⟨rfl, L1.out⟩
  rw [h1] at CO
  cases h2 : okSl ps
  · rw [dsE_2 h2]
    rw [h2] at CL
    go_enter Try.func22, Try.ntmps22
    go_wp2_with fail
    refine (CO.out _).mono ?_
    rintro e w1 ⟨rfl, hb⟩
    have B1 := Lib.hid (B0.out.keep hb)
    have L1 := Lib.hid (bT L0.out hb)
    have A1 := Lib.hid (A0.out.keep hb)
    clear hb B0 L0 A0
    obtain ⟨c0, c1, c2, c3, c4⟩ := B1.out.c4
    go_wp2_with fail
    refine (CL.out _ _ A1.out).mono ?_
    rintro e w2 ⟨rfl, hb⟩
    have B2 := Lib.hid (B1.out.keep hb)
    have L2 := Lib.hid (bT L1.out hb)
    have A2 := Lib.hid (A1.out.keep hb)
    clear hb B1 L1 A1 c0 c1 c2 c3 c4
    obtain ⟨c0, c1, c2, c3, c4⟩ := B2.out.c4
    go_wp2_with fail
    go_ret2
    exact ⟨rfl, L2.out⟩
  rw [h2] at CL
  have hR := rte_of h1
  rw [dsE_0 h1 h2]
  have CS := Lib.hid (fun v W (h : SlP W v ps) => sumD_any b l c m ps v W h hR h2)
  clear hR
  generalize smF (drS b l c m) ps = s at *
  go_enter Try.func22, Try.ntmps22
  go_wp2_with fail
  refine (CO.out _).mono ?_
  rintro e w1 ⟨rfl, hb⟩
  have B1 := Lib.hid (B0.out.keep hb)
  have L1 := Lib.hid (bT L0.out hb)
  have A1 := Lib.hid (A0.out.keep hb)
  clear hb B0 L0 A0
  obtain ⟨c0, c1, c2, c3, c4⟩ := B1.out.c4
  go_wp2_with fail
  refine (CL.out _ _ A1.out).mono ?_
  rintro e w2 ⟨rfl, hb⟩
  have B2 := Lib.hid (B1.out.keep hb)
  have L2 := Lib.hid (bT L1.out hb)
  have A2 := Lib.hid (A1.out.keep hb)
  clear hb B1 L1 A1 c0 c1 c2 c3 c4
  obtain ⟨c0, c1, c2, c3, c4⟩ := B2.out.c4
  go_wp2_with fail
  refine (CS.out _ _ A2.out).mono ?_
  rintro e w3 ⟨rfl, hb⟩
  have L3 := Lib.hid (bT L2.out hb)
  clear hb c0 c1 c2 c3 c4 B2 A2 L2
  go_wp2_with fail
  go_ret2
  exact ⟨rfl, L3.out⟩
/-- What a pass leaves: the sum in the clock's box, and all else. -/
def PsR (bk : Nat) (b l c m s : Int) (w : World) (e : Ending) (w' : World) : Prop := e = .returned (.tuple #[]) ∧ BoxL w' bk [.int .i64 b, .int .i64 l, .int .i64 c, .int .i64 m, .int .i64 s] ∧ w.grownBy w' (some bk)
/-- What stands during a pass. -/
def PsC (w : World) (bk : Nat) (x y b l c m s : Int) (w' : World) : Prop :=
  w'.cell? ⟨w.heap.size, 0, none⟩ = some (.int .i64 x) ∧ w'.cell? ⟨w.heap.size, 1, none⟩ = some (.int .i64 y) ∧ w'.cell? ⟨bk, 0, none⟩ = some (.int .i64 b) ∧ w'.cell? ⟨bk, 1, none⟩ = some (.int .i64 l) ∧ w'.cell? ⟨bk, 2, none⟩ = some (.int .i64 c) ∧ w'.cell? ⟨bk, 3, none⟩ = some (.int .i64 m) ∧ w'.cell? ⟨bk, 4, none⟩ = some (.int .i64 s) ∧ w'.frozen? ⟨bk, 4, none⟩ = false ∧ w.heap.size < w'.heap.size ∧ bk < w'.heap.size ∧ Below w.heap.size w w'
theorem PsC.of {w : World} {bk : Nat} {x y b l c m s : Int} {w' : World} (h : BoxL w' w.heap.size [.int .i64 x, .int .i64 y]) (h2 : BoxL w' bk [.int .i64 b, .int .i64 l, .int .i64 c, .int .i64 m, .int .i64 s]) (hb : Below w.heap.size w w') : PsC w bk x y b l c m s w' := by
  obtain ⟨d0, d1, d2⟩ := h.c2
  obtain ⟨c0, c1, c2, c3, c4, c5⟩ := h2.c5
  exact ⟨d0, d1, c0, c1, c2, c3, c4, h2.f5.2.2.2.2, d2, c5, hb⟩
theorem PsC.keep {w : World} {bk : Nat} {x y b l c m s : Int} {w' w2 : World} (hb : Below w'.heap.size w' w2) (h : PsC w bk x y b l c m s w') : PsC w bk x y b l c m s w2 := by
  obtain ⟨h1, h2, h3, h4, h5, h6, h7, hf, h8, h9, h10⟩ := h
  exact ⟨(hb.cell (p := ⟨w.heap.size, 0, none⟩) h8).trans h1, (hb.cell (p := ⟨w.heap.size, 1, none⟩) h8).trans h2, (hb.cell (p := ⟨bk, 0, none⟩) h9).trans h3, (hb.cell (p := ⟨bk, 1, none⟩) h9).trans h4, (hb.cell (p := ⟨bk, 2, none⟩) h9).trans h5, (hb.cell (p := ⟨bk, 3, none⟩) h9).trans h6, (hb.cell (p := ⟨bk, 4, none⟩) h9).trans h7, (hb.frozen (p := ⟨bk, 4, none⟩) h9).trans hf, Nat.lt_of_lt_of_le h8 hb.size, Nat.lt_of_lt_of_le h9 hb.size, bT h10 hb⟩
theorem PsC.drew {w : World} {bk : Nat} {x y b l c m s : Int} {w' : World} (h : PsC w bk x y b l c m s w') : PsC w bk x y b l c m s w'.drew := h.keep (bR _).drew
theorem PsC.bel {w : World} {bk : Nat} {x y b l c m s : Int} {w' : World} (h : PsC w bk x y b l c m s w') : Below w.heap.size w w' := h.2.2.2.2.2.2.2.2.2.2
/-- A box of five cells, the last of which is stored. -/
theorem clk_set {w : World} {bk : Nat} {b l c m s t : Int} (h : BoxL w bk [.int .i64 b, .int .i64 l, .int .i64 c, .int .i64 m, .int .i64 s]) : BoxL (w.setCell ⟨bk, 4, none⟩ (.int .i64 t)) bk [.int .i64 b, .int .i64 l, .int .i64 c, .int .i64 m, .int .i64 t] := by
  have hf := h.f5
  have hc := h.c5
  refine ⟨fun i u hi => ?_, fun i u hi => ?_, by simpa [World.setCell] using h.lt⟩
  · match i, hi with
    | 0, hi => simp at hi; subst hi; simp [go_sem, hc.1]
    | 1, hi => simp at hi; subst hi; simp [go_sem, hc.2.1]
    | 2, hi => simp at hi; subst hi; simp [go_sem, hc.2.2.1]
    | 3, hi => simp at hi; subst hi; simp [go_sem, hc.2.2.2.1]
    | 4, hi => simp at hi; subst hi; simp [go_sem, hc.2.2.2.2.1]
    | i + 5, hi => simp at hi
  · match i, hi with
    | 0, _ => simp [go_sem, hf.1]
    | 1, _ => simp [go_sem, hf.2.1]
    | 2, _ => simp [go_sem, hf.2.2.1]
    | 3, _ => simp [go_sem, hf.2.2.2.1]
    | 4, _ => simp [go_sem, hf.2.2.2.2]
    | i + 5, hi => simp at hi
theorem grown_set {w w1 : World} {bk o : Nat} {v : Value} (hb : Below w.heap.size w w1) : w.grownBy (w1.setCell ⟨bk, o, none⟩ v) (some bk) :=
  ⟨hb.os, hb.tape, hb.output, by simpa [World.setCell] using hb.size, fun k hk hn => (Below.heap_setCell _ _ _ _ (fun e => hn (by rw [e]))).trans (hb.block k hk)⟩
theorem ownG {W W' : World} {B : Nat} {t : TypeId} {sz n : Nat} {v : Value} {xs : List Value} {row : Option Nat} (h : W.ownsRow B t sz v n xs) (g : W.grownBy W' row) (hne : ∀ k, v.ownBlock = some k → some k ≠ row) : W'.ownsRow B t sz v n xs := by
  refine ⟨h.1, ?_⟩
  rcases h.2 with h0 | ⟨g', cap, cur, h0, hB, hh, r⟩
  · exact .inl h0
  · exact .inr ⟨g', cap, cur, h0, hB, (g.block g' (Array.getElem?_eq_some_iff.1 hh).1 (fun e => hne g' (by rw [h0]; rfl) e)).trans hh, r⟩
set_option maxRecDepth 100000 in
set_option maxHeartbeats 4000000 in
theorem pass_any (bk : Nat) (b l c m s x y : Int) (w : World) (h : Rte b l c m) (hp : okSg (x, y) = true) (hB : BoxL w bk [.int .i64 b, .int .i64 l, .int .i64 c, .int .i64 m, .int .i64 s]) (hs : -9000000000000000000 ≤ s ∧ s ≤ 9000000000000000000) :
    Calls Try.prog 59 #[.pointer (some ⟨bk, 0, none⟩), .agg #[.int .i64 x, .int .i64 y]] w (PsR bk b l c m (s + drS b l c m (x, y)) w) := by
  have CD := Lib.hid (fun W => driftIn_any b l c m x y W h hp)
  have hd := drS_bd h hp
  clear h hp
  generalize drS b l c m (x, y) = d at *
  have g1 : IntKind.i64.wrap (s + d) = s + d := IntWalk.i64_in _ (by omega)
  have hlt := hB.lt
  have X0 := Lib.hid (hB.alloc (.cells #[.int .i64 x, .int .i64 y] 49))
  have H0 := PsC.of (BoxL.new w [.int .i64 x, .int .i64 y] 49) X0.out (bA (bR _) _)
  have L0 := Lib.hid (bA (bR w) (.cells #[.int .i64 x, .int .i64 y] 49))
  go_enter Try.func59, Try.ntmps59
  go_wp2_with fail
  generalize w.alloc (.cells #[.int .i64 x, .int .i64 y] 49) = W0 at *
  obtain ⟨a0, a1, a2, a3, a4, a5, a6, a7, a8, a9, a10⟩ := H0
  go_region_with (go_at_call 47; refine (CD.out _).mono ?_; rintro en w1 ⟨rfl, hb⟩; have HB := Lib.hid (show Below W0.heap.size W0 w1 from ⟨hb.os, hb.tape, hb.output, hb.size, hb.block⟩); have m4 : w1.cell? ⟨bk, 4, none⟩ = some (.int .i64 s) := (HB.out.cell (p := ⟨bk, 4, none⟩) a9).trans a6; have m5 : w1.frozen? ⟨bk, 4, none⟩ = false := (HB.out.frozen (p := ⟨bk, 4, none⟩) a9).trans a7)
  all_goals go_end0
  all_goals exact ⟨rfl, clk_set (X0.out.keep HB.out), grown_set (bT L0.out HB.out)⟩
/-- What stands between two segments. -/
def SaR (b l c m : Int) (ps : List (Int × Int)) (w : World) (vo vi : Value) (wr : World) : Prop :=
  ∃ k : Nat, vi = .int .i64 k ∧ k ≤ ps.length ∧ wr.ownsRow (w.heap.size + 1 + 1) 2 1 vo (rnK (drS b l c m) ps k).length (intC (rnK (drS b l c m) ps k)) ∧ BoxL wr (w.heap.size + 1) [.int .i64 b, .int .i64 l, .int .i64 c, .int .i64 m, .int .i64 (smF (drS b l c m) (ps.take k))] ∧ Below w.heap.size w wr ∧ w.heap.size + 1 + 1 ≤ wr.heap.size
set_option maxRecDepth 100000 in
set_option maxHeartbeats 4000000 in
theorem sumsAfter_any (b l c m : Int) (ps : List (Int × Int)) (v : Value) (w : World) (ha : SlP w v ps) (h : Rte b l c m) (hp : okSl ps = true) :
    Calls Try.prog 49 #[.agg #[.int .i64 b, .int .i64 l, .int .i64 c, .int .i64 m], v] w (NumsB (rnK (drS b l c m) ps ps.length) w) := by
  obtain ⟨ao, cap, rfl, ha⟩ := ha
  have HA := Lib.hid ha
  have HS := Lib.hid (sumD_bd h hp)
  have PA := Lib.hid (fun bk s k (hk : k < ps.length) W hB hs => pass_any bk b l c m s (pat ps k).1 (pat ps k).2 W h ((okSl_iff.1 hp).2 _ (pat_mem hk)) hB hs)
  have hlen := (okSl_iff.1 hp).1
  have B0 := Lib.hid (BoxL.at_ (w := w.alloc (.cells #[.int .i64 b, .int .i64 l, .int .i64 c, .int .i64 m] 25)) (b := w.heap.size + 1) (vs := [.int .i64 b, .int .i64 l, .int .i64 c, .int .i64 m, .int .i64 0]) (T := 66) (by simp))
  have L0 := Lib.hid (bA (bA (bR w) (.cells #[.int .i64 b, .int .i64 l, .int .i64 c, .int .i64 m] 25)) (.cells #[.int .i64 b, .int .i64 l, .int .i64 c, .int .i64 m, .int .i64 0] 66))
  clear ha h hp
  go_enter Try.func49, Try.ntmps49
  go_wp2_with fail
  generalize (w.alloc (.cells #[.int .i64 b, .int .i64 l, .int .i64 c, .int .i64 m] 25)).alloc (.cells #[.int .i64 b, .int .i64 l, .int .i64 c, .int .i64 m, .int .i64 0] 66) = W0 at *
  go_loopw [6, 13] (fun vo vi wr => SaR b l c m ps w vo vi wr) (fun _ vi _ => ps.length - (intOf vi).toNat)
  case atStart => exact ⟨0, rfl, by omega, World.ownsRow_nil _ _ _ _, by simpa [smF] using B0.out, L0.out, by have := B0.out.lt; omega⟩
  case round =>
    obtain ⟨k, rfl, hk, hrow, hbx, hbel, hB⟩ := hrel
    have RW := Lib.hid hrow
    have BX := Lib.hid hbx
    have BL := Lib.hid hbel
    clear hrow hbx hbel B0 L0
    by_cases hlt : k < ps.length
    · obtain ⟨g, rfl, hg, hc⟩ := HA.out (by omega)
      obtain ⟨c1, c2⟩ := (hc.keep hg BL.out) k hlt
      have hs0 := HS.out k
      have HT := Lib.hid (smF_take (drS b l c m) hlt)
      have HN := Lib.hid (rnK_succ (drS b l c m) ps k)
      have HL := Lib.hid (rnK_len (drS b l c m) ps k)
      have P1 := Lib.hid (fun W hB => PA.out (w.heap.size + 1) (smF (drS b l c m) (ps.take k)) k hlt W hB (by omega))
      rw [HT.out] at HN
      clear hc HA HS PA
      have he : drS b l c m (pat ps k) = drS b l c m ((pat ps k).1, (pat ps k).2) := rfl
      rw [he] at HN HT
      clear he
      generalize drS b l c m ((pat ps k).1, (pat ps k).2) = d at *
      generalize (pat ps k).1 = x at *
      generalize (pat ps k).2 = y at *
      generalize smF (drS b l c m) (ps.take k) = s at *
      go_wp2_with fail
      refine (P1.out _ (BX.out.alloc _)).mono ?_
      rintro en w2 ⟨rfl, hbx, hgr⟩
      have hsz := hgr.size
      simp only [World.size_alloc] at hsz
      have BX2 := Lib.hid hbx
      have RW2 := Lib.hid (ownG (own_keep RW.out (bA (bR wr) _)) hgr (fun r e e2 => by have := (own_blk RW.out r e).1; cases e2; omega))
      have BL2 := Lib.hid ((bA BL.out (.cells #[.int .i64 x, .int .i64 y] 49)).grown hgr (by have := BL.out.size; simp; omega) (fun r e => by cases e; omega))
      have hB2 : w.heap.size + 1 + 1 ≤ w2.heap.size := by omega
      clear hbx hgr c1 c2 RW BX BL P1
      have c4 := BX2.out.c5.2.2.2.2.1
      have hll := HL.out
      go_wp2_with (at_builtin; refine app64w rfl _ _ rfl _ _ (s + d) rfl RW2.out hB2 (by show Value.slice (some ⟨w2.heap.size, 0, none⟩) 1 1 = _; rfl) (by omega) ?_)
      intro v' w3 hown hap
      have RW3 := Lib.hid hown
      have BX3 := Lib.hid (hap.box BX2.out (fun e => by have := (own_blk RW2.out _ e).1; omega))
      have BL3 := Lib.hid (BL2.out.trans ((hap.below (fun r e => (own_blk RW2.out r e).1) hB2).mono (by omega)))
      have hB3 : w.heap.size + 1 + 1 ≤ w3.heap.size := Nat.le_trans hB2 hap.size
      clear hown hap RW2 BX2 BL2 c4
      go_wp2_with fail
      go_roundw
      case rel => exact ⟨k + 1, by go_num, by omega, by rw [HN.out, List.length_append, HL.out]; exact RW3.out, by rw [HT.out]; exact BX3.out, BL3.out, hB3⟩
      case measure => simp [intOf]; omega
    · obtain rfl : k = ps.length := by omega
      have RF := Lib.hid (own_lower (B' := w.heap.size) RW.out (by omega))
      go_wp2_with fail
      go_ret
      exact ⟨_, rfl, RF.out, BL.out⟩
end Go.Proofs.Ytgcalgkpaehonaa

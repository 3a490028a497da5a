/-
  Drifts, the document's side: l12Sums, l12Last, l12Hours, DriftSum.
-/
import Derived.Test.YtgcalgkpaehonaaRaS
import Derived.Test.YtgcalgkpaehonaaEsA
namespace Go.Proofs.Ytgcalgkpaehonaa
open Go.RowKit

def NumsB (ts : List Int) (w : World) (e : Ending) (w' : World) : Prop := ∃ v, e = .returned v ∧ w'.ownsRow w.heap.size 2 1 v ts.length (intC ts) ∧ Below w.heap.size w w'
/-- What stands in a round over segments: the rate's box, the segment. -/
def RrC (w0 wr : World) (g o : Nat) (x y b l c m : Int) (w' : World) : Prop :=
  w'.cell? ⟨g, o, none⟩ = some (.int .i64 x) ∧ w'.cell? ⟨g, o + 1, none⟩ = some (.int .i64 y) ∧ w'.cell? ⟨w0.heap.size, 0, none⟩ = some (.int .i64 b) ∧ w'.cell? ⟨w0.heap.size, 1, none⟩ = some (.int .i64 l) ∧ w'.cell? ⟨w0.heap.size, 2, none⟩ = some (.int .i64 c) ∧ w'.cell? ⟨w0.heap.size, 3, none⟩ = some (.int .i64 m) ∧ Below wr.heap.size wr w'
theorem RrC.of {w0 wr : World} {g o : Nat} {x y b l c m : Int} (h1 : wr.cell? ⟨g, o, none⟩ = some (.int .i64 x)) (h2 : wr.cell? ⟨g, o + 1, none⟩ = some (.int .i64 y)) (hg : g < wr.heap.size) (h : BoxL wr w0.heap.size [.int .i64 b, .int .i64 l, .int .i64 c, .int .i64 m]) {w' : World} (hb : Below wr.heap.size wr w') : RrC w0 wr g o x y b l c m w' := by
  obtain ⟨c0, c1, c2, c3, c4⟩ := (h.keep hb).c4
  exact ⟨(hb.cell (p := ⟨g, o, none⟩) hg).trans h1, (hb.cell (p := ⟨g, o + 1, none⟩) hg).trans h2, c0, c1, c2, c3, hb⟩
theorem RrC.bel {w0 wr : World} {g o : Nat} {x y b l c m : Int} {w' : World} (h : RrC w0 wr g o x y b l c m w') : Below wr.heap.size wr w' := h.2.2.2.2.2.2
/-- What stands between two segments. -/
def SmR (b l c m : Int) (ps : List (Int × Int)) (w : World) (B : Nat) (vo vs vi : Value) (wr : World) : Prop :=
  ∃ k : Nat, vi = .int .i64 k ∧ k ≤ ps.length ∧ vs = .int .i64 (smF (drS b l c m) (ps.take k)) ∧ wr.ownsRow B 2 1 vo (rnK (drS b l c m) ps k).length (intC (rnK (drS b l c m) ps k)) ∧ BoxL wr w.heap.size [.int .i64 b, .int .i64 l, .int .i64 c, .int .i64 m] ∧ Below w.heap.size w wr ∧ B ≤ wr.heap.size
set_option maxRecDepth 100000 in
set_option maxHeartbeats 4000000 in
theorem l12Sums_any (b l c m : Int) (ps : List (Int × Int)) (v : Value) (w : World) (ha : SlP w v ps) (h : Rte b l c m) (hp : okSl ps = true) :
    Calls Try.prog 45 #[.agg #[.int .i64 b, .int .i64 l, .int .i64 c, .int .i64 m], v] w (NumsB (rnK (drS b l c m) ps ps.length) w) := by
  obtain ⟨ao, cap, rfl, ha⟩ := ha
  have HA := Lib.hid ha
  have CA := Lib.hid (fun k (hk : k < ps.length) W => l12At_any b l c m (pat ps k).2 W h (okSl_at hp hk).2)
  have HS := Lib.hid (sumD_bd h hp)
  have HP := Lib.hid (fun k (hk : k < ps.length) => And.intro (okSl_at hp hk).1 (drS_bd h ((okSl_iff.1 hp).2 _ (pat_mem hk))))
  have hlen := (okSl_iff.1 hp).1
  have B0 := Lib.hid ((BoxL.new w [.int .i64 b, .int .i64 l, .int .i64 c, .int .i64 m] 25).alloc (.cells #[] 2))
  have R0 := Lib.hid (row0 (w.alloc (.cells #[.int .i64 b, .int .i64 l, .int .i64 c, .int .i64 m] 25)) 2)
  rw [World.size_alloc] at R0
  have L0 := Lib.hid (bA (bA (bR w) (.cells #[.int .i64 b, .int .i64 l, .int .i64 c, .int .i64 m] 25)) (.cells #[] 2))
  clear ha h hp
  go_enter Try.func45, Try.ntmps45
  go_wp2_with fail
  generalize (w.alloc (.cells #[.int .i64 b, .int .i64 l, .int .i64 c, .int .i64 m] 25)).alloc (.cells #[] 2) = W0 at *
  go_loopw [5, 6, 7] (fun vo vs vi wr => SmR b l c m ps w (w.heap.size + 1) vo vs vi wr) (fun _ _ vi _ => ps.length - (intOf vi).toNat)
  case atStart => exact ⟨0, rfl, by omega, by simp [smF], R0.out, B0.out, L0.out, by have := B0.out.lt; omega⟩
  case round =>
    obtain ⟨k, rfl, hk, rfl, hrow, hbx, hbel, hB⟩ := hrel
    have RW := Lib.hid hrow
    have BX := Lib.hid hbx
    have BL := Lib.hid hbel
    clear hrow hbx hbel R0 B0 L0
    by_cases hlt : k < ps.length
    · obtain ⟨g, rfl, hg, hc⟩ := HA.out (by omega)
      obtain ⟨c1, c2⟩ := (hc.keep hg BL.out) k hlt
      have hg' : g < wr.heap.size := Nat.lt_of_lt_of_le hg BL.out.size
      have C1 := Lib.hid (CA.out k hlt)
      obtain ⟨hb1, hb2⟩ := HP.out k hlt
      have hs0 := HS.out k
      have hs1 := HS.out (k + 1)
      have HT := Lib.hid (smF_take (drS b l c m) hlt)
      have hd : drS b l c m (pat ps k) = (pat ps k).1 * atR b l c m (pat ps k).2 := rfl
      rw [HT.out, hd] at hs1
      rw [hd] at hb2 HT
      have HN := Lib.hid (rnK_succ (drS b l c m) ps k)
      have HL := Lib.hid (rnK_len (drS b l c m) ps k)
      rw [HT.out] at HN
      clear hc HA hd CA HP HS
      generalize atR b l c m (pat ps k).2 = r at *
      generalize (pat ps k).1 = x at *
      generalize (pat ps k).2 = y at *
      generalize smF (drS b l c m) (ps.take k) = s at *
      have g1 : IntKind.i64.wrap (x * r) = x * r := IntWalk.i64_in _ (by omega)
      have g2 : IntKind.i64.wrap (s + x * r) = s + x * r := IntWalk.i64_in _ (by omega)
      have HK := Lib.hid (fun (w' : World) (hb : Below wr.heap.size wr w') => RrC.of c1 c2 hg' BX.out hb)
      clear c1 c2
      go_wp2_with fail
      go_region_held3 (fun w' => w'.cell? ⟨g, k * 2, none⟩ = some (.int .i64 x) ∧ w'.cell? ⟨g, k * 2 + 1, none⟩ = some (.int .i64 y) ∧ w'.cell? ⟨w.heap.size, 0, none⟩ = some (.int .i64 b) ∧ w'.cell? ⟨w.heap.size, 1, none⟩ = some (.int .i64 l) ∧ w'.cell? ⟨w.heap.size, 2, none⟩ = some (.int .i64 c) ∧ w'.cell? ⟨w.heap.size, 3, none⟩ = some (.int .i64 m) ∧ Below wr.heap.size wr w') (first | exact HK.out _ (bR _).drew | assumption | exact HK.out _ (bT (RrC.bel (w0 := w) (g := g) (o := k * 2) (x := x) (y := y) (b := b) (l := l) (c := c) (m := m) (by assumption)) hb))
        ((go_at_call 42; refine (C1.out _).mono ?_; rintro en w' ⟨rfl, hb⟩))
      have HB2 := Lib.hid (RrC.bel (w0 := w) (g := g) (o := k * 2) (x := x) (y := y) (b := b) (l := l) (c := c) (m := m) (w' := w') (by assumption))
      have RW2 := Lib.hid (own_keep RW.out HB2.out)
      have BX2 := Lib.hid (BX.out.keep HB2.out)
      have BL2 := Lib.hid (bT BL.out HB2.out)
      have hB2 : w.heap.size + 1 ≤ w'.heap.size := Nat.le_trans hB HB2.out.size
      have hll := HL.out
      clear hb HK RW BX BL
      generalize w' = w2 at *
      go_wp2_with (at_builtin; refine app64 rfl _ _ rfl _ _ (s + x * r) rfl RW2.out hB2 (by show Value.slice (some ⟨w2.heap.size, 0, none⟩) 1 1 = _; rfl) (by omega) ?_)
      intro v' w3 hown hbel3 hbox
      have RW3 := Lib.hid hown
      have BX3 := Lib.hid (BX2.out.low hbel3 (by omega))
      have BL3 := Lib.hid (BL2.out.trans (hbel3.mono (by omega)))
      have hB3 : w.heap.size + 1 ≤ w3.heap.size := Nat.le_trans hB2 hbel3.size
      clear hown hbel3 hbox RW2 BX2 BL2
      go_wp2_with fail
      go_roundw
      case rel => exact ⟨k + 1, by go_num, by omega, by rw [HT.out], by rw [HN.out, List.length_append, HL.out]; exact RW3.out, BX3.out, BL3.out, hB3⟩
      case measure => simp [intOf]; omega
    · obtain rfl : k = ps.length := by omega
      have RF := Lib.hid (own_lower (B' := w.heap.size) RW.out (by omega))
      go_wp2_with fail
      go_ret
      exact ⟨_, rfl, RF.out, BL.out⟩
end Go.Proofs.Ytgcalgkpaehonaa

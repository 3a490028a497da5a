/-
  The walk of laws.FnExactFoundText.
-/
import Derived.Test.YtnndjbngcaafhaaDoorFt
import Derived.Test.YtnndjbngcaafhaaDoorFs
namespace Go.Proofs.YtnndjbngcaafhaaDoor
open Go.RowKit

/-- What stands while the argument is copied once more: its box, and the box of the copy that was handed over. -/
def FwS (w : World) (b c : Nat) (v0 v : Value) (ps : List (Int × Int)) (n d : Int) (W : World) : Prop := BoxF W b v0 n d ∧ BoxF W c v n d ∧ SlP W v ps ∧ Below w.heap.size w W
theorem FwS.keep {w W W' : World} {b c : Nat} {v0 v : Value} {ps : List (Int × Int)} {n d : Int} (hb : Below W.heap.size W W') (h : FwS w b c v0 v ps n d W) : FwS w b c v0 v ps n d W' := ⟨h.1.keep hb, h.2.1.keep hb, h.2.2.1.keep hb, bT h.2.2.2 hb⟩
theorem FwS.drew {w W : World} {b c : Nat} {v0 v : Value} {ps : List (Int × Int)} {n d : Int} (h : FwS w b c v0 v ps n d W) : FwS w b c v0 v ps n d W.drew := FwS.keep (W := W) (W' := W.drew) ⟨rfl, rfl, rfl, Nat.le_refl _, fun _ _ => rfl⟩ h
theorem FwS.bel {w W : World} {b c : Nat} {v0 v : Value} {ps : List (Int × Int)} {n d : Int} (h : FwS w b c v0 v ps n d W) : Below w.heap.size w W := h.2.2.2
set_option maxRecDepth 100000 in
set_option maxHeartbeats 8000000 in
theorem FnExactFoundText_walk (a0 : Option Addr) (len0 cap0 : Nat) (ps0 : List (Int × Int)) (n d : Int) (w : World) (hp : Pow10 w) (h0 : IsPR w a0 len0 cap0 ps0) (_h1 : -9223372036854775808 ≤ n ∧ n ≤ 9223372036854775807) (_h2 : -9223372036854775808 ≤ d ∧ d ≤ 9223372036854775807) :
    Calls Tryd.prog 6 #[.agg #[.slice a0 len0 cap0, .int .i64 n, .int .i64 d]] w fun e w' => e = .returned (.bool true) ∧ Below w.heap.size w w' := by
  obtain ⟨⟨l0, m0⟩, e0, _, _⟩ := id h0
  unfold maxLen at m0
  have HA0 := Lib.hid h0
  have HE0 := Lib.hid e0
  have HPW := Lib.hid hp
  clear h0 e0 _h1 _h2 hp
  have B0 := Lib.hid (BoxF.new w (.slice a0 len0 cap0) n d 43)
  have L0 := Lib.hid (bA (bR w) (.cells #[.slice a0 len0 cap0, .int .i64 n, .int .i64 d] 43))
  obtain ⟨c0, c1, c2, _, _, _, c6⟩ := B0.out
  by_cases hl0 : 1048576 < len0
  · go_enter Tryd.func6, Tryd.ntmps6
    go_wp2_with fail
    refine (szFound_no _ _ _ _ _ _ _ (by omega) (by omega) (by omega) (by omega)).mono ?_
    rintro e w1 ⟨rfl, hb⟩
    have L1 := Lib.hid (bT L0.out hb)
    clear hb
    go_wp2_with fail
    go_ret
    exact ⟨rfl, L1.out⟩
  · skip
    have hlen0 : len0 ≤ 1048576 := by omega
    have hmax0 : ps0.length ≤ 1000000000000 := by rw [HE0.out]; omega
    have hnn0 : ¬ 1048576 - (len0 : Int) < 0 := by omega
    clear hl0
    have ES := Lib.hid (fun W v (hv : SlP W v ps0) => FoundTextS_any ps0 n d v W hv hmax0)
    have EI := Lib.hid (fun W v (hp : Pow10 W) (hv : SlP W v ps0) => FoundTextI_any ps0 n d v W hp hv hmax0)
    generalize ftB ps0 n d = r at *
    have hne : (r.toList != r.toList) = false := by simp
    have TF := Lib.hid (fun W (hW : IsPR W a0 len0 cap0 ps0) => toFound_any a0 len0 cap0 ps0 n d W hW hlen0)
    go_enter Tryd.func6, Tryd.ntmps6
    go_wp2_with fail
    refine (szFound_yes _ _ _ _ _ _ _ (by omega) (by omega) (by omega)).mono ?_
    rintro e w1 ⟨rfl, hb⟩
    have B1 := Lib.hid (B0.out.keep hb)
    have L1 := Lib.hid (bT L0.out hb)
    clear hb c0 c1 c2 c6
    obtain ⟨c0, c1, c2, _, _, _, c6⟩ := B1.out
    go_wp2_with fail
    refine (TF.out _ (HA0.out.keep L1.out)).mono ?_
    rintro e w2 ⟨g2, rfl, hv, hb⟩
    have V2 := Lib.hid hv
    have B2 := Lib.hid (B1.out.keep hb)
    have L2 := Lib.hid (bT L1.out hb)
    clear hb hv c0 c1 c2 c6
    go_wp2_with fail
    refine (ES.out _ _ V2.out).mono ?_
    rintro e w3 ⟨rfl, hb⟩
    have B3 := Lib.hid (B2.out.keep hb)
    have L3 := Lib.hid (bT L2.out hb)
    clear hb V2
    obtain ⟨c0, c1, c2, _, _, _, c6⟩ := B3.out
    go_wp2_with fail
    refine (TF.out _ (HA0.out.keep L3.out)).mono ?_
    rintro e w4 ⟨g4, rfl, hv, hb⟩
    have V4 := Lib.hid (hv.keep (bA (bR w4) (.cells #[.slice (some ⟨g4, 0, none⟩) ps0.length ps0.length, .int .i64 n, .int .i64 d] 47)))
    have B4 := Lib.hid ((B3.out.keep hb).alloc (.cells #[.slice (some ⟨g4, 0, none⟩) ps0.length ps0.length, .int .i64 n, .int .i64 d] 47))
    have X4 := Lib.hid (BoxF.new w4 (.slice (some ⟨g4, 0, none⟩) ps0.length ps0.length) n d 47)
    have L4 := Lib.hid (bA (bT L3.out hb) (.cells #[.slice (some ⟨g4, 0, none⟩) ps0.length ps0.length, .int .i64 n, .int .i64 d] 47))
    clear hb hv c0 c1 c2 c6
    obtain ⟨x0, x1, x2, _, _, _, x6⟩ := X4.out
    go_wp2_with fail
    generalize w4.alloc (.cells #[.slice (some ⟨g4, 0, none⟩) ps0.length ps0.length, .int .i64 n, .int .i64 d] 47) = W4 at *
    generalize w4.heap.size = b4 at *
    refine (EI.out _ _ (HPW.out.keep L4.out) V4.out).mono ?_
    rintro e w5 ⟨rfl, hb⟩
    have ST := Lib.hid (show FwS w w.heap.size b4 (.slice a0 len0 cap0) (.slice (some ⟨g4, 0, none⟩) ps0.length ps0.length) ps0 n d w5.drew from FwS.drew ⟨B4.out.keep hb, X4.out.keep hb, V4.out.keep hb, bT L4.out hb⟩)
    clear hb x0 x1 x2 x6 V4 B4 X4 L4
    obtain ⟨x0, x1, x2, _, _, _, x6⟩ := ST.out.2.1
    obtain ⟨c0, c1, c2, _, _, _, c6⟩ := ST.out.1
    go_wp2_with fail
    go_region_with (first
      | (go_at_call 22; refine (TF.out _ (HA0.out.keep (FwS.bel ST.out))).mono ?_; rintro e w' ⟨g6, rfl, hv, hb⟩; have ST := Lib.hid (FwS.keep hb ST.out); have V6 := Lib.hid hv; obtain ⟨y0, y1, y2, _, _, _, y6⟩ := ST.out.2.1)
      | (go_at_call 24; refine (eqFound_same ps0 n d _ _ _ ST.out.2.2.1 V6.out hmax0).mono ?_; rintro e w' ⟨rfl, hb⟩; have ST := Lib.hid (FwS.keep hb ST.out)))
    all_goals go_wp2_with fail
    all_goals go_ret
    all_goals exact ⟨rfl, FwS.bel ST.out⟩
end Go.Proofs.YtnndjbngcaafhaaDoor

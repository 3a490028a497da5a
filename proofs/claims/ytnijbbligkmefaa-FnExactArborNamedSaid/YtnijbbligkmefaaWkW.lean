/-
  The walk of laws.FnExactValidWorks.
-/
import Derived.Test.YtnijbbligkmefaaWkV
namespace Go.Proofs.Ytnijbbligkmefaa
open Go.RowKit

/-- What stands when a law over works compares its argument at the end. -/
def FinH (W0 : World) (bl bx : Nat) (p q u v : Value) (rs : List Arb) (ms : List Msh) (w' : World) : Prop :=
  w'.cell? ⟨bl, 0, none⟩ = some p ∧ w'.cell? ⟨bl, 1, none⟩ = some q ∧ w'.cell? ⟨bx, 0, none⟩ = some u ∧ w'.cell? ⟨bx, 1, none⟩ = some v ∧ bl < w'.heap.size ∧ bx < w'.heap.size ∧ IsWk w' (.agg #[p, q]) rs ms ∧ SlA w' u rs ∧ SlM w' v ms ∧ Below W0.heap.size W0 w'
theorem FinH.keep {W0 : World} {bl bx : Nat} {p q u v : Value} {rs : List Arb} {ms : List Msh} {w' w2 : World} (hb : Below w'.heap.size w' w2) (h : FinH W0 bl bx p q u v rs ms w') : FinH W0 bl bx p q u v rs ms w2 := by
  obtain ⟨a0, a1, c0, c1, e1, e2, e3, e4, e5, e6⟩ := h
  exact ⟨(hb.cell (p := ⟨bl, 0, none⟩) e1).trans a0, (hb.cell (p := ⟨bl, 1, none⟩) e1).trans a1, (hb.cell (p := ⟨bx, 0, none⟩) e2).trans c0, (hb.cell (p := ⟨bx, 1, none⟩) e2).trans c1, Nat.lt_of_lt_of_le e1 hb.size, Nat.lt_of_lt_of_le e2 hb.size, e3.keep hb, e4.keep hb, e5.keep hb, bT e6 hb⟩
theorem FinH.drew {W0 : World} {bl bx : Nat} {p q u v : Value} {rs : List Arb} {ms : List Msh} {w' : World} (h : FinH W0 bl bx p q u v rs ms w') : FinH W0 bl bx p q u v rs ms w'.drew :=
  h.keep (bR _).drew
def TrueBel (w : World) (e : Ending) (w' : World) : Prop := e = .returned (.bool true) ∧ Below w.heap.size w w'
set_option maxHeartbeats 4000000 in
theorem FnExactValidWorks_walk (v : Value) (rs : List Arb) (ms : List Msh) (w : World) (h : IsWk w v rs ms) :
    Calls Try.prog 3 #[v] w fun e w' => e = .returned (.bool true) ∧ Below w.heap.size w w' := by
  obtain ⟨pa, pn, pc, qa, qn, qc, rfl, _, _⟩ := id h
  have X := Lib.hid (BoxU.new w (.slice pa pn pc) (.slice qa qn qc) 25)
  have L0 := Lib.hid (bA (bR w) (.cells #[.slice pa pn pc, .slice qa qn qc] 25))
  have H0 := Lib.hid (h.keep L0.out)
  obtain ⟨c0, c1, _, _, c4⟩ := X.out
  clear h
  go_enter Try.func3, Try.ntmps3
  go_wp2_with fail
  generalize w.alloc (.cells #[.slice pa pn pc, .slice qa qn qc] 25) = W0 at *
  generalize hbl : w.heap.size = bl at X c0 c1 c4 ⊢
  have HBL := Lib.hid hbl
  clear hbl
  refine (szWorks_any _ rs ms 1048576 _ H0.out (by omega) (by omega)).mono ?_
  rintro e w1 ⟨r, rfl, r1, r2, r3, hb⟩
  have X1 := Lib.hid (X.out.keep hb)
  have L1 := Lib.hid (bT L0.out hb)
  have H1 := Lib.hid (H0.out.keep hb)
  have R := Lib.hid r3
  clear hb r3 c0 c1 c4
  obtain ⟨c0, c1, _, _, c4⟩ := X1.out
  by_cases hr : r < 0
  · go_wp2_with fail
    go_ret
    exact ⟨rfl, L1.out⟩
  · have HL := Lib.hid (R.out (by omega))
    go_wp2_with fail
    refine (toWorks_any _ rs ms _ H1.out HL.out).mono ?_
    rintro e w2 ⟨u1, v1, rfl, hA, hM, hb⟩
    have A1 := Lib.hid hA.sl
    have M1 := Lib.hid hM.sl
    have H2 := Lib.hid (H1.out.keep hb)
    have L2 := Lib.hid (bT L1.out hb)
    have X2 := Lib.hid (X1.out.keep hb)
    clear c0 c1 c4
    obtain ⟨c0, c1, _, _, c4⟩ := X2.out
    clear hA hM hb
    go_wp2_with fail
    refine (ValidWorksS_any rs ms u1 v1 _ A1.out M1.out).mono ?_
    rintro e w3 ⟨rfl, hb⟩
    have H3 := Lib.hid (H2.out.keep hb)
    have L3 := Lib.hid (bT L2.out hb)
    have X3 := Lib.hid (X2.out.keep hb)
    clear c0 c1 c4
    obtain ⟨c0, c1, _, _, c4⟩ := X3.out
    clear hb
    go_wp2_with fail
    refine (toWorks_any _ rs ms _ H3.out HL.out).mono ?_
    rintro e w4 ⟨u2, v2, rfl, hA, hM, hb⟩
    obtain ⟨_, ao, an, rfl, _⟩ := id hA.sl
    obtain ⟨_, bo, bn, rfl, _⟩ := id hM.sl
    have hb' : Below w4.heap.size w4 (w4.alloc (.cells #[.slice ao rs.length an, .slice bo ms.length bn] 31)) := bA (bR _) _
    have A2 := Lib.hid (hA.sl.keep hb')
    have M2 := Lib.hid (hM.sl.keep hb')
    have H4 := Lib.hid ((H3.out.keep hb).keep hb')
    have L4 := Lib.hid (bT (bT L3.out hb) hb')
    have X4 := Lib.hid ((X3.out.keep hb).keep hb')
    have Y4 := Lib.hid (BoxU.new w4 (.slice ao rs.length an) (.slice bo ms.length bn) 31)
    clear c0 c1 c4 hA hM hb hb'
    obtain ⟨c0, c1, _, _, c4⟩ := X4.out
    obtain ⟨d0, d1, _, _, d4⟩ := Y4.out
    go_wp2_with fail
    generalize w4.alloc (.cells #[.slice ao rs.length an, .slice bo ms.length bn] 31) = W4 at *
    generalize w4.heap.size = bx at *
    refine (ValidWorksI_any rs ms _ _ _ A2.out M2.out).mono ?_
    rintro e w5 ⟨rfl, hb⟩
    have H5 := Lib.hid (H4.out.keep hb)
    have A3 := Lib.hid (A2.out.keep hb)
    have M3 := Lib.hid (M2.out.keep hb)
    have L5 := Lib.hid (bT L4.out hb)
    have X5 := Lib.hid (X4.out.keep hb)
    have Y5 := Lib.hid (Y4.out.keep hb)
    clear c0 c1 c4 d0 d1 d4 hb
    obtain ⟨c0, c1, _, _, c4⟩ := X5.out
    obtain ⟨d0, d1, _, _, d4⟩ := Y5.out
    have hne : (okW rs ms != okW rs ms) = false := by simp
    generalize okW rs ms = q at *
    go_wp2_with fail
    have HS : FinH w bl bx (.slice pa pn pc) (.slice qa qn qc) (.slice ao rs.length an) (.slice bo ms.length bn) rs ms w5 := ⟨c0, c1, d0, d1, c4, d4, H5.out, A3.out, M3.out, L5.out⟩
    clear c0 c1 c4 d0 d1 d4 H0 H1 H2 H3 H4 A1 A2 M1 M2 A3 M3 H5 L0 L1 L2 L3 L4 L5 X X1 X2 X3 X4 X5 Y4 Y5
    go_region_held3 (fun w' => w'.cell? ⟨bl, 0, none⟩ = some (.slice pa pn pc) ∧ w'.cell? ⟨bl, 1, none⟩ = some (.slice qa qn qc) ∧ w'.cell? ⟨bx, 0, none⟩ = some (.slice ao rs.length an) ∧ w'.cell? ⟨bx, 1, none⟩ = some (.slice bo ms.length bn) ∧ bl < w'.heap.size ∧ bx < w'.heap.size ∧ IsWk w' (.agg #[(.slice pa pn pc), (.slice qa qn qc)]) rs ms ∧ SlA w' (.slice ao rs.length an) rs ∧ SlM w' (.slice bo ms.length bn) ms ∧ Below w.heap.size w w') (first | exact HS.drew | assumption | exact FinH.keep hb (by assumption))
      (first
        | (go_at_call 13; have hS : FinH w bl bx (.slice pa pn pc) (.slice qa qn qc) (.slice ao rs.length an) (.slice bo ms.length bn) rs ms _ := (by assumption); refine (toWorks_any _ rs ms _ hS.2.2.2.2.2.2.1 HL.out).mono ?_; clear hS; rintro e w' ⟨u3, v3, rfl, hA, hM, hb⟩)
        | (go_at_call 15; have hS : FinH w bl bx (.slice pa pn pc) (.slice qa qn qc) (.slice ao rs.length an) (.slice bo ms.length bn) rs ms _ := (by assumption); refine (eqWorks_same rs ms _ _ _ _ _ hS.2.2.2.2.2.2.2.1 hS.2.2.2.2.2.2.2.2.1 (SlAB.sl (by assumption)) (SlMB.sl (by assumption))).mono ?_; clear hS; rintro e w' ⟨rfl, hb⟩))
    have HT' : FinH w bl bx (.slice pa pn pc) (.slice qa qn qc) (.slice ao rs.length an) (.slice bo ms.length bn) rs ms w' := by assumption
    have HU := Lib.hid HT'.2.2.2.2.2.2.2.2.2
    clear HT' HS
    go_wp2_with fail
    go_ret
    exact ⟨rfl, HU.out⟩
end Go.Proofs.Ytnijbbligkmefaa

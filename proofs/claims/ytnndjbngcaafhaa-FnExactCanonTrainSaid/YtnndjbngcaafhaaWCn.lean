/-
  The walk of laws.FnExactCanonTrain.
-/
import Derived.Test.YtnndjbngcaafhaaCnU
namespace Go.Proofs.Ytnndjbngcaafhaa
open Go.RowKit

theorem slP_grownC {W W' : World} {v : Value} {ps : List (Int × Int)} {row : Option Nat} (h : SlP W v ps) (g : W.grownBy W' row) (hl : ∀ k, v.ownBlock = some k → k < W.heap.size ∧ row ≠ some k) : SlP W' v ps := by
  obtain ⟨ao, cap, e, h1⟩ := h
  refine ⟨ao, cap, e, fun hh => ?_⟩
  obtain ⟨gg, eg, hg, hc⟩ := h1 hh
  have hne := (hl gg (by rw [e, eg]; rfl)).2
  refine ⟨gg, eg, Nat.lt_of_lt_of_le hg g.size, fun i hi => ⟨?_, ?_⟩⟩
  · exact g.cell (hc i hi).1 (fun e2 => hne e2.symm)
  · exact g.cell (hc i hi).2 (fun e2 => hne e2.symm)
theorem bel_grownC {a b c : World} {row : Option Nat} (h : Below a.heap.size a b) (g : b.grownBy c row) (hr : ∀ r, row = some r → a.heap.size ≤ r) : Below a.heap.size a c := bel_grown2 h g h.size hr
set_option maxHeartbeats 4000000 in
theorem FnExactCanonTrain_walk (a : Option Addr) (len cap : Nat) (ps : List (Int × Int)) (w : World) (h : IsPR w a len cap ps) :
    Calls Try.prog 5 #[.slice a len cap] w fun e w' => e = .returned (.bool true) ∧ Below w.heap.size w w' := by
  obtain ⟨⟨l1, l2⟩, l3, _, _⟩ := id h
  unfold maxLen at l2
  have HA := Lib.hid h
  have HL3 := Lib.hid l3
  clear h l3
  by_cases hl : 1048576 < len
  · go_enter Try.func5, Try.ntmps5
    go_wp2_with fail
    refine (szPairS_no _ _ _ _ _ (by omega) (by omega) (by omega) (by omega)).mono ?_
    rintro e w1 ⟨rfl, rfl⟩
    go_wp2_with fail
    go_ret
    exact ⟨rfl, bR _⟩
  · have hlen : len ≤ 1048576 := by omega
    have hmax : ps.length ≤ 1000000000000 := by rw [HL3.out]; omega
    have hml := cnL_len ps
    generalize hr : cnL ps = r at hml
    have HR := Lib.hid hr
    generalize hs : cnC ps = s
    have HS := Lib.hid hs
    have hrl : r.length ≤ 1000000000000 := by omega
    have hne : (s != s) = false := by simp
    have hnn : ¬ (1048576 - (len : Int)) < 0 := by omega
    clear hl hr hs hml
    have HT := Lib.hid (fun W (hW : IsPR W a len cap ps) => toPairS_any a len cap ps W hW hlen)
    go_enter Try.func5, Try.ntmps5
    go_wp2_with fail
    refine (szPairS_yes _ _ _ _ _ (by omega) (by omega) (by omega)).mono ?_
    rintro e w1 ⟨rfl, rfl⟩
    go_wp2_with fail
    refine (HT.out _ HA.out).mono ?_
    rintro e w1 ⟨rfl, hr1, hb1⟩
    have V1 := Lib.hid (slP_of hr1)
    have B1 := Lib.hid hb1
    clear hr1 hb1
    go_wp2_with fail
    refine (CanonTrainS_any ps _ _ V1.out hmax).mono ?_
    rw [HR.out, HS.out]
    rintro e w2 ⟨vw, rfl, hv, hb2⟩
    have FW := Lib.hid (fun (k : Nat) (e : vw.ownBlock = some k) => (own_blk hv k e).2)
    have W2 := Lib.hid (slP_of hv)
    have B2 := Lib.hid (bT B1.out hb2)
    clear hv hb2 B1 V1
    go_wp2_with fail
    refine (HT.out _ (HA.out.keep B2.out)).mono ?_
    rintro e w3 ⟨rfl, hr3, hb3⟩
    have X3 := Lib.hid hr3
    have W3 := Lib.hid (W2.out.keep hb3)
    have B3 := Lib.hid (bT B2.out hb3)
    have hx : w2.heap.size < w3.heap.size := (own_blk hr3 _ rfl).2
    have hw2 := B2.out.size
    clear hr3 hb3 B2 W2
    go_wp2_with fail
    refine (CanonTrainI_any ps _ _ (slP_of X3.out) hmax).mono ?_
    rw [HR.out, HS.out]
    rintro e w4 ⟨vg, rfl, hv, hb4⟩
    have FG := Lib.hid (own_blk hv)
    have G4 := Lib.hid hv
    have X4 := Lib.hid (own_keep X3.out hb4)
    have W4 := Lib.hid (W3.out.keep hb4)
    have B4 := Lib.hid (bT B3.out hb4)
    have h34 := hb4.size
    clear hv hb4 B3 W3 X3
    go_wp2_with fail
    refine (eqPairS_same r _ _ _ (slP_of G4.out) W4.out hrl).mono ?_
    rintro e w5 ⟨rfl, hb5⟩
    have G5 := Lib.hid (own_keep G4.out hb5)
    have X5 := Lib.hid (own_keep X4.out hb5)
    have W5 := Lib.hid (W4.out.keep hb5)
    have B5 := Lib.hid (bT B4.out hb5)
    have h45 := hb5.size
    clear hb5 B4 W4 X4 G4
    go_wp2_with fail
    refine (HT.out _ (HA.out.keep B5.out)).mono ?_
    rintro e w6 ⟨rfl, hr6, hb6⟩
    have T6 := Lib.hid (slP_of hr6)
    have G6 := Lib.hid (own_keep G5.out hb6)
    have X6 := Lib.hid (own_keep X5.out hb6)
    have W6 := Lib.hid (W5.out.keep hb6)
    have B6 := Lib.hid (bT B5.out hb6)
    have h56 := hb6.size
    clear hr6 hb6 B5 W5 X5 G5
    go_wp2_with fail
    refine (eqPairS_same ps _ _ _ (slP_of X6.out) T6.out hmax).mono ?_
    rintro e w7 ⟨rfl, hb7⟩
    have G7 := Lib.hid (own_keep G6.out hb7)
    have X7 := Lib.hid (own_keep X6.out hb7)
    have W7 := Lib.hid (W6.out.keep hb7)
    have B7 := Lib.hid (bT B6.out hb7)
    have h67 := hb7.size
    clear hb7 B6 W6 X6 G6 T6
    go_wp2_with fail
    refine (markPairS_any 1 ps _ _ _ X7.out hmax (by omega) (by omega)).mono ?_
    rintro e w8 ⟨rfl, _, hg8⟩
    have hg8' : w7.grownBy w8 (some w2.heap.size) := hg8
    have G8 := Lib.hid (own_grow2 G7.out hg8' (fun k e => by have := FG.out k e; simp; omega))
    have W8 := Lib.hid (slP_grownC W7.out hg8' (fun k e => by have := FW.out k e; exact ⟨by omega, by simp; omega⟩))
    have B8 := Lib.hid (bel_grownC B7.out hg8' (fun k e => by cases e; omega))
    have h78 := hg8'.size
    have hk0 : ¬ (1 + 2 * (ps.length : Int)) < 0 := by omega
    clear hg8 hg8' G7 X7 W7 B7
    go_wp2_with fail
    refine (eqPairS_same r _ _ _ (slP_of G8.out) W8.out hrl).mono ?_
    rintro e w9 ⟨rfl, hb9⟩
    have G9 := Lib.hid (own_keep G8.out hb9)
    have W9 := Lib.hid (W8.out.keep hb9)
    have B9 := Lib.hid (bT B8.out hb9)
    have h89 := hb9.size
    clear hb9 G8 W8 B8
    go_wp2_with fail
    refine (markPairS_any 1 r _ _ _ G9.out hrl (by omega) (by omega)).mono ?_
    rintro e wa ⟨rfl, hva, hga⟩
    have Ma := Lib.hid (slP_of hva)
    have Wa := Lib.hid (slP_grownC W9.out hga (fun k e => by
      have := FW.out k e
      exact ⟨by omega, fun e2 => by have := FG.out k e2; omega⟩))
    have Ba := Lib.hid (bel_grownC B9.out hga (fun k e => by have := FG.out k e; omega))
    have hne2 : ((1 : Int) + 2 * (r.length : Int) != 1 + 2 * (r.length : Int)) = false := by simp
    clear hva hga G9 W9 B9
    go_wp2_with fail
    refine (heldPairS_same 1 r.length vg wa Ma.out hrl (by omega) (by omega)).mono ?_
    rintro e wa' ⟨rfl, rfl⟩
    go_wp2_with fail
    refine (HT.out _ (HA.out.keep Ba.out)).mono ?_
    rintro e wb ⟨rfl, hrb, hbb⟩
    have Tb := Lib.hid (slP_of hrb)
    have Mb := Lib.hid (Ma.out.keep hbb)
    have Wb := Lib.hid (Wa.out.keep hbb)
    have Bb := Lib.hid (bT Ba.out hbb)
    clear hrb hbb Ma Wa Ba
    go_wp2_with fail
    refine (CanonTrainI_any ps _ _ Tb.out hmax).mono ?_
    rw [HR.out, HS.out]
    rintro e wc ⟨vh, rfl, hv, hbc⟩
    have Hc := Lib.hid (slP_of hv)
    have Mc := Lib.hid (Mb.out.keep hbc)
    have Wc := Lib.hid (Wb.out.keep hbc)
    have Bc := Lib.hid (bT Bb.out hbc)
    clear hv hbc Mb Wb Bb Tb
    go_wp2_with fail
    refine (eqPairS_same r _ _ _ Hc.out Wc.out hrl).mono ?_
    rintro e wd ⟨rfl, hbd⟩
    have Md := Lib.hid (Mc.out.keep hbd)
    have Bd := Lib.hid (bT Bc.out hbd)
    clear hbd Mc Wc Bc Hc
    go_wp2_with fail
    refine (heldPairS_same 1 r.length vg wd Md.out hrl (by omega) (by omega)).mono ?_
    rintro e wd' ⟨rfl, rfl⟩
    go_wp2_with fail
    go_ret
    exact ⟨rfl, Bd.out⟩
end Go.Proofs.Ytnndjbngcaafhaa

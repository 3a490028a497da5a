/-
  The walk of laws.FnExactReadTrain.
-/
import Derived.Test.YtnndjbngcaafhaaDoorRtU
import Derived.Test.YtnndjbngcaafhaaDoorEqP
namespace Go.Proofs.YtnndjbngcaafhaaDoor
open Go.RowKit

theorem rtF_len {s : List UInt8} {qs : List (Int × Int)} (h : rtF s = some qs) : qs.length ≤ 5 := by
  unfold rtF at h
  split at h
  · cases h; simp
  · split at h
    · split at h
      · split at h
        · next hk => cases h; exact (okT_iff.1 hk).1
        · cases h
      · cases h
    · cases h
theorem rtL_len (s : List UInt8) : (rtL s).length ≤ 5 := by
  cases h : rtF s with
  | none => rw [(rtF_none h).1]; simp
  | some qs => rw [(rtF_some h).1]; exact rtF_len h
theorem own_growR {W W' : World} {B : Nat} {t : TypeId} {sz n : Nat} {v : Value} {xs : List Value} {row : Option Nat} (h : W.ownsRow B t sz v n xs) (g : W.grownBy W' row) (hne : ∀ k, v.ownBlock = some k → row ≠ some k) : W'.ownsRow B t sz v n xs := by
  refine ⟨h.1, ?_⟩
  rcases h.2 with h0 | ⟨g', cap, cur, h0, hB, hh, r⟩
  · exact .inl h0
  · exact .inr ⟨g', cap, cur, h0, hB, (g.block g' (Array.getElem?_eq_some_iff.1 hh).1 (fun e => hne g' (by rw [h0]; rfl) e.symm)).trans hh, r⟩
theorem slP_grownR {W W' : World} {v : Value} {ps : List (Int × Int)} {row : Option Nat} (h : SlP W v ps) (g : W.grownBy W' row) (hl : ∀ k, v.ownBlock = some k → row ≠ some k) : SlP W' v ps := by
  obtain ⟨ao, cap, e, h1⟩ := h
  refine ⟨ao, cap, e, fun hh => ?_⟩
  obtain ⟨gg, eg, hg, hc⟩ := h1 hh
  have hne := hl gg (by rw [e, eg]; rfl)
  refine ⟨gg, eg, Nat.lt_of_lt_of_le hg g.size, fun i hi => ⟨?_, ?_⟩⟩
  · exact g.cell (hc i hi).1 (fun e2 => hne e2.symm)
  · exact g.cell (hc i hi).2 (fun e2 => hne e2.symm)
set_option maxHeartbeats 4000000 in
theorem FnExactReadTrain_walk (s : ByteArray) (w : World) (hV : RdVars w) (hlen : s.size ≤ maxLen) :
    Calls Tryd.prog 3 #[.string s] w fun e w' => e = .returned (.bool true) ∧ Below w.heap.size w w' := by
  unfold maxLen at hlen
  by_cases hl : 1048576 < s.size
  · have hl' : (1048576 : Int) < (s.size : Int) := by omega
    clear hV
    go_enter Tryd.func3, Tryd.ntmps3
    go_wp2_with fail
    go_ret
    exact ⟨rfl, bR _⟩
  · have hs : s.size ≤ 1048576 := by omega
    have hl' : ¬ (1048576 : Int) < (s.size : Int) := by omega
    have HV := Lib.hid hV
    have SS := Lib.hid (fun W => ReadTrainS_any s W hs)
    have SI := Lib.hid (fun W (hv : RdVars W) => ReadTrainI_any s W hs hv)
    have hrl0 := rtL_len s.data.toList
    unfold RtPost at SS SI
    generalize rtL s.data.toList = r at *
    generalize rtK s.data.toList = kk at *
    have hrl : r.length ≤ 1000000000000 := by omega
    have hne : (kk != kk) = false := by simp
    clear hl hV
    go_enter Tryd.func3, Tryd.ntmps3
    go_wp2_with fail
    refine (SS.out _).mono ?_
    rintro e w2 ⟨vw, rfl, hv, hb2⟩
    have FW := Lib.hid (fun (k : Nat) (e : vw.ownBlock = some k) => (own_blk hv k e).2)
    have W2 := Lib.hid (slP_of hv)
    have B2 := Lib.hid hb2
    clear hv hb2
    go_wp2_with fail
    refine (SI.out _ (HV.out.keep B2.out)).mono ?_
    rintro e w4 ⟨vg, rfl, hv, hb4⟩
    have FG := Lib.hid (own_blk hv)
    have G4 := Lib.hid hv
    have W4 := Lib.hid (W2.out.keep hb4)
    have B4 := Lib.hid (bT B2.out hb4)
    have hw2 := B2.out.size
    clear hv hb4 B2 W2
    go_wp2_with fail
    refine (eqPairS_same r _ _ _ (slP_of G4.out) W4.out hrl).mono ?_
    rintro e w9 ⟨rfl, hb9⟩
    have G9 := Lib.hid (own_keep G4.out hb9)
    have W9 := Lib.hid (W4.out.keep hb9)
    have B9 := Lib.hid (bT B4.out hb9)
    clear hb9 G4 W4 B4
    have hne2 : ((1 : Int) + 2 * (r.length : Int) != 1 + 2 * (r.length : Int)) = false := by simp
    have hk0 : ¬ (1 + 2 * (r.length : Int)) < 0 := by omega
    cases kk
    all_goals
      go_wp2_with fail
      refine (markPairS_any 1 r _ _ _ G9.out hrl (by omega) (by omega)).mono ?_
      rintro e wa ⟨rfl, hva, hga⟩
      have Ma := Lib.hid (slP_of hva)
      have Wa := Lib.hid (slP_grownR W9.out hga (fun k e => fun e2 => by have := (FG.out k e2).1; have := FW.out k e; omega))
      have Ba := Lib.hid (bel_grownR B9.out hga B9.out.size (fun k e => by have := (FG.out k e).1; omega))
      clear hva hga
      go_wp2_with fail
      refine (heldPairS_same 1 r.length vg wa Ma.out hrl (by omega) (by omega)).mono ?_
      rintro e wa' ⟨rfl, rfl⟩
      go_wp2_with fail
      refine (SI.out _ (HV.out.keep Ba.out)).mono ?_
      rintro e wc ⟨vh, rfl, hv, hbc⟩
      have Hc := Lib.hid (slP_of hv)
      have Mc := Lib.hid (Ma.out.keep hbc)
      have Wc := Lib.hid (Wa.out.keep hbc)
      have Bc := Lib.hid (bT Ba.out hbc)
      clear hv hbc
      go_wp2_with fail
      refine (eqPairS_same r _ _ _ Hc.out Wc.out hrl).mono ?_
      rintro e wd ⟨rfl, hbd⟩
      have Md := Lib.hid (Mc.out.keep hbd)
      have Bd := Lib.hid (bT Bc.out hbd)
      clear hbd
      go_wp2_with fail
      refine (heldPairS_same 1 r.length vg wd Md.out hrl (by omega) (by omega)).mono ?_
      rintro e wd' ⟨rfl, rfl⟩
      go_wp2_with fail
      go_ret
      exact ⟨rfl, Bd.out⟩
end Go.Proofs.YtnndjbngcaafhaaDoor

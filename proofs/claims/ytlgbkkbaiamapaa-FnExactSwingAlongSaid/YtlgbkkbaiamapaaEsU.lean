/-
  Escapements, the document's side: stops, and whether all of some swings tick.
-/
import Derived.Test.YtlgbkkbaiamapaaEsT
namespace Go.Proofs.Ytlgbkkbaiamapaa
open Go.RowKit

/-- The number of ticks before the first swing without one, and the code. -/
def stE (t u i l m q e k : Int) : Int × Int := if cdE t u i l m q e k = 0 then (if (stlF (nxS u i l m q) (tkS u l q) e).2.2 = true then (0, 3) else (((stlF (nxS u i l m q) (tkS u l q) e).2.1 : Int), 0)) else (0, cdE t u i l m q e k)
theorem stE_no {t u i l m q e k : Int} (h : ¬ cdE t u i l m q e k = 0) : stE t u i l m q e k = (0, cdE t u i l m q e k) := by simp [stE, h]
theorem stE_3 {t u i l m q e k : Int} (h : cdE t u i l m q e k = 0) (h3 : (stlF (nxS u i l m q) (tkS u l q) e).2.2 = true) : stE t u i l m q e k = (0, 3) := by simp [stE, h, h3]
theorem stE_0 {t u i l m q e k : Int} (h : cdE t u i l m q e k = 0) (h3 : (stlF (nxS u i l m q) (tkS u l q) e).2.2 = false) : stE t u i l m q e k = (((stlF (nxS u i l m q) (tkS u l q) e).2.1 : Int), 0) := by simp [stE, h, h3]
/-- How long the document's swings go on at most. -/
def meaS (f : Int → Int) (m x : Int) : Nat := if f x < x then (m + 1 + x).toNat else (m - x).toNat
theorem mea_dn {f : Int → Int} {m x : Int} (h : f x < x) (h0 : 0 ≤ f x) (hm : f x ≤ m) (hx : 0 ≤ x) : meaS f m (f x) < meaS f m x := by
  unfold meaS
  rw [if_pos h]
  split <;> omega
theorem mea_up {f : Int → Int} {m x : Int} (h : x < f x) (hm : f x ≤ m) (h2 : f x ≤ f (f x)) : meaS f m (f x) < meaS f m x := by
  unfold meaS
  rw [if_neg (by omega), if_neg (by omega)]
  omega
/-- What stands between two swings of the document's StopAfter. -/
def StR (f : Int → Int) (g : Int → Bool) (m e x : Int) (n : Nat) : Prop :=
  (0 ≤ x ∧ x ≤ m) ∧ n + meaS f m x ≤ 300000 ∧ (stlF f g x).2.2 = (stlF f g e).2.2 ∧ ((stlF f g e).2.2 = false → (stlF f g x).2.1 + n = (stlF f g e).2.1)
theorem StR.start {f : Int → Int} {g : Int → Bool} {m e : Int} (he : 0 ≤ e ∧ e ≤ m) (hm : m ≤ 100000) : StR f g m e e 0 :=
  ⟨he, by unfold meaS; split <;> omega, rfl, fun _ => rfl⟩
theorem StR.next {f : Int → Int} {g : Int → Bool} {m e x : Int} {n : Nat} (HF : MonF f g m) (hg : g x = true) (hne : ¬ f x = x) (H : StR f g m e x n) : StR f g m e (f x) (n + 1) ∧ meaS f m (f x) < meaS f m x := by
  obtain ⟨hx, hn, h1, h2⟩ := H
  have hb := HF.bd x hx.1 hx.2
  by_cases hlt : f x < x
  · have hd := mea_dn hlt hb.1 hb.2 hx.1
    have hG := stlF_go (f := f) (t := g) hg ⟨hb.1, hlt⟩
    refine ⟨⟨hb, by omega, ?_, fun h => ?_⟩, hd⟩
    · rw [← h1, hG]
    · have := h2 h
      rw [hG] at this
      simp only at this
      omega
  · have hm2 := HF.mono x (f x) (by omega) hg
    have hu := mea_up (by omega) hb.2 hm2.2
    have e1 := stlF_end (f := f) (t := g) hg hlt
    have e2 := stlF_end (f := f) (t := g) hm2.1 (by omega)
    rw [e1] at h1
    refine ⟨⟨hb, by omega, by rw [e2, ← h1], fun h => ?_⟩, hu⟩
    rw [← h1] at h; cases h
set_option maxRecDepth 100000 in
set_option maxHeartbeats 4000000 in
theorem StopAfterS_any (t u i l m q e k : Int) (w : World) :
    Calls Try.prog 30 #[.agg #[.int .i64 t, .int .i64 u, .int .i64 i, .int .i64 l, .int .i64 m], .int .i64 q, .agg #[.int .i64 e, .int .i64 k]] w (TwoBl (stE t u i l m q e k).1 (stE t u i l m q e k).2 w) := by
  have CO := Lib.hid (fun W => l11Code_any t u i l m q e k W)
  have H0 := Lib.hid (EbH.new w t u i l m e k 25 31)
  by_cases hc : cdE t u i l m q e k = 0
  · rw [hc] at CO
    obtain ⟨h1, h2⟩ := cdE_of hc
    obtain ⟨hE, he, hk⟩ := okBt_bd h1
    have HE := Lib.hid hE
    have HQ := Lib.hid (inB_true.1 h2)
    have HF := Lib.hid (monF HE.out HQ.out)
    have SW := Lib.hid (fun e W (he : 0 ≤ e ∧ e ≤ m) => l11Swing_any t u i l m q e W HE.out he HQ.out)
    have S3 := Lib.hid (stE_3 hc)
    have S0 := Lib.hid (stE_0 hc)
    have RS := Lib.hid (StR.start (f := nxS u i l m q) (g := tkS u l q) he hE.hm.2)
    clear hE he hk h1 h2 hc
    generalize nxS u i l m q = f at *
    generalize tkS u l q = g at *
    go_enter Try.func30, Try.ntmps30
    go_wp2_with fail
    refine (CO.out _).mono ?_
    rintro en w1 ⟨rfl, hb⟩
    have H1 := Lib.hid (H0.out.keep hb)
    clear hb H0
    obtain ⟨c0, c1, c2, c3, c4, c5, c6⟩ := H1.out.cells
    go_wp2_with fail
    clear c0 c1 c2 c3 c4 c5 c6
    go_loopw [9, 10] (fun v9 v10 wr => ∃ (x : Int) (n : Nat), v9 = .int .i64 x ∧ v10 = .int .i64 n ∧ StR f g m e x n ∧ Below w1.heap.size w1 wr) (fun v9 _ _ => meaS f m (intOf v9))
    case atStart => exact ⟨e, 0, rfl, rfl, RS.out, bR _⟩
    case round =>
      obtain ⟨x, n, rfl, rfl, hs, hb⟩ := hrel
      have H2 := Lib.hid (H1.out.keep hb)
      have HB := Lib.hid hb
      have HS := Lib.hid hs
      have hn := hs.2.1
      clear hb hs
      obtain ⟨c0, c1, c2, c3, c4, c5, c6⟩ := H2.out.cells
      go_wp2_with fail
      refine (SW.out _ _ HS.out.1).mono ?_
      rintro en w2 ⟨rfl, hb2⟩
      cases hg : g x
      · have e0 := HS.out.2.2.1
        rw [stlF_no hg] at e0
        have e1 := HS.out.2.2.2 e0.symm
        rw [stlF_no hg] at e1
        have HR := Lib.hid (S0.out e0.symm)
        have HV := Lib.hid (show (n : Int) = ((stlF f g e).2.1 : Int) by simp only at e1; omega)
        clear e0 e1
        go_wp2_with fail
        go_ret2
        exact ⟨by rw [HR.out]; exact retT HV.out rfl, bT H2.out.bel hb2⟩
      · by_cases hfe : f x = x
        · have e0 := HS.out.2.2.1
          rw [stlF_end hg (by omega)] at e0
          have HR := Lib.hid (S3.out e0.symm)
          have hq1 : (f x == x) = true := by simpa using hfe
          clear e0
          go_wp2_with fail
          go_ret2
          exact ⟨by rw [HR.out]; rfl, bT H2.out.bel hb2⟩
        · have hq1 : (f x == x) = false := by simpa using hfe
          have HN := Lib.hid (HS.out.next HF.out hg hfe)
          clear hg hfe
          go_wp2_with fail
          go_roundw
          case rel => exact ⟨f x, n + 1, rfl, by go_num, HN.out.1, bT HB.out hb2⟩
          case measure => simpa [intOf] using HN.out.2
  · rw [stE_no hc]
    generalize cdE t u i l m q e k = z at *
    have hz : (z != 0) = true := by simpa using hc
    go_enter Try.func30, Try.ntmps30
    go_wp2_with fail
    refine (CO.out _).mono ?_
    rintro en w1 ⟨rfl, hb⟩
    have L := Lib.hid (H0.out.keep hb).bel
    clear hb H0
    go_wp2_with fail
    go_ret2
    exact ⟨rfl, L.out⟩
set_option maxRecDepth 100000 in
set_option maxHeartbeats 4000000 in
theorem l11All_any (t u i l m q e : Int) (n : Nat) (w : World) (H : Esc t u i l m) (he : 0 ≤ e ∧ e ≤ m) (hq : 0 ≤ q ∧ q ≤ 1000) (hn : n ≤ 2000) :
    Calls Try.prog 45 #[.agg #[.int .i64 t, .int .i64 u, .int .i64 i, .int .i64 l, .int .i64 m], .int .i64 q, .int .i64 n, .int .i64 e] w (BoolBel (allF (nxS u i l m q) (tkS u l q) n e) w) := by
  have H0 := Lib.hid (EsH.new w t u i l m 25)
  have HF := Lib.hid (monF H hq)
  have SW := Lib.hid (fun e W (he : 0 ≤ e ∧ e ≤ m) => l11Swing_any t u i l m q e W H he hq)
  have HEm := Lib.hid he
  clear H hq he
  generalize nxS u i l m q = f at *
  generalize tkS u l q = g at *
  go_enter Try.func45, Try.ntmps45
  go_wp2_with fail
  have HW := Lib.hid (show Below w.heap.size w (w.alloc (.cells #[.int .i64 t, .int .i64 u, .int .i64 i, .int .i64 l, .int .i64 m] 25)) from bA (bR _) _)
  generalize w.alloc (.cells #[.int .i64 t, .int .i64 u, .int .i64 i, .int .i64 l, .int .i64 m] 25) = W0 at *
  go_loopw [3, 9] (fun v3 v5 wr => ∃ (x : Int) (j : Nat), v3 = .int .i64 x ∧ v5 = .int .i64 j ∧ j ≤ n ∧ (0 ≤ x ∧ x ≤ m) ∧ allF f g (n - j) x = allF f g n e ∧ Below W0.heap.size W0 wr) (fun _ v5 _ => n - (intOf v5).toNat)
  case atStart => exact ⟨e, 0, rfl, rfl, Nat.zero_le _, HEm.out, rfl, bR _⟩
  case round =>
    obtain ⟨x, j, rfl, rfl, hj, hx, hs, hb⟩ := hrel
    have H2 := Lib.hid (H0.out.keep hb)
    have HB := Lib.hid hb
    have HS := Lib.hid hs
    clear hb hs
    obtain ⟨c0, c1, c2, c3, c4, c5⟩ := H2.out.1.c5
    by_cases hlt : j < n
    · obtain ⟨r, hr⟩ : ∃ r, n - j = r + 1 := ⟨n - j - 1, by omega⟩
      go_wp2_with fail
      refine (SW.out _ _ hx).mono ?_
      rintro en w2 ⟨rfl, hb2⟩
      cases hg : g x
      · have HR := Lib.hid (show false = allF f g n e by rw [← HS.out, hr, allF_no hg])
        go_wp2_with fail
        go_ret
        exact ⟨by rw [← HR.out]; rfl, bT H2.out.2 hb2⟩
      · have HR := Lib.hid (show allF f g r (f x) = allF f g n e by rw [← HS.out, hr, allF_go hg])
        have hb3 := HF.out.bd x hx.1 hx.2
        go_wp2_with fail
        go_roundw
        case rel => exact ⟨f x, j + 1, rfl, by go_num, by omega, hb3, by rw [show n - (j + 1) = r by omega]; exact HR.out, bT HB.out hb2⟩
        case measure => simp [intOf]; omega
    · obtain rfl : j = n := by omega
      have HR := Lib.hid (show true = allF f g j e by rw [← HS.out, Nat.sub_self]; rfl)
      go_wp2_with fail
      go_ret
      exact ⟨by rw [← HR.out]; rfl, H2.out.2⟩
end Go.Proofs.Ytlgbkkbaiamapaa

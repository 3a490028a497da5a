/-
  Least energies: both sides.
-/
import Derived.Test.YtkagciekoeaijaaEsKS
import Derived.Test.YtkagciekoeaijaaEsC
namespace Go.Proofs.Ytkagciekoeaijaa
open Go.RowKit

/-- Least energy and code. -/
def lsE (t u i l m q n : Int) : Int × Int := if okEs t u i l m = true then (if inB q 0 1000 = true then (if inB n 1 2000 = true then (if lstU (atE u i l m q n.toNat) (m.toNat + 1) = m.toNat + 1 then (0, 3) else ((lstU (atE u i l m q n.toNat) (m.toNat + 1) : Int), 0)) else (0, 2)) else (0, 2)) else (0, 1)
theorem lsE_1 {t u i l m q n : Int} (h : okEs t u i l m = false) : lsE t u i l m q n = (0, 1) := by simp [lsE, h]
theorem lsE_2 {t u i l m q n : Int} (h : okEs t u i l m = true) (h2 : inB q 0 1000 = false) : lsE t u i l m q n = (0, 2) := by simp [lsE, h, h2]
theorem lsE_2n {t u i l m q n : Int} (h : okEs t u i l m = true) (h2 : inB q 0 1000 = true) (h3 : inB n 1 2000 = false) : lsE t u i l m q n = (0, 2) := by simp [lsE, h, h2, h3]
theorem lsE_3 {t u i l q n : Int} {M : Nat} (h : okEs t u i l M = true) (h2 : inB q 0 1000 = true) (h3 : inB n 1 2000 = true) (h4 : lstU (atE u i l M q n.toNat) (M + 1) = M + 1) : lsE t u i l M q n = (0, 3) := by simp [lsE, h, h2, h3, h4]
theorem lsE_0 {t u i l q n : Int} {M : Nat} (h : okEs t u i l M = true) (h2 : inB q 0 1000 = true) (h3 : inB n 1 2000 = true) (h4 : ¬ lstU (atE u i l M q n.toNat) (M + 1) = M + 1) : lsE t u i l M q n = ((lstU (atE u i l M q n.toNat) (M + 1) : Int), 0) := by simp [lsE, h, h2, h3, h4]
set_option maxRecDepth 100000 in
set_option maxHeartbeats 4000000 in
theorem LeastStartS_any (t u i l m q n : Int) (w : World) :
    Calls Try.prog 28 #[.agg #[.int .i64 t, .int .i64 u, .int .i64 i, .int .i64 l, .int .i64 m], .int .i64 q, .int .i64 n] w (TwoBl (lsE t u i l m q n).1 (lsE t u i l m q n).2 w) := by
  have CO := Lib.hid (fun W => l11Ok_any t u i l m W)
  have H0 := Lib.hid (EsH.new w t u i l m 25)
  cases h1 : okEs t u i l m
  · rw [lsE_1 h1]
    rw [h1] at CO
    go_enter Try.func28, Try.ntmps28
    go_wp2_with fail
    refine (CO.out _).mono ?_
    rintro en w1 ⟨rfl, hb⟩
    have L := Lib.hid (H0.out.keep hb).2
    clear hb H0
    go_wp2_with fail
    go_ret2
    exact ⟨rfl, L.out⟩
  rw [h1] at CO
  cases h2 : inB q 0 1000
  · rw [lsE_2 h1 h2]
    go_enter Try.func28, Try.ntmps28
    go_wp2_with fail
    refine (CO.out _).mono ?_
    rintro en w1 ⟨rfl, hb⟩
    have L := Lib.hid (H0.out.keep hb).2
    clear hb H0
    go_wp2_with (go_at_call 41; refine (l00In_any _ _ _ _).mono ?_; rintro e w1 ⟨rfl, rfl⟩)
    go_ret2
    exact ⟨rfl, L.out⟩
  cases h3 : inB n 1 2000
  · rw [lsE_2n h1 h2 h3]
    go_enter Try.func28, Try.ntmps28
    go_wp2_with fail
    refine (CO.out _).mono ?_
    rintro en w1 ⟨rfl, hb⟩
    have L := Lib.hid (H0.out.keep hb).2
    clear hb H0
    go_wp2_with (go_at_call 41; refine (l00In_any _ _ _ _).mono ?_; rintro e w1 ⟨rfl, rfl⟩)
    go_ret2
    exact ⟨rfl, L.out⟩
  have hE := esc_of h1
  have hn := inB_true.1 h3
  have hq := inB_true.1 h2
  have hm := hE.hm
  have hu := hE.hu
  obtain ⟨M, rfl⟩ := Int.eq_ofNat_of_zero_le (show 0 ≤ m by omega)
  obtain ⟨N, rfl⟩ := Int.eq_ofNat_of_zero_le (show 0 ≤ n by omega)
  have S3 := Lib.hid (lsE_3 h1 h2 h3)
  have S0 := Lib.hid (lsE_0 h1 h2 h3)
  rw [Int.toNat_natCast] at S3 S0
  have AL := Lib.hid (fun (x : Nat) W (hx : x ≤ M) => show Calls Try.prog 55 #[.agg #[.int .i64 t, .int .i64 u, .int .i64 i, .int .i64 l, .int .i64 M], .int .i64 q, .int .i64 N, .int .i64 x] W (BoolBel (atE u i l M q N x) W) from l11All_any t u i l M q x N W hE (by omega) hq (by omega))
  have MO := Lib.hid (fun x y => atE_mono (q := q) (n := N) hE hq.1 (x := x) (y := y))
  have A1 := AL.out M
  have hM : M ≤ 100000 := by omega
  clear hE h1 hn hm hu
  generalize atE u i l M q N = p at *
  cases hp : p M
  · have HR := Lib.hid (S3.out (lstU_none MO.out hp))
    go_enter Try.func28, Try.ntmps28
    go_wp2_with fail
    refine (CO.out _).mono ?_
    rintro en w1 ⟨rfl, hb⟩
    have H1 := Lib.hid (H0.out.keep hb)
    clear hb H0
    obtain ⟨c0, c1, c2, c3, c4, c5⟩ := H1.out.1.c5
    go_wp2_with (go_at_call 41; refine (l00In_any _ _ _ _).mono ?_; rintro e w1 ⟨rfl, rfl⟩)
    refine (A1 _ (Nat.le_refl _)).mono ?_
    rintro en w2 ⟨rfl, hb⟩
    rw [hp]
    have L := Lib.hid (H1.out.keep hb).2
    clear hb
    go_wp2_with fail
    go_ret2
    exact ⟨by rw [HR.out]; rfl, L.out⟩
  · have RS := Lib.hid (show BsR p (M + 1) 0 M from ⟨by omega, by omega, fun j hj => absurd hj (Nat.not_lt_zero _), hp⟩)
    go_enter Try.func28, Try.ntmps28
    go_wp2_with fail
    refine (CO.out _).mono ?_
    rintro en w1 ⟨rfl, hb⟩
    have H1 := Lib.hid (H0.out.keep hb)
    clear hb H0
    obtain ⟨c0, c1, c2, c3, c4, c5⟩ := H1.out.1.c5
    go_wp2_with (go_at_call 41; refine (l00In_any _ _ _ _).mono ?_; rintro e w1 ⟨rfl, rfl⟩)
    refine (A1 _ (Nat.le_refl _)).mono ?_
    rintro en w2 ⟨rfl, hb⟩
    rw [hp]
    have H2 := Lib.hid (H1.out.keep hb)
    clear hb hp c0 c1 c2 c3 c4 c5 H1
    obtain ⟨c0, c1, c2, c3, c4, c5⟩ := H2.out.1.c5
    go_wp2_with fail
    clear c0 c1 c2 c3 c4 c5
    go_loopw [8, 9] (fun v8 v9 wr => ∃ lo hi : Nat, v8 = .int .i64 lo ∧ v9 = .int .i64 hi ∧ BsR p (M + 1) lo hi ∧ Below w2.heap.size w2 wr) (fun v8 v9 _ => (intOf v9).toNat - (intOf v8).toNat)
    case atStart => exact ⟨0, M, rfl, rfl, RS.out, bR _⟩
    case round =>
      obtain ⟨lo, hi, rfl, rfl, hs, hb⟩ := hrel
      have H3 := Lib.hid (H2.out.keep hb)
      have HB := Lib.hid hb
      have HS := Lib.hid hs
      have hi1 := hs.2.1
      have hle := hs.1
      clear hb hs
      obtain ⟨c0, c1, c2, c3, c4, c5⟩ := H3.out.1.c5
      by_cases hlt : lo < hi
      · obtain ⟨mid, hmid⟩ : ∃ mid, (lo + hi) / 2 = mid := ⟨_, rfl⟩
        have ec : ((lo : Int) + (hi : Int)) / 2 = (mid : Int) := by omega
        have hm1 : lo ≤ mid := by omega
        have hm2 : mid < hi := by omega
        have A2 := Lib.hid (fun W => AL.out mid W (by omega))
        clear hmid
        go_wp2_with fail
        try rw [ec]
        refine (A2.out _).mono ?_
        rintro en w3 ⟨rfl, hb⟩
        have L := Lib.hid (bT HB.out hb)
        clear hb
        cases hp : p mid
        · have HN := Lib.hid (HS.out.up MO.out hp hm2)
          go_wp2_with fail
          go_roundw
          case rel => exact ⟨mid + 1, hi, by first | rfl | go_num, rfl, HN.out, L.out⟩
          case measure => simp [intOf]; omega
        · have HN := Lib.hid (HS.out.down hp hm1 hm2)
          go_wp2_with fail
          go_roundw
          case rel => exact ⟨lo, mid, rfl, by first | rfl | go_num, HN.out, L.out⟩
          case measure => simp [intOf]; omega
      · obtain rfl : hi = lo := by omega
        have hv := HS.out.done MO.out
        have HR := Lib.hid (S0.out (by omega))
        have HV := Lib.hid (show (hi : Int) = ((lstU p (M + 1) : Nat) : Int) by omega)
        clear hv
        go_wp2_with fail
        go_ret2
        exact ⟨by rw [HR.out]; exact retT HV.out rfl, H3.out.2⟩
theorem lsE_lu {t u i l q : Int} {M N : Nat} (h : okEs t u i l M = true) (h2 : inB q 0 1000 = true) (h3 : inB (N : Int) 1 2000 = true) : lsE t u i l M q N = luE (atE u i l M q N) M := by
  unfold lsE luE
  rw [if_pos h, if_pos h2, if_pos h3, Int.toNat_natCast, Int.toNat_natCast]
set_option maxRecDepth 100000 in
set_option maxHeartbeats 2000000 in
theorem lsC_any (t u i l q : Int) (M N x b1 b2 b3 : Nat) (W : World) (H : Esc t u i l M) (hq : 0 ≤ q ∧ q ≤ 1000) (hn : N ≤ 2000) (hx : x ≤ M) (h1 : BoxL W b1 [.int .i64 t, .int .i64 u, .int .i64 i, .int .i64 l, .int .i64 M]) (h2 : BoxL W b2 [.int .i64 q]) (h3 : BoxL W b3 [.int .i64 N]) :
    Calls Try.prog 56 #[.int .i64 x, .pointer (some ⟨b1, 0, none⟩), .pointer (some ⟨b2, 0, none⟩), .pointer (some ⟨b3, 0, none⟩)] W (BoolBel (atE u i l M q N x) W) := by
  have AL := Lib.hid (show Calls Try.prog 54 #[.agg #[.int .i64 t, .int .i64 u, .int .i64 i, .int .i64 l, .int .i64 M], .int .i64 q, .int .i64 N, .agg #[.int .i64 x, .int .i64 0]] W (BoolBel (atE u i l M q N x) W) from allTick_any t u i l M q x 0 N W H (by omega) hq (by omega) hn)
  obtain ⟨c0, c1, c2, c3, c4, c5⟩ := h1.c5
  have g0 := h2.c 0 _ rfl
  have g1 := h3.c 0 _ rfl
  clear H hq hn hx h1 h2 h3
  generalize atE u i l M q N x = r at *
  go_enter Try.func56, Try.ntmps56
  go_wp2_with fail
  refine AL.out.mono ?_
  rintro en w1 ⟨rfl, hb⟩
  have L := Lib.hid hb
  clear hb
  go_wp2_with fail
  go_ret
  exact ⟨rfl, L.out⟩
set_option maxRecDepth 100000 in
set_option maxHeartbeats 4000000 in
theorem LeastStartI_any (t u i l m q n : Int) (w : World) :
    Calls Try.prog 27 #[.agg #[.int .i64 t, .int .i64 u, .int .i64 i, .int .i64 l, .int .i64 m], .int .i64 q, .int .i64 n] w (TwoBl (lsE t u i l m q n).1 (lsE t u i l m q n).2 w) := by
  have CO := Lib.hid (fun W => ValidEscapementI_any t u i l m W)
  have B1 := Lib.hid (((BoxL.new w [.int .i64 t, .int .i64 u, .int .i64 i, .int .i64 l, .int .i64 m] 25).alloc (.cells #[.int .i64 q] 2)).alloc (.cells #[.int .i64 n] 2))
  have B2 := Lib.hid ((BoxL.at_ (w := w.alloc (.cells #[.int .i64 t, .int .i64 u, .int .i64 i, .int .i64 l, .int .i64 m] 25)) (b := w.heap.size + 1) (vs := [.int .i64 q]) (T := 2) (by simp)).alloc (.cells #[.int .i64 n] 2))
  have B3 := Lib.hid (BoxL.at_ (w := (w.alloc (.cells #[.int .i64 t, .int .i64 u, .int .i64 i, .int .i64 l, .int .i64 m] 25)).alloc (.cells #[.int .i64 q] 2)) (b := w.heap.size + 1 + 1) (vs := [.int .i64 n]) (T := 2) (by simp))
  have L0 := Lib.hid (bA (bA (bA (bR w) (.cells #[.int .i64 t, .int .i64 u, .int .i64 i, .int .i64 l, .int .i64 m] 25)) (.cells #[.int .i64 q] 2)) (.cells #[.int .i64 n] 2))
  cases h1 : okEs t u i l m
  · rw [lsE_1 h1]
    rw [h1] at CO
    go_enter Try.func27, Try.ntmps27
    go_wp2_with fail
    refine (CO.out _).mono ?_
    rintro en w1 ⟨rfl, hb⟩
    have L := Lib.hid (bT L0.out hb)
    clear hb B1 B2 B3 L0
    go_wp2_with fail
    go_ret2
    exact ⟨rfl, L.out⟩
  rw [h1] at CO
  cases h2 : (inB q 0 1000 && inB n 1 2000)
  · have HN := Lib.hid (show lsE t u i l m q n = (0, 2) by
      cases hq : inB q 0 1000
      · exact lsE_2 h1 hq
      · rw [hq, Bool.true_and] at h2
        exact lsE_2n h1 hq h2)
    go_enter Try.func27, Try.ntmps27
    go_wp2_with fail
    refine (CO.out _).mono ?_
    rintro en w1 ⟨rfl, hb⟩
    have L := Lib.hid (bT L0.out hb)
    have g0 := (B2.out.keep hb).c 0 _ rfl
    have g1 := (B3.out.keep hb).c 0 _ rfl
    clear hb B1 B2 B3 L0
    cases hq : inB q 0 1000
    · go_wp2_with (first | (go_at_call 38; refine (isNoTorque_any _ _).mono ?_; rintro e w1 ⟨rfl, rfl⟩) | (go_at_call 49; refine (isBetween_any _ _ _ _).mono ?_; rintro e w1 ⟨rfl, rfl⟩))
      go_ret2
      exact ⟨by rw [HN.out]; rfl, L.out⟩
    · have hn : inB n 1 2000 = false := by rw [hq, Bool.true_and] at h2; exact h2
      clear h2
      go_wp2_with (first | (go_at_call 38; refine (isNoTorque_any _ _).mono ?_; rintro e w1 ⟨rfl, rfl⟩) | (go_at_call 49; refine (isBetween_any _ _ _ _).mono ?_; rintro e w1 ⟨rfl, rfl⟩))
      go_ret2
      exact ⟨by rw [HN.out]; rfl, L.out⟩
  obtain ⟨hq, hn⟩ := Bool.and_eq_true_iff.1 h2
  have hn2 := inB_true.1 hn
  have hq2 := inB_true.1 hq
  have hE := esc_of h1
  have hm := hE.hm
  have hu := hE.hu
  obtain ⟨N, rfl⟩ := Int.eq_ofNat_of_zero_le (show 0 ≤ n by omega)
  obtain ⟨M, rfl⟩ := Int.eq_ofNat_of_zero_le (show 0 ≤ m by omega)
  have hM : M ≤ 100000 := by omega
  rw [lsE_lu h1 hq hn]
  have CL := Lib.hid (fun (x : Nat) b1 b2 b3 W (hx : x ≤ M) => lsC_any t u i l q M N x b1 b2 b3 W hE hq2 (by omega) hx)
  have MO := Lib.hid (fun x y => atE_mono (q := q) (n := N) hE hq2.1 (x := x) (y := y))
  clear hE h1 h2 hn2 hq2 hm hu
  generalize atE u i l M q N = p at *
  go_enter Try.func27, Try.ntmps27
  go_wp2_with fail
  refine (CO.out _).mono ?_
  rintro en w1 ⟨rfl, hb⟩
  have L := Lib.hid (bT L0.out hb)
  have X1 := Lib.hid (B1.out.keep hb)
  have X2 := Lib.hid (B2.out.keep hb)
  have X3 := Lib.hid (B3.out.keep hb)
  clear hb B1 B2 B3 L0
  have g0 := X2.out.c 0 _ rfl
  have g1 := X3.out.c 0 _ rfl
  obtain ⟨c0, c1, c2, c3, c4, c5⟩ := X1.out.c5
  have LU := Lib.hid (leastUpTo_anyS p M w.heap.size (w.heap.size + 1) (w.heap.size + 1 + 1) w1 hM (fun j W hj hW => CL.out j _ _ _ W (by omega) (X1.out.keep hW) (X2.out.keep hW) (X3.out.keep hW)) MO.out)
  generalize luE p M = r at *
  go_wp2_with (first | (go_at_call 38; refine (isNoTorque_any _ _).mono ?_; rintro e w1 ⟨rfl, rfl⟩) | (go_at_call 49; refine (isBetween_any _ _ _ _).mono ?_; rintro e w1 ⟨rfl, rfl⟩))
  refine LU.out.mono ?_
  rintro en w2 ⟨rfl, hb⟩
  have L2 := Lib.hid (bT L.out hb)
  clear hb
  go_wp2_with fail
  go_ret2
  exact ⟨rfl, L2.out⟩
end Go.Proofs.Ytkagciekoeaijaa

/-
  The walk of laws.FnPullAlong.
-/
import Derived.Test.YtclefibjmnabbaaPaD
import Derived.Test.YtclefibjmnabbaaPwC
namespace Go.Proofs.Ytclefibjmnabbaa
open Go.RowKit

theorem f6big_p (a : Option Addr) (len cap : Nat) (w : World) (_h : len ≤ 9223372036854775807) :
    Calls Try.prog 24 #[.slice a len cap] w fun e w' => e = .returned (.bool (decide (4096 < (len : Int)))) ∧ w = w' := by
  go_enter Try.func24, Try.ntmps24
  go_wp2_with fail
  go_ret
  exact ⟨rfl, rfl⟩
theorem pa_more {ps : List (Int × Int)} {q q' l : Int} (h : paC ps q l = 0) (h' : paC ps q' l = 0) (hq : q ≤ q') : (paL ps q' l).length = (paL ps q l).length ∧ ∀ i, i < (paL ps q l).length → ¬ at0 (paL ps q' l) i < at0 (paL ps q l) i := by
  rcases paC_cases ps q l with ⟨_, h1, _, h3⟩ | ⟨h0, _⟩
  · rw [paL_yes h, paL_yes h', paK_len, paK_len]
    refine ⟨rfl, fun i hi => ?_⟩
    rw [paK_at (by omega), paK_at (by omega)]
    have := paV_mono (l := l) (inB_true.1 h3) (ps := ps.take i) (q := q) (q' := q') (fun p hp => (okT_iff.1 h1).2 p (List.mem_of_mem_take hp)) hq
    omega
  · exact absurd h h0
theorem pa_bd {ps : List (Int × Int)} {q l : Int} (h : paC ps q l = 0) : 0 ≤ q ∧ q ≤ 1000000 := by
  rcases paC_cases ps q l with ⟨_, _, h2, _⟩ | ⟨h0, _⟩
  · exact inB_true.1 h2
  · exact absurd h h0
theorem luP_law {p : Nat → Bool} {M : Nat} {y t : Int} (h : luP p M = (y, t)) : (t != 0) = true ∨ ((t != 0) = false ∧ ∃ r : Nat, y = r ∧ r ≤ M ∧ p r = true ∧ (0 < r → p (r - 1) = false)) := by
  by_cases h0 : lstU p (M + 1) = M + 1
  · rw [luP_3 h0] at h; cases h; exact .inl rfl
  · rw [luP_0 h0] at h; cases h
    have h1 := lstU_le (p := p) (M + 1)
    exact .inr ⟨rfl, _, rfl, by omega, lstU_at (by omega), fun hr => lstU_pred hr⟩
/-- What the least torque is. -/
def LeB (ps : List (Int × Int)) (n l y : Int) : Prop := paC ps y l = 0 ∧ (paL ps y l).length = ps.length + 1 ∧ ¬ at0 (paL ps y l) ps.length < n
def LeA (ps : List (Int × Int)) (n l y : Int) : Prop := paC ps y l = 0 ∧ (paL ps y l).length = ps.length + 1 ∧ at0 (paL ps y l) ps.length < n
theorem le_law {ps : List (Int × Int)} {n l y t : Int} (h : leE ps n l = (y, t)) : (t != 0) = true ∨ ((t != 0) = false ∧ (0 ≤ y ∧ y ≤ 1000000) ∧ LeB ps n l y ∧ (¬ y = 0 → LeA ps n l (y - 1))) := by
  rcases paC_cases ps n l with ⟨h0, h1, _, h3⟩ | ⟨h0, _⟩
  · rw [leE_0 h0] at h
    rcases luP_law h with ht | ⟨ht, r, rfl, hr, hp, hq⟩
    · exact .inl ht
    · have hc : ∀ x : Int, 0 ≤ x → x ≤ 1000000 → paC ps x l = 0 := fun x x0 x1 => paC_0 h1 (inB_true.2 ⟨x0, x1⟩) h3
      have hv : ∀ x : Int, 0 ≤ x → x ≤ 1000000 → (paL ps x l).length = ps.length + 1 ∧ at0 (paL ps x l) ps.length = paV l x ps := fun x x0 x1 => by
        rw [paL_yes (hc x x0 x1), paK_len, last_pa]; exact ⟨rfl, rfl⟩
      have hr' : (0 : Int) ≤ (r : Int) ∧ (r : Int) ≤ 1000000 := by omega
      refine .inr ⟨ht, hr', ⟨hc _ hr'.1 hr'.2, (hv _ hr'.1 hr'.2).1, ?_⟩, fun hy => ?_⟩
      · rw [(hv _ hr'.1 hr'.2).2]
        simp only [enQ, decide_eq_true_eq] at hp
        omega
      · have h4 : 0 < r := by omega
        have e1 : (r : Int) - 1 = ((r - 1 : Nat) : Int) := by omega
        have hr2 : (0 : Int) ≤ ((r - 1 : Nat) : Int) ∧ ((r - 1 : Nat) : Int) ≤ 1000000 := by omega
        have h5 := hq h4
        simp only [enQ, decide_eq_false_iff_not] at h5
        rw [e1]
        refine ⟨hc _ hr2.1 hr2.2, (hv _ hr2.1 hr2.2).1, ?_⟩
        rw [(hv _ hr2.1 hr2.2).2]
        omega
  · rw [leE_1 h0] at h
    cases h
    exact .inl (by simpa using h0)
set_option maxRecDepth 100000 in
set_option maxHeartbeats 16000000 in
theorem FnPullAlong_walk (a : Option Addr) (len cap : Nat) (zs : List Int) (w : World) (h : IsRow .u8 w a len cap zs) :
    Calls Try.prog 7 #[.slice a len cap] w fun e w' => e = .returned (.bool true) ∧ Below w.heap.size w w' := by
  have l1 := (row_of h).1
  unfold maxLen at l1
  have HA := Lib.hid h
  clear h
  by_cases hl : 4096 < len
  · have hd : decide (4096 < (len : Int)) = true := decide_eq_true (by omega)
    go_enter Try.func7, Try.ntmps7
    go_wp2_with fail
    refine (f6big_p _ _ _ _ (by omega)).mono ?_
    rw [hd]
    rintro e w1 ⟨rfl, rfl⟩
    go_wp2_with fail
    go_ret
    exact ⟨rfl, bR _⟩
  have hd : decide (4096 < (len : Int)) = false := decide_eq_false (by omega)
  go_enter Try.func7, Try.ntmps7
  go_wp2_with fail
  refine (f6big_p _ _ _ _ (by omega)).mono ?_
  rw [hd]
  rintro e w1 ⟨rfl, rfl⟩
  clear hd hl l1
  go_wp2_with fail
  refine (DrawPullAlong_any w a len cap zs HA.out).mono ?_
  rintro e w1 ⟨ps, v, q, l, rfl, hps, hs, hb⟩
  have L1 := Lib.hid hb
  have V1 := Lib.hid hs
  have hmax : ps.length ≤ 1000000000000 := by omega
  have CI := Lib.hid (fun q v W (h : SlP W v ps) => PullAlongI_any ps q l v W h hmax)
  have CS := Lib.hid (fun v W (h : SlP W v ps) => PullAlongS_any ps q l v W h hmax)
  have MORE := Lib.hid (fun q' => pa_more (ps := ps) (q := q) (q' := q') (l := l))
  have QB := Lib.hid (pa_bd (ps := ps) (q := q) (l := l))
  have LEN := Lib.hid (paL_len ps q l)
  clear hb hs hmax
  go_wp2_with fail
  refine (CI.out q v _ V1.out).mono ?_
  generalize paL ps q l = ts at *
  generalize paC ps q l = c at *
  rintro e w2 ⟨vx, rfl, hr, hb⟩
  have X2 := Lib.hid (sl64_of hr)
  have V2 := Lib.hid (V1.out.keep hb)
  have L2 := Lib.hid (bT L1.out hb)
  clear hr hb V1 L1
  go_wp2_with fail
  refine (CS.out v _ V2.out).mono ?_
  rintro e w3 ⟨vm, rfl, hr, hb⟩
  have M3 := Lib.hid (sl64_of hr)
  have X3 := Lib.hid (X2.out.keep hb)
  have V3 := Lib.hid (V2.out.keep hb)
  have L3 := Lib.hid (bT L2.out hb)
  have nc : (c != c) = false := by simp
  clear hr hb V2 L2 X2 CS
  go_wp2_with fail
  refine (f6same_yes ts _ _ _ X3.out M3.out (by have := LEN.out; omega)).mono ?_
  rintro e w4 ⟨rfl, n, rfl⟩
  have hb := bD (bR w3) n
  generalize w3.drewN n = w4 at *
  have X4 := Lib.hid (X3.out.keep hb)
  have V4 := Lib.hid (V3.out.keep hb)
  have L4 := Lib.hid (bT L3.out hb)
  clear hb X3 V3 L3 M3 nc
  go_upto_if 56 with fail
  go_cut [12] (fun s12 wx => Below w.heap.size w wx)
  case first =>
    cases hz : (c == 0)
    · go_wp2_with fail
      go_meet
      exact L4.out
    · have HC0 := Lib.hid (show c = 0 by simpa using hz)
      obtain ⟨q0, q1⟩ := QB.out HC0.out
      go_wp2_with fail
      refine (f6roll_any _ a len cap zs _ (HA.out.keep L4.out)).mono ?_
      rintro e w5 ⟨rfl, s1, hb⟩
      have S5 := Lib.hid s1
      have B5 := Lib.hid hb
      clear s1 hb
      go_wp2_with fail
      refine (below_any _ _ a len cap _ 100 S5.out (by omega) (by omega) (by omega)).mono ?_
      rintro e w6 ⟨d, d0, d1, rfl, s1, g1⟩
      have B6 := Lib.hid (below_grown B5.out g1 (Nat.le_refl _))
      have V6 := Lib.hid (V4.out.keep B6.out)
      have X6 := Lib.hid (X4.out.keep B6.out)
      have L6 := Lib.hid (bT L4.out B6.out)
      clear s1 g1 S5 B5 B6 V4 X4 L4
      go_wp2_with fail
      refine (CI.out (q + d) _ _ V6.out).mono ?_
      have MM := Lib.hid (fun h' hq => MORE.out (q + d) HC0.out h' hq)
      generalize paL ps (q + d) l = us at *
      generalize paC ps (q + d) l = c2 at *
      rintro e w7 ⟨vy, rfl, hr, hb⟩
      obtain ⟨ay, cy, rfl, hy⟩ := sl64_of hr
      obtain ⟨ax, cx, rfl, hx⟩ := X6.out.keep hb
      have L7 := Lib.hid (bT L6.out hb)
      have HX := Lib.hid hx
      have HY := Lib.hid hy
      have hlen : ts.length ≤ 1000000 := LEN.out
      clear hr hb hx hy X6 V6 L6 MORE QB HC0 CI LEN
      go_wp2_with fail
      go_loopw [12] (fun i wr => ∃ (k : Nat) (n : Nat), k ≤ us.length ∧ i = .int .i64 k ∧ wr = w7.drewN n) (fun i _ => us.length - (intOf i).toNat)
      case atStart => exact ⟨0, 0, by omega, rfl, rfl⟩
      case round =>
        obtain ⟨k, n, hk, rfl, rfl⟩ := hrel
        cases hz2 : (c2 == 0)
        · go_wp2_with fail
          go_meet
          exact bD L7.out n
        · by_cases hlt : k < us.length
          · obtain ⟨hle, hat⟩ := MM.out (by simpa using hz2) (by omega)
            obtain ⟨g1, rfl, hg1, hc1⟩ := HX.out (by omega)
            obtain ⟨g2, rfl, hg2, hc2⟩ := HY.out (by omega)
            have c1 : w7.cell? ⟨g1, k, none⟩ = some (.int .i64 (at0 ts k)) := hc1 k (by omega)
            have c2' : w7.cell? ⟨g2, k, none⟩ = some (.int .i64 (at0 us k)) := hc2 k hlt
            have hna0 := hat k (by omega)
            have hna : ¬ at0 us k < at0 ts k := by omega
            have hne : ((us.length : Int) != (ts.length : Int)) = false := by simp [hle]
            have hlt1 : k < ts.length := by omega
            clear hat hc1 hc2 HX HY MM hle
            go_wp2_with fail
            go_quiet (fail)
            go_wp2_with fail
            go_roundw
            case rel => exact ⟨k + 1, _, by omega, by go_num, rfl⟩
            case measure => simp [intOf]; omega
          · go_wp2_with fail
            go_meet
            exact bD L7.out n
  case rest =>
    have L8 := Lib.hid hcut
    clear hcut L4 V4 X4 CI MORE QB LEN
    generalize wc = w8 at *
    go_wp2_with fail
    refine (DrawLeastPull_any w8 a len cap zs (HA.out.keep L8.out)).mono ?_
    rintro e w9 ⟨ps2, v2, n2, l2, rfl, hps2, hs, hb⟩
    obtain ⟨av, cv, rfl, hv⟩ := hs
    have L9 := Lib.hid (bT L8.out hb)
    have V9 := Lib.hid (show SlP w9 (.slice av ps2.length cv) ps2 from ⟨av, cv, rfl, hv⟩)
    have hmax : ps2.length ≤ 1000000000000 := by omega
    have CI := Lib.hid (fun q v W (h : SlP W v ps2) => PullAlongI_any ps2 q l2 v W h hmax)
    have DI := Lib.hid (fun v W (h : SlP W v ps2) => LeastPullI_any ps2 n2 l2 v W h hmax)
    have DS' := Lib.hid (fun v W (h : SlP W v ps2) => LeastPullS_any ps2 n2 l2 v W h hmax)
    have LE := Lib.hid (fun y t => le_law (ps := ps2) (n := n2) (l := l2) (y := y) (t := t))
    clear hb hv hmax L8
    generalize leE ps2 n2 l2 = yt at *
    obtain ⟨y, t⟩ := yt
    simp only at DI DS'
    have ny : (y != y) = false := by simp
    have nt : (t != t) = false := by simp
    go_wp2_with fail
    refine (DI.out _ _ V9.out).mono ?_
    rintro e w10 ⟨rfl, hb⟩
    have L10 := Lib.hid (bT L9.out hb)
    have V10 := Lib.hid (V9.out.keep hb)
    clear hb L9 V9 DI
    go_wp2_with fail
    refine (DS'.out _ _ V10.out).mono ?_
    rintro e w11 ⟨rfl, hb⟩
    have L11 := Lib.hid (bT L10.out hb)
    have V11 := Lib.hid (V10.out.keep hb)
    clear hb L10 V10 DS'
    rcases LE.out _ _ rfl with ht | ⟨ht, ⟨y0, y1⟩, ⟨b1, b2, b3⟩, hA⟩
    · clear LE CI
      go_wp2_with fail
      go_ret
      exact ⟨rfl, L11.out⟩
    · have HAA := Lib.hid hA
      have C1 := Lib.hid (fun v W h => CI.out y v W h)
      have C2 := Lib.hid (fun v W h => CI.out (y - 1) v W h)
      clear LE CI hA
      rw [b1] at C1
      generalize paL ps2 y l2 = us at *
      clear b1
      go_wp2_with fail
      refine (C1.out _ _ V11.out).mono ?_
      rintro e w12 ⟨vy, rfl, hr, hb⟩
      obtain ⟨ay, cy, rfl, hy⟩ := sl64_of hr
      have Y12 := Lib.hid (show Sl64 w12 (.slice ay us.length cy) us from ⟨ay, cy, rfl, hy⟩)
      have L12 := Lib.hid (bT L11.out hb)
      have V12 := Lib.hid (V11.out.keep hb)
      clear hr hb hy L11 V11 C1
      by_cases hy0 : y = 0
      · have hyb : (y == 0) = true := by simp [hy0]
        generalize paL ps2 (y - 1) l2 = rs at *
        generalize paC ps2 (y - 1) l2 = c5 at *
        clear HAA hy0
        go_wp2_with fail
        refine (C2.out _ _ V12.out).mono ?_
        rintro e w13 ⟨vz, rfl, hr, hb⟩
        obtain ⟨az, cz, rfl, hz⟩ := sl64_of hr
        have L13 := Lib.hid (bT L12.out hb)
        obtain ⟨ay2, cy2, e2, hy2⟩ := Y12.out.keep hb
        cases e2
        obtain ⟨g2, rfl, hg2, hc2⟩ := hy2 (by omega)
        have k2 : w13.cell? ⟨g2, ps2.length, none⟩ = some (.int .i64 (at0 us ps2.length)) := hc2 ps2.length (by omega)
        have hne : ((us.length : Int) != (ps2.length : Int) + 1) = false := by rw [b2]; simp
        have hin : ps2.length < us.length := by omega
        clear hr hb hz hy2 hc2 L12 V12 Y12 C2
        go_wp2_with fail
        go_ret
        exact ⟨rfl, L13.out⟩
      · have hyb : (y == 0) = false := by simpa using hy0
        obtain ⟨e1, e2, e3⟩ := HAA.out hy0
        rw [e1] at C2
        generalize paL ps2 (y - 1) l2 = rs at *
        clear HAA hy0 e1
        go_wp2_with fail
        refine (C2.out _ _ V12.out).mono ?_
        rintro e w13 ⟨vz, rfl, hr, hb⟩
        obtain ⟨az, cz, rfl, hz⟩ := sl64_of hr
        have L13 := Lib.hid (bT L12.out hb)
        obtain ⟨ay2, cy2, e4, hy2⟩ := Y12.out.keep hb
        cases e4
        obtain ⟨g2, rfl, hg2, hc2⟩ := hy2 (by omega)
        obtain ⟨g3, rfl, hg3, hc3⟩ := hz (by omega)
        have k2 : w13.cell? ⟨g2, ps2.length, none⟩ = some (.int .i64 (at0 us ps2.length)) := hc2 ps2.length (by omega)
        have k3 : w13.cell? ⟨g3, ps2.length, none⟩ = some (.int .i64 (at0 rs ps2.length)) := hc3 ps2.length (by omega)
        have hne : ((us.length : Int) != (ps2.length : Int) + 1) = false := by rw [b2]; simp
        have hne2 : ((rs.length : Int) == (ps2.length : Int) + 1) = true := by rw [e2]; simp
        have hin : ps2.length < us.length := by omega
        have hin3 : ps2.length < rs.length := by omega
        clear hr hb hz hy2 hc2 hc3 L12 V12 Y12 C2
        go_wp2_with fail
        go_ret
        exact ⟨rfl, L13.out⟩
end Go.Proofs.Ytclefibjmnabbaa

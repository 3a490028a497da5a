/-
  The contract of spec.l09Plate, spec.ValidPlate.
-/
import Derived.Test.YtmhheecjpalajaaPlD
namespace Go.Proofs.Ytmhheecjpalajaa
open Go.RowKit

theorem siB_n1 {W H : Int} {s : Sit} (h : nameB s.nm = false) : siB W H s = false := by simp [siB, h]
theorem siB_n2 {W H : Int} {s : Sit} (h : inB s.x 0 W = false) : siB W H s = false := by simp [siB, h]
theorem siB_n3 {W H : Int} {s : Sit} (h : inB s.y 0 H = false) : siB W H s = false := by simp [siB, h]
theorem siB_n4 {W H : Int} {s : Sit} (h : inB s.st 1 1000 = false) : siB W H s = false := by simp [siB, h]
theorem siB_n5 {W H : Int} {s : Sit} (h : inB s.wh s.st 10000 = false) : siB W H s = false := by simp [siB, h]
theorem siB_go {W H : Int} {s : Sit} (h1 : nameB s.nm = true) (h2 : inB s.x 0 W = true) (h3 : inB s.y 0 H = true) (h4 : inB s.st 1 1000 = true) (h5 : inB s.wh s.st 10000 = true) : siB W H s = true := by simp [siB, h1, h2, h3, h4, h5]
set_option maxRecDepth 100000 in
set_option maxHeartbeats 8000000 in
theorem l09Plate_any (p : Pl4) (ss : List Sit) (v : Value) (w : World) (ha : SlSi w v ss) :
    Calls Try.prog 25 #[plV p v] w (BoolBel (okPl p.W p.H p.M p.G ss) w) := by
  obtain ⟨W, H, M, G⟩ := p
  obtain ⟨h0, ao, cap, rfl, hcp, hc⟩ := ha
  unfold plV
  simp only
  have X := Lib.hid (BoxL.new w [.int .i64 W, .int .i64 H, .int .i64 M, .int .i64 G, .slice ao ss.length cap] 28)
  have L0 := Lib.hid (bA (bR w) (.cells #[.int .i64 W, .int .i64 H, .int .i64 M, .int .i64 G, .slice ao ss.length cap] 28))
  have HA := Lib.hid (SlSi.keep (show SlSi w (.slice ao ss.length cap) ss from ⟨h0, ao, cap, rfl, hcp, hc⟩) L0.out)
  have HCP := Lib.hid hcp
  clear hc hcp
  cases h1 : inB W 1 10000
  · rw [okPl_n1 h1]
    go_enter Try.func25, Try.ntmps25
    go_wp2_with (go_at_call 43; refine (l00In_any _ _ _ _).mono ?_; rintro e w1 ⟨rfl, rfl⟩)
    go_ret
    exact ⟨rfl, L0.out⟩
  cases h2 : inB H 1 10000
  · rw [okPl_n2 h2]
    go_enter Try.func25, Try.ntmps25
    go_wp2_with (go_at_call 43; refine (l00In_any _ _ _ _).mono ?_; rintro e w1 ⟨rfl, rfl⟩)
    go_ret
    exact ⟨rfl, L0.out⟩
  cases h3 : inB M 0 1000
  · rw [okPl_n3 h3]
    go_enter Try.func25, Try.ntmps25
    go_wp2_with (go_at_call 43; refine (l00In_any _ _ _ _).mono ?_; rintro e w1 ⟨rfl, rfl⟩)
    go_ret
    exact ⟨rfl, L0.out⟩
  cases h4 : inB G 0 1000
  · rw [okPl_n4 h4]
    go_enter Try.func25, Try.ntmps25
    go_wp2_with (go_at_call 43; refine (l00In_any _ _ _ _).mono ?_; rintro e w1 ⟨rfl, rfl⟩)
    go_ret
    exact ⟨rfl, L0.out⟩
  by_cases h20 : ss.length ≤ 20
  · have h20' : ¬ (20 : Int) < (ss.length : Int) := by omega
    go_enter Try.func25, Try.ntmps25
    go_wp2_with (go_at_call 43; refine (l00In_any _ _ _ _).mono ?_; rintro e w1 ⟨rfl, rfl⟩)
    generalize w.alloc (.cells #[.int .i64 W, .int .i64 H, .int .i64 M, .int .i64 G, .slice ao ss.length cap] 28) = W0 at *
    generalize w.heap.size = bx at X
    have HGO := Lib.hid (okPl_go (ss := ss) h1 h2 h3 h4 h20)
    clear h1 h2 h3 h4 h20 h20'
    go_loopw [3] (fun i wr => ∃ (k : Nat), k ≤ ss.length ∧ i = .int .i64 k ∧ siK W H ss k ∧ Below W0.heap.size W0 wr) (fun i _ => ss.length - (intOf i).toNat)
    case atStart => exact ⟨0, by omega, rfl, siK_zero _ _ _, bR _⟩
    case round =>
      obtain ⟨k, hk, rfl, hok, hbw⟩ := hrel
      have HK := Lib.hid hok
      have HBW := Lib.hid hbw
      clear hok hbw
      obtain ⟨x0, x1, x2, x3, x4, x5⟩ := (X.out.keep HBW.out).c5
      by_cases hlt : k < ss.length
      · have HA1 := Lib.hid (HA.out.keep HBW.out)
        obtain ⟨_, ao', cap', e', _, hc⟩ := HA1.out
        injection e' with e1 e2 e3
        subst e1 e3
        obtain ⟨g, rfl, hg, hc⟩ := hc (by omega)
        have HC := Lib.hid hc
        obtain ⟨c0, c1, c2, c3, c4, c5⟩ := hc k hlt
        have HSZ := Lib.hid c5
        have HP := Lib.hid (show siAt ss k = ⟨(siAt ss k).nm, (siAt ss k).x, (siAt ss k).y, (siAt ss k).wh, (siAt ss k).st⟩ from rfl)
        have HW := Lib.hid (fun h => okPl_s (W := W) (H := H) (M := M) (G := G) (ss := ss) hlt h)
        have HS1 := Lib.hid (siK_succ (W := W) (H := H) (ss := ss) (k := k) HK.out)
        rw [HP.out] at HW HS1
        clear hc c5
        generalize (siAt ss k).nm = nm at *
        generalize (siAt ss k).x = x at *
        generalize (siAt ss k).y = y at *
        generalize (siAt ss k).wh = wh at *
        generalize (siAt ss k).st = st at *
        cases q1 : nameB nm
        · have HN := Lib.hid (HW.out (.inl (siB_n1 (s := ⟨nm, x, y, wh, st⟩) q1)))
          go_wp2_with (first | (go_at_call 48; refine (IsNameS_any _ _ HSZ.out).mono ?_; rintro e w1 ⟨rfl, rfl⟩) | (go_at_call 43; refine (l00In_any _ _ _ _).mono ?_; rintro e w1 ⟨rfl, rfl⟩))
          go_ret
          exact ⟨ret_bool HN.out.symm, bT L0.out (bA HBW.out _)⟩
        cases q2 : inB x 0 W
        · have HN := Lib.hid (HW.out (.inl (siB_n2 (s := ⟨nm, x, y, wh, st⟩) q2)))
          go_wp2_with (first | (go_at_call 48; refine (IsNameS_any _ _ HSZ.out).mono ?_; rintro e w1 ⟨rfl, rfl⟩) | (go_at_call 43; refine (l00In_any _ _ _ _).mono ?_; rintro e w1 ⟨rfl, rfl⟩))
          go_ret
          exact ⟨ret_bool HN.out.symm, bT L0.out (bA HBW.out _)⟩
        cases q3 : inB y 0 H
        · have HN := Lib.hid (HW.out (.inl (siB_n3 (s := ⟨nm, x, y, wh, st⟩) q3)))
          go_wp2_with (first | (go_at_call 48; refine (IsNameS_any _ _ HSZ.out).mono ?_; rintro e w1 ⟨rfl, rfl⟩) | (go_at_call 43; refine (l00In_any _ _ _ _).mono ?_; rintro e w1 ⟨rfl, rfl⟩))
          go_ret
          exact ⟨ret_bool HN.out.symm, bT L0.out (bA HBW.out _)⟩
        cases q4 : inB st 1 1000
        · have HN := Lib.hid (HW.out (.inl (siB_n4 (s := ⟨nm, x, y, wh, st⟩) q4)))
          go_wp2_with (first | (go_at_call 48; refine (IsNameS_any _ _ HSZ.out).mono ?_; rintro e w1 ⟨rfl, rfl⟩) | (go_at_call 43; refine (l00In_any _ _ _ _).mono ?_; rintro e w1 ⟨rfl, rfl⟩))
          go_ret
          exact ⟨ret_bool HN.out.symm, bT L0.out (bA HBW.out _)⟩
        cases q5 : inB wh st 10000
        · have HN := Lib.hid (HW.out (.inl (siB_n5 (s := ⟨nm, x, y, wh, st⟩) q5)))
          go_wp2_with (first | (go_at_call 48; refine (IsNameS_any _ _ HSZ.out).mono ?_; rintro e w1 ⟨rfl, rfl⟩) | (go_at_call 43; refine (l00In_any _ _ _ _).mono ?_; rintro e w1 ⟨rfl, rfl⟩))
          go_ret
          exact ⟨ret_bool HN.out.symm, bT L0.out (bA HBW.out _)⟩
        have HB := Lib.hid (siB_go (s := ⟨nm, x, y, wh, st⟩) q1 q2 q3 q4 q5)
        go_wp2_with (first | (go_at_call 48; refine (IsNameS_any _ _ HSZ.out).mono ?_; rintro e w1 ⟨rfl, rfl⟩) | (go_at_call 43; refine (l00In_any _ _ _ _).mono ?_; rintro e w1 ⟨rfl, rfl⟩))
        have Y := Lib.hid (BoxL.new wr [.string nm, .int .i64 x, .int .i64 y, .int .i64 wh, .int .i64 st] 88)
        have X1 := Lib.hid ((X.out.keep HBW.out).alloc (.cells #[.string nm, .int .i64 x, .int .i64 y, .int .i64 wh, .int .i64 st] 88))
        have HBW1 := Lib.hid (bA HBW.out (.cells #[.string nm, .int .i64 x, .int .i64 y, .int .i64 wh, .int .i64 st] 88))
        have HC1 := Lib.hid (SitesAt.keep HC.out hg (bA (bR wr) (.cells #[.string nm, .int .i64 x, .int .i64 y, .int .i64 wh, .int .i64 st] 88)))
        clear q1 q2 q3 q4 q5 c0 c1 c2 c3 c4 x0 x1 x2 x3 x4 x5 HC hg HA1
        generalize wr.alloc (.cells #[.string nm, .int .i64 x, .int .i64 y, .int .i64 wh, .int .i64 st] 88) = W1 at *
        generalize wr.heap.size = nb at *
        go_loopw [5] (fun i wr => ∃ (j n : Nat), j ≤ k ∧ i = .int .i64 j ∧ snK ss nm j ∧ wr = W1.drewN n) (fun i _ => k - (intOf i).toNat)
        case atStart => exact ⟨0, 0, by omega, rfl, snK_zero _ _, rfl⟩
        case round =>
          obtain ⟨j, n, hj, rfl, hsn, rfl⟩ := hrel
          have HSN := Lib.hid hsn
          clear hsn
          obtain ⟨x0, x1, x2, x3, x4, x5⟩ := X1.out.c5
          obtain ⟨y0, _, _, _, _, y5⟩ := Y.out.c5
          by_cases hjk : j < k
          · obtain ⟨c0, _, _, _, _, _⟩ := HC1.out j (by omega)
            have HT := Lib.hid (hasN_yes (ss := ss.take k) (n := nm) (k := j) (by rw [List.length_take]; omega))
            have HSS := Lib.hid (snK_succ (ss := ss) (n := nm) (k := j) HSN.out)
            rw [siAt_take hjk] at HT
            generalize (siAt ss j).nm = nm2 at *
            cases hq : eqS nm2 nm
            · have hq' : (nm2.toList == nm.toList) = false := hq
              have HSS' := Lib.hid (HSS.out hq)
              go_wp2_with fail
              go_quiet (fail)
              go_wp2_with fail
              go_roundw
              case rel => exact ⟨j + 1, _, by omega, by go_num, HSS'.out, rfl⟩
              case measure => simp [intOf]; omega
            · have hq' : (nm2.toList == nm.toList) = true := hq
              have HN := Lib.hid (HW.out (.inr (HT.out hq)))
              go_wp2_with fail
              go_quiet (fail)
              go_wp2_with fail
              go_ret
              exact ⟨ret_bool HN.out.symm, bD (bD (bT L0.out HBW1.out) _) _⟩
          · obtain rfl : j = k := by omega
            have HSK := Lib.hid (HS1.out HB.out (hasN_no (by
              rw [List.length_take]
              intro i hi
              rw [siAt_take (by omega)]
              exact HSN.out i (by omega))))
            go_wp2_with fail
            go_roundw
            case rel => exact ⟨j + 1, by omega, by go_num, HSK.out, bD HBW1.out _⟩
            case measure => simp [intOf]; omega
      · obtain rfl : k = ss.length := by omega
        have HR := Lib.hid (HGO.out HK.out)
        go_wp2_with fail
        go_ret
        exact ⟨ret_bool HR.out.symm, bT L0.out HBW.out⟩
  · have h20' : (20 : Int) < (ss.length : Int) := by omega
    rw [okPl_n5 h20]
    go_enter Try.func25, Try.ntmps25
    go_wp2_with (go_at_call 43; refine (l00In_any _ _ _ _).mono ?_; rintro e w1 ⟨rfl, rfl⟩)
    go_ret
    exact ⟨rfl, L0.out⟩
end Go.Proofs.Ytmhheecjpalajaa

/-
  Springs: validity, the program's side.
-/
import Derived.Test.YtdjnopffglcfmaaSpc
namespace Go.Proofs.Ytdjnopffglcfmaa
open Go.RowKit

set_option maxRecDepth 100000 in
set_option maxHeartbeats 60000000 in
theorem ValidSpringI_any (ps : List (Int × Int)) (v : Value) (w : World) (ha : SlP w v ps) (hmax : ps.length ≤ 1000000000000) :
    Calls Try.prog 9 #[.agg #[v]] w (BoolBel (okSp ps) w) := by
  have X0 := Lib.hid (BoxL.new w [v] 29)
  have L0 := Lib.hid (bA (bR w) (.cells #[v] 29))
  have A0 := Lib.hid (ha.keep L0.out)
  obtain ⟨ao, cap, rfl, _⟩ := ha
  by_cases hl1 : ps.length < 2
  · have HN := Lib.hid (okSp_len (ps := ps) (by omega))
    go_enter Try.func9, Try.ntmps9
    go_wp2_with fail
    go_ret
    exact ⟨ret_bool HN.out.symm, L0.out⟩
  by_cases hl2 : 20 < ps.length
  · have HN := Lib.hid (okSp_len (ps := ps) (by omega))
    go_enter Try.func9, Try.ntmps9
    go_wp2_with fail
    go_ret
    exact ⟨ret_bool HN.out.symm, L0.out⟩
  go_enter Try.func9, Try.ntmps9
  go_wp2_with fail
  generalize w.alloc (.cells #[.slice ao ps.length cap] 29) = W0 at *
  go_loopw [18] (fun vi wr => ∃ k : Nat, k ≤ ps.length ∧ vi = .int .i64 k ∧ bdK ps k ∧ Below W0.heap.size W0 wr) (fun vi _ => ps.length - (intOf vi).toNat)
  case atStart => exact ⟨0, Nat.zero_le _, rfl, bdK_zero _, bR _⟩
  case round =>
    obtain ⟨k, hk, rfl, hok, hbel⟩ := hrel
    have HK := Lib.hid hok
    have L1 := Lib.hid (bT L0.out hbel)
    have X1 := Lib.hid (X0.out.keep hbel)
    have c0 := X1.out.c 0 _ rfl
    have hlt0 := X1.out.lt
    by_cases hlt : k < ps.length
    · obtain ⟨ao2, cap2, e2, ha2⟩ := A0.out.keep hbel
      cases e2
      obtain ⟨g, rfl, hg, hc⟩ := ha2 (by omega)
      obtain ⟨c1, c2⟩ := hc k hlt
      have BB := Lib.hid hbel
      have NOT := Lib.hid (fun (h : bdAt ps k = false) => okSp_no hlt h)
      have YES := Lib.hid (fun (h : bdAt ps k = true) => bdK_succ HK.out h)
      have N1 := Lib.hid (bdAt_n1 (ps := ps) (i := k))
      have GO := Lib.hid (bdAt_go (ps := ps) (i := k))
      have Z0 := Lib.hid (bdAt_0 (ps := ps))
      have HC := Lib.hid hc
      have E1 := Lib.hid (okBd_n1 (x := (pat ps k).1) (y := (pat ps k).2))
      have E2 := Lib.hid (okBd_go (x := (pat ps k).1) (y := (pat ps k).2))
      have HP := Lib.hid (bd_pair ps k)
      clear hc ha2 hbel hok A0 X0
      rw [HP.out] at E1 E2
      have I1 := Lib.hid (fun W => isBetween_any (pat ps k).1 0 2000 W)
      have I2 := Lib.hid (fun W => isBetween_any (pat ps k).2 0 1000000 W)
      cases e1 : inB (pat ps k).1 0 2000
      · have HN := Lib.hid (NOT.out (N1.out (E1.out e1)))
        rw [e1] at I1
        clear NOT YES N1 GO Z0 HC E1 E2
        generalize (pat ps k).1 = x at *
        generalize (pat ps k).2 = y at *
        go_wp2_with fail
        go_quiet (first | (go_at_call 19; with_reducible exact quiet_eq (I1.out _)) | (go_at_call 19; with_reducible exact quiet_eq (I2.out _)))
        go_wp2_with fail
        go_ret
        exact ⟨ret_bool HN.out.symm, by first | exact bA L1.out _ | exact bD (bA L1.out _) _⟩
      rw [e1] at I1
      cases e2 : inB (pat ps k).2 0 1000000
      · have HN := Lib.hid (NOT.out (N1.out ((E2.out e1).trans e2)))
        rw [e2] at I2
        clear NOT YES N1 GO Z0 HC E1 E2
        generalize (pat ps k).1 = x at *
        generalize (pat ps k).2 = y at *
        go_wp2_with fail
        go_quiet (first | (go_at_call 19; with_reducible exact quiet_eq (I1.out _)) | (go_at_call 19; with_reducible exact quiet_eq (I2.out _)))
        go_wp2_with fail
        go_ret
        exact ⟨ret_bool HN.out.symm, by first | exact bA L1.out _ | exact bD (bA L1.out _) _⟩
      rw [e2] at I2
      have hkb : okBd (pat ps k) = true := (E2.out e1).trans e2
      by_cases h0 : k = 0
      · subst h0
        have HY := Lib.hid (YES.out (Z0.out hkb))
        clear NOT YES N1 GO Z0 HC E1 E2 hkb HP
        generalize (pat ps 0).1 = x at *
        generalize (pat ps 0).2 = y at *
        go_wp2_with fail
        go_quiet (first | (go_at_call 19; with_reducible exact quiet_eq (I1.out _)) | (go_at_call 19; with_reducible exact quiet_eq (I2.out _)))
        go_wp2_with fail
        go_roundw
        case rel => exact ⟨1, by omega, by go_num, HY.out, bD (bA BB.out _) _⟩
        case measure => simp [intOf]; omega
      · obtain ⟨j, hj⟩ : ∃ j, k - 1 = j := ⟨_, rfl⟩
        have hjk : (k : Int) - 1 = (j : Int) := by omega
        have gjk : IntKind.i64.wrap ((k : Int) - 1) = (j : Int) := by rw [IntWalk.i64_in _ (by omega)]; omega
        have gj : IntKind.i64.wrap (j : Int) = (j : Int) := IntWalk.i64_in _ (by omega)
        have hjl : j < ps.length := by omega
        have hjl2 : (j : Int) < (ps.length : Int) := by omega
        have hkp : (0 : Int) < (k : Int) := by omega
        have hkpn : 0 < k := by omega
        obtain ⟨r1, r2⟩ := HC.out j hjl
        have HG := Lib.hid (GO.out hkb (by omega))
        rw [hj] at HG
        have HP2 := Lib.hid (bd_pair ps j)
        rw [← HP.out, ← HP2.out] at HG
        clear N1 GO Z0 HC E1 E2 hkb h0 hj HP HP2
        generalize (pat ps k).1 = x at *
        generalize (pat ps k).2 = y at *
        generalize (pat ps j).1 = u at *
        generalize (pat ps j).2 = v at *
        have CF := Lib.hid (fun W => follows_any x y u v W)
        cases hup : upBd (u, v) (x, y)
        · have HN := Lib.hid (NOT.out (HG.out.trans hup))
          rw [hup] at CF
          clear NOT YES HG hup
          have EX := Lib.hid (BoxL.new wr [.int .i64 x, .int .i64 y] 45)
          go_wp2_with fail
          go_region_with (first | (go_at_call 19; with_reducible refine (I1.out _).mono ?_; rintro en w1 ⟨rfl, rfl⟩) | (go_at_call 19; with_reducible refine (I2.out _).mono ?_; rintro en w1 ⟨rfl, rfl⟩) | (go_at_call 20; refine (CF.out _).mono ?_; rintro en w2 ⟨rfl, hb⟩; have HB2 := Lib.hid (show Below (wr.alloc (.cells #[.int .i64 x, .int .i64 y] 45)).heap.size (wr.alloc (.cells #[.int .i64 x, .int .i64 y] 45)) w2 from ⟨hb.os, hb.tape, hb.output, hb.size, hb.block⟩)))
          all_goals go_wp2_with fail
          all_goals go_ret
          all_goals exact ⟨ret_bool HN.out.symm, bT (bA L1.out _) HB2.out⟩
        · have HY := Lib.hid (YES.out (HG.out.trans hup))
          rw [hup] at CF
          clear NOT YES HG hup
          have EX := Lib.hid (BoxL.new wr [.int .i64 x, .int .i64 y] 45)
          go_wp2_with fail
          go_region_with (first | (go_at_call 19; with_reducible refine (I1.out _).mono ?_; rintro en w1 ⟨rfl, rfl⟩) | (go_at_call 19; with_reducible refine (I2.out _).mono ?_; rintro en w1 ⟨rfl, rfl⟩) | (go_at_call 20; refine (CF.out _).mono ?_; rintro en w2 ⟨rfl, hb⟩; have HB2 := Lib.hid (show Below (wr.alloc (.cells #[.int .i64 x, .int .i64 y] 45)).heap.size (wr.alloc (.cells #[.int .i64 x, .int .i64 y] 45)) w2 from ⟨hb.os, hb.tape, hb.output, hb.size, hb.block⟩)))
          all_goals go_wp2_with fail
          all_goals go_roundw
          all_goals first | exact ⟨k + 1, by omega, by go_num, HY.out, bT (bA BB.out _) HB2.out⟩ | (simp [intOf]; omega)
    · obtain rfl : k = ps.length := by omega
      have HY := Lib.hid (okSp_yes (ps := ps) (by omega) HK.out)
      clear hbel hok
      go_wp2_with fail
      go_ret
      exact ⟨ret_bool HY.out.symm, L1.out⟩
end Go.Proofs.Ytdjnopffglcfmaa

/-
  SitesOutside: the program's side.
-/
import Derived.Test.YtgkfelochpllgaaPlQ
namespace Go.Proofs.Ytgkfelochpllgaa
open Go.RowKit

theorem run_min_four {P : Program} (w : World) (ts : Array TypeId) (t : TypeId) (k k1 k2 k3 : IntKind) (x y z u : Int) :
    (Builtin.min_ ts t #[.int k x, .int k1 y, .int k2 z, .int k3 u]).run P w = .ok (.int k (min x (min y (min z u)))) w := by
  have e (x y : Int) : (if y < x then y else x) = min x y := by
    rw [Int.min_def]
    split <;> split <;> omega
  simp [Builtin.min_, Builtin.min2, e]
attribute [local go_sem] run_min_four
set_option maxRecDepth 100000 in
set_option maxHeartbeats 8000000 in
theorem SitesOutsideI_any (p : Pl4) (ss : List Sit) (v : Value) (w : World) (ha : SlSi w v ss) :
    Calls Try.prog 27 #[plV p v] w (SoPost w (soF p.W p.H p.M p.G ss)) := by
  obtain ⟨W, H, M, G⟩ := p
  obtain ⟨h0, ao, cap, rfl, hcp, hc⟩ := ha
  have HV := Lib.hid (fun W' (h : SlSi W' (.slice ao ss.length cap) ss) => ValidPlateI_any ⟨W, H, M, G⟩ ss (.slice ao ss.length cap) W' h)
  unfold plV at HV
  simp only at HV
  unfold plV
  simp only
  have X := Lib.hid (BoxL.new w [.int .i64 W, .int .i64 H, .int .i64 M, .int .i64 G, .slice ao ss.length cap] 49)
  have L0 := Lib.hid (bA (bR w) (.cells #[.int .i64 W, .int .i64 H, .int .i64 M, .int .i64 G, .slice ao ss.length cap] 49))
  have HA := Lib.hid (SlSi.keep (show SlSi w (.slice ao ss.length cap) ss from ⟨h0, ao, cap, rfl, hcp, hc⟩) L0.out)
  clear hc hcp
  cases hok : okPl W H M G ss
  · rw [show soF W H M G ss = ([], 1) by simp [soF, hok]]
    rw [hok] at HV
    go_enter Try.func27, Try.ntmps27
    go_wp2_with fail
    refine (HV.out _ HA.out).mono ?_
    rintro e w1 ⟨rfl, hb⟩
    go_wp2_with fail
    go_ret2
    exact ⟨_, rfl, SoR.nil (bT L0.out hb)⟩
  rw [show soF W H M G ss = (soL W H M ss ss.length, 0) by simp [soF, hok]]
  rw [hok] at HV
  have h20 := (okPl_parts hok).2.2.2.2.1
  obtain ⟨⟨hW1, hW2⟩, ⟨hH1, hH2⟩, ⟨hM1, hM2⟩, _, _, _⟩ := okPl_parts hok
  go_enter Try.func27, Try.ntmps27
  go_wp2_with fail
  refine (HV.out _ HA.out).mono ?_
  rintro e w1 ⟨rfl, hb⟩
  have L1 := Lib.hid (bT L0.out hb)
  have H1 := Lib.hid (HA.out.keep hb)
  have X1 := Lib.hid (X.out.keep hb)
  clear hb X L0 HA HV
  have HC := Lib.hid (show 1 ≤ ss.length → ∃ g, ao = some ⟨g, 0, none⟩ ∧ g < w1.heap.size ∧ SitesAt w1 g ss from by obtain ⟨_, a', c', e, _, h⟩ := H1.out; cases e; exact h)
  have RS := Lib.hid (show SoRel w1 W H M ss (.slice none 0 0) (.int .i64 0) w1 from ⟨0, by omega, rfl, SoR.nil (bR _)⟩)
  have HB := Lib.hid (fun i (hi : i < ss.length) => siB_bd (okPl_site hok hi))
  clear hok
  obtain ⟨x0, x1, x2, x3, x4, x5⟩ := X1.out.c5
  go_wp2_with fail
  clear x0 x1 x2 x3 x4 x5
  go_loopw [4, 13] (fun v i wr => SoRel w1 W H M ss v i wr) (fun _ i _ => ss.length - (intOf i).toNat)
  case atStart => exact RS.out
  case round =>
    obtain ⟨k, hk, rfl, hS⟩ := hrel
    have HS := Lib.hid hS
    obtain ⟨x0, x1, x2, x3, x4, x5⟩ := (X1.out.keep hS.2).c5
    by_cases hlt : k < ss.length
    · obtain ⟨g, rfl, hg, hc⟩ := HC.out (by omega)
      obtain ⟨c0, c1, c2, c3, c4, hsz⟩ := (hc.keep hg hS.2) k hlt
      obtain ⟨_, ⟨hx1, hx2⟩, ⟨hy1, hy2⟩, ⟨hs1, hs2⟩, _, _⟩ := HB.out k hlt
      have hlen := soL_len W H M ss k
      have HY := Lib.hid (soB_yes (W := W) (H := H) (M := M) (ss := ss) (k := k))
      have HN := Lib.hid (soB_no (W := W) (H := H) (M := M) (ss := ss) (k := k))
      clear hS hc hg HC RS HB
      generalize (siAt ss k).nm = m0 at *
      generalize (siAt ss k).x = m1 at *
      generalize (siAt ss k).y = m2 at *
      generalize (siAt ss k).wh = m3 at *
      generalize (siAt ss k).st = m4 at *
      by_cases ho : min m1 (min (W - m1) (min m2 (H - m2))) < m4 + M
      · have HY' := Lib.hid (HY.out ho)
        clear HY HN
        have S2 := Lib.hid (HS.out.keep (bA (bR wr) (.cells #[.string m0, .int .i64 m1, .int .i64 m2, .int .i64 m3, .int .i64 m4] 90)))
        go_wp2_with (at_builtin; refine app_i64 rfl _ _ rfl _ _ (k : Int) rfl S2.out (by show Value.slice (some ⟨wr.heap.size + 1, 0, none⟩) 1 1 = _; simp) (by omega) ?_)
        intro v' w' hR
        have R := Lib.hid hR
        clear hR S2
        go_wp2_with fail
        go_roundw
        case rel => exact ⟨k + 1, by omega, by go_num, by rw [HY'.out]; exact R.out⟩
        case measure => simp [intOf]; omega
      · have HN' := Lib.hid (HN.out ho)
        clear HY HN
        have S2 := Lib.hid (HS.out.keep (bA (bR wr) (.cells #[.string m0, .int .i64 m1, .int .i64 m2, .int .i64 m3, .int .i64 m4] 90)))
        go_wp2_with fail
        go_roundw
        case rel => exact ⟨k + 1, by omega, by go_num, by rw [HN'.out]; exact S2.out⟩
        case measure => simp [intOf]; omega
    · obtain rfl : k = ss.length := by omega
      have HE := Lib.hid (HS.out.low L1.out)
      go_wp2_with fail
      go_ret2
      exact ⟨_, rfl, HE.out⟩
end Go.Proofs.Ytgkfelochpllgaa

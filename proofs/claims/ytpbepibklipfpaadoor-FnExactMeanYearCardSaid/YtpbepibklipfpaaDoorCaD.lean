/-
  The document's side: leap years, days, cycles (spec.l15Leap, l15Days, l15All, l15Cycle, l16Before).
-/
import Derived.Test.YtpbepibklipfpaaDoorCaV
import Derived.Test.YtpbepibklipfpaaDoorCaL
namespace Go.Proofs.YtpbepibklipfpaaDoor
open Go.RowKit

def IntR (n : Int) (w : World) (e : Ending) (w' : World) : Prop := e = .returned (.int .i64 n) ∧ Below w.heap.size w w'
def TwoR2 (a b : Int) (w : World) (e : Ending) (w' : World) : Prop := e = .returned (.tuple #[.int .i64 a, .int .i64 b]) ∧ Below w.heap.size w w'
theorem l15Year_any (y : Int) (w : World) : Calls Tryd.prog 86 #[.int .i64 y] w fun e w' => e = .returned (.bool (inB y 0 9999)) ∧ w = w' := by
  go_enter Tryd.func86, Tryd.ntmps86
  go_wp2_with (first | (go_at_call 71; refine (l00In_any _ _ _ _).mono ?_; rintro e w1 ⟨rfl, rfl⟩))
  go_ret
  exact ⟨rfl, rfl⟩
set_option maxRecDepth 100000 in
set_option maxHeartbeats 4000000 in
theorem l15Leap_any (b : Nat) (c : Cal) (y : Int) (w : World) (h : CalAt w b c) (hr : ruK c.rs c.rs.length) (hy : 0 ≤ y) (hy2 : y ≤ 9223372036854775807) :
    Calls Tryd.prog 127 #[.pointer (some ⟨b, 0, none⟩), .int .i64 y] w (BoolBel (lpY c.rs y) w) := by
  obtain ⟨u, v, X, _, _, hR⟩ := h
  obtain ⟨c0, c1, c2, c3, c4⟩ := X.c4q
  obtain ⟨ao, cap, rfl, ⟨l1, l2⟩, ha⟩ := hR.open
  have HA := Lib.hid ha
  have HR := Lib.hid hr
  unfold maxLen at l2
  unfold lpY
  clear ha hr hR X
  generalize c.rs = rs at *
  go_enter Tryd.func127, Tryd.ntmps127
  go_wp2_with fail
  go_loopw [5, 6] (fun o i wr => ∃ (k n : Nat), k ≤ rs.length ∧ i = .int .i64 k ∧ o = .bool (lpK rs y k) ∧ wr = w.drewN n) (fun _ i _ => rs.length - (intOf i).toNat)
  case atStart => exact ⟨0, 0, by omega, rfl, rfl, rfl⟩
  case round =>
    obtain ⟨k, n, hk, rfl, rfl, rfl⟩ := hrel
    by_cases hlt : k < rs.length
    · obtain ⟨g, o, rfl, hg, hc⟩ := HA.out (by omega)
      obtain ⟨d0, d1, d2⟩ := hc k hlt
      have hb := ruB_bd (HR.out k hlt)
      have HY := Lib.hid (lpK_yes (rs := rs) (y := y) (k := k))
      have HN := Lib.hid (lpK_no (rs := rs) (y := y) (k := k))
      unfold apR at HY HN
      clear hc HA HR
      generalize (ruAt rs k).e = x at *
      generalize (ruAt rs k).r = r at *
      generalize (ruAt rs k).b = bb at *
      generalize lpK rs y k = lp at *
      have hx0 : ¬ x = 0 := by omega
      have hx1 : 0 < x := by omega
      by_cases hq : y % x = r
      · have hq' : (y % x == r) = true := by simpa using hq
        have HY' := Lib.hid (HY.out (by simpa using hq))
        go_wp2_with fail
        go_quiet (fail)
        go_wp2_with fail
        go_roundw
        case rel => exact ⟨k + 1, _, by omega, by go_num, by rw [HY'.out], by first | rfl | simp [World.drewN_drewN]⟩
        case measure => simp [intOf]; omega
      · have hq' : (y % x == r) = false := by simpa using hq
        have HN' := Lib.hid (HN.out (by simpa using hq))
        go_wp2_with fail
        go_quiet (fail)
        go_wp2_with fail
        go_roundw
        case rel => exact ⟨k + 1, _, by omega, by go_num, by rw [HN'.out], by first | rfl | simp [World.drewN_drewN]⟩
        case measure => simp [intOf]; omega
    · obtain rfl : k = rs.length := by omega
      go_wp2_with fail
      go_ret
      exact ⟨rfl, bD (bR _) _⟩
set_option maxRecDepth 100000 in
set_option maxHeartbeats 4000000 in
theorem l15Days_any (b : Nat) (c : Cal) (y : Int) (m : Nat) (w : World) (h : CalAt w b c) (hr : ruK c.rs c.rs.length) (hy : 0 ≤ y) (hy2 : y ≤ 9223372036854775807) (hm : m < c.ms.length) :
    Calls Tryd.prog 104 #[.pointer (some ⟨b, 0, none⟩), .int .i64 y, .int .i64 (m : Int)] w (IntR (dyM (moAt c.ms m) (lpY c.rs y)) w) := by
  have CL := Lib.hid (l15Leap_any b c y w h hr hy hy2)
  obtain ⟨u, v, X, _, hM, _⟩ := h
  have XB := Lib.hid X
  obtain ⟨ao, cap, rfl, ⟨l1, l2⟩, ha⟩ := hM.open
  obtain ⟨g, o, rfl, hg, hc⟩ := ha (by omega)
  have HC := Lib.hid hc
  unfold maxLen at l2
  unfold dyM
  clear ha hM X hc
  generalize c.ms = ms at *
  cases hq : lpY c.rs y
  · rw [hq] at CL
    go_enter Tryd.func104, Tryd.ntmps104
    go_wp2_with fail
    refine CL.out.mono ?_
    rintro e w1 ⟨rfl, hb⟩
    obtain ⟨d0, d1, d2, _⟩ := (HC.out.keep hg hb) m hm
    obtain ⟨c0, c1, c2, c3, c4⟩ := (XB.out.keep hb).c4q
    have L := Lib.hid hb
    clear hb
    go_wp2_with fail
    go_ret
    exact ⟨rfl, L.out⟩
  · rw [hq] at CL
    go_enter Tryd.func104, Tryd.ntmps104
    go_wp2_with fail
    refine CL.out.mono ?_
    rintro e w1 ⟨rfl, hb⟩
    obtain ⟨d0, d1, d2, _⟩ := (HC.out.keep hg hb) m hm
    obtain ⟨c0, c1, c2, c3, c4⟩ := (XB.out.keep hb).c4q
    have L := Lib.hid hb
    clear hb
    go_wp2_with fail
    go_ret
    exact ⟨rfl, L.out⟩
set_option maxRecDepth 100000 in
set_option maxHeartbeats 4000000 in
theorem l15All_any (b : Nat) (c : Cal) (y : Int) (w : World) (h : CalAt w b c) (hr : ruK c.rs c.rs.length) (ho : okMo c.ms = true) (hy : 0 ≤ y) (hy2 : y ≤ 9223372036854775807) :
    Calls Tryd.prog 72 #[.pointer (some ⟨b, 0, none⟩), .int .i64 y] w (IntR (dyY c.ms c.rs y) w) := by
  have H := Lib.hid h
  have CD := Lib.hid (fun m (hm : m < c.ms.length) W (h : CalAt W b c) => l15Days_any b c y m W h hr hy hy2 hm)
  have HB := Lib.hid (fun k (hk : k ≤ c.ms.length) => smD_bd ho (lpY c.rs y) (k := k) hk)
  have h20 := (okMo_parts ho).2.1
  have HD := Lib.hid (fun k (hk : k < c.ms.length) => dyM_bd ho (k := k) hk (lpY c.rs y))
  unfold dyY smA
  generalize lpY c.rs y = q at *
  clear h ho hr
  go_enter Tryd.func72, Tryd.ntmps72
  go_wp2_with fail
  go_loopw [5, 6] (fun s i wr => ∃ (k : Nat), k ≤ c.ms.length ∧ i = .int .i64 k ∧ s = .int .i64 (smD c.ms q k) ∧ Below w.heap.size w wr) (fun _ i _ => c.ms.length - (intOf i).toNat)
  case atStart => exact ⟨0, by omega, rfl, rfl, bR _⟩
  case round =>
    obtain ⟨k, hk, rfl, rfl, hb⟩ := hrel
    have L := Lib.hid hb
    have H1 := Lib.hid (H.out.keep hb)
    obtain ⟨u, v, X, _, hM, _⟩ := H1.out
    obtain ⟨c0, c1, c2, c3, c4⟩ := X.c4q
    obtain ⟨ao, cap, rfl, ⟨l1, l2⟩, _⟩ := hM.open
    unfold maxLen at l2
    have b1 := HB.out k hk
    clear hM X hb
    by_cases hlt : k < c.ms.length
    · have C1 := Lib.hid (CD.out k hlt)
      have b2 := HD.out k hlt
      have HS := Lib.hid (smD_succ c.ms q k)
      generalize dyM (moAt c.ms k) q = d at *
      generalize smD c.ms q k = s at *
      go_wp2_with fail
      refine (C1.out _ H1.out).mono ?_
      rintro e w2 ⟨rfl, hb⟩
      have L2 := Lib.hid (bT L.out hb)
      clear hb
      go_wp2_with fail
      go_roundw
      case rel => exact ⟨k + 1, by omega, by go_num, by rw [HS.out], L2.out⟩
      case measure => simp [intOf]; omega
    · obtain rfl : k = c.ms.length := by omega
      go_wp2_with fail
      go_ret
      exact ⟨rfl, L.out⟩
set_option maxRecDepth 100000 in
set_option maxHeartbeats 4000000 in
theorem l15Cycle_any (b : Nat) (c : Cal) (w : World) (h : CalAt w b c) (hr : okRu c.rs = true) (ho : okMo c.ms = true) :
    Calls Tryd.prog 35 #[.pointer (some ⟨b, 0, none⟩)] w (TwoR2 (lcA c.rs) (cyK c.ms c.rs (lcA c.rs).toNat) w) := by
  obtain ⟨r1, r2, r3, r4⟩ := okRu_parts hr
  obtain ⟨Y, hY⟩ := Int.eq_ofNat_of_zero_le (show 0 ≤ lcA c.rs by omega)
  rw [hY] at r3 r4 ⊢
  simp only [Int.toNat_natCast]
  have H := Lib.hid h
  have CY := Lib.hid (fun v W (h : SlRu W v c.rs) => l15Years_any c.rs v W h)
  have CD := Lib.hid (fun (y : Nat) (hy : y < Y) W (h : CalAt W b c) => l15All_any b c (y : Int) W h r1 ho (by omega) (by omega))
  have HB := Lib.hid (fun k => cyK_bd ho c.rs k)
  have HD := Lib.hid (fun (y : Int) => dyY_bd ho c.rs y)
  have HY := Lib.hid hY
  have HR := Lib.hid hr
  obtain ⟨u, v, X, _, hM, hRR⟩ := h
  obtain ⟨c0, c1, c2, c3, c4⟩ := X.c4q
  have hS := hRR
  obtain ⟨a2, n2, rfl, _⟩ := hRR.open
  clear ho hr r1 hY X hM hRR
  go_enter Tryd.func35, Tryd.ntmps35
  go_wp2_with fail
  refine (CY.out _ _ hS).mono ?_
  rintro e w1 ⟨y, rfl, hyy, hb⟩
  obtain rfl : y = (Y : Int) := (hyy HR.out).trans HY.out
  have L1 := Lib.hid hb
  have H1 := Lib.hid (H.out.keep hb)
  clear hb hyy hS H c0 c1 c2 c3 c4
  go_wp2_with fail
  go_loopw [6, 7] (fun s i wr => ∃ (k : Nat), k ≤ Y ∧ i = .int .i64 k ∧ s = .int .i64 (cyK c.ms c.rs k) ∧ Below w1.heap.size w1 wr) (fun _ i _ => Y - (intOf i).toNat)
  case atStart => exact ⟨0, by omega, rfl, rfl, bR _⟩
  case round =>
    obtain ⟨k, hk, rfl, rfl, hb⟩ := hrel
    have L2 := Lib.hid hb
    have H2 := Lib.hid (H1.out.keep hb)
    have b1 := HB.out k
    clear hb
    by_cases hlt : k < Y
    · have C1 := Lib.hid (CD.out k hlt)
      have b2 := HD.out (k : Int)
      have HS := Lib.hid (cyK_succ c.ms c.rs k)
      generalize dyY c.ms c.rs (k : Int) = d at *
      generalize cyK c.ms c.rs k = s at *
      go_wp2_with fail
      refine (C1.out _ H2.out).mono ?_
      rintro e w2 ⟨rfl, hb⟩
      have L3 := Lib.hid (bT L2.out hb)
      clear hb
      go_wp2_with fail
      go_roundw
      case rel => exact ⟨k + 1, by omega, by go_num, by rw [HS.out], L3.out⟩
      case measure => simp [intOf]; omega
    · obtain rfl : k = Y := by omega
      go_wp2_with fail
      go_ret2
      exact ⟨rfl, bT L1.out L2.out⟩
end Go.Proofs.YtpbepibklipfpaaDoor

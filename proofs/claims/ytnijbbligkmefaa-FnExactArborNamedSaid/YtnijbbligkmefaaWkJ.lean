/-
  The contracts of impl.Works.hasArbor, hasWheel, allows, Mesh.isSame, and of slices.IndexFunc and slices.ContainsFunc over meshes.
-/
import Derived.Test.YtnijbbligkmefaaWkI
namespace Go.Proofs.Ytnijbbligkmefaa
open Go.RowKit

theorem hasArbor_any (rs : List Arb) (ms : List Msh) (u v : Value) (a : Int) (w : World) (ha : SlA w u rs) (hm : SlM w v ms) :
    Calls Try.prog 95 #[.agg #[u, v], .int .i64 a] w (BoolBel (inB a 0 ((rs.length : Int) - 1)) w) := by
  obtain ⟨hmax, ao, cap, rfl, _, _⟩ := ha
  obtain ⟨_, bo, bcap, rfl, _, _⟩ := hm
  obtain ⟨x0, x1, _, _, x4⟩ := BoxU.new w (.slice ao rs.length cap) (.slice bo ms.length bcap) 31
  by_cases h1 : 0 ≤ a
  · by_cases h2 : a < (rs.length : Int)
    · rw [inB_true.2 ⟨h1, by omega⟩]
      go_enter Try.func95, Try.ntmps95
      go_wp2_with fail
      go_ret
      exact ⟨ret_bool (by simp), bA (bR _) _⟩
    · rw [show inB a 0 ((rs.length : Int) - 1) = false by rw [inB_false]; omega]
      go_enter Try.func95, Try.ntmps95
      go_wp2_with fail
      go_ret
      exact ⟨ret_bool (by simp), bA (bR _) _⟩
  · rw [show inB a 0 ((rs.length : Int) - 1) = false by rw [inB_false]; omega]
    go_enter Try.func95, Try.ntmps95
    go_wp2_with fail
    go_ret
    exact ⟨rfl, bA (bR _) _⟩
theorem whl_no2 {rs : List Arb} {n : Nat} {k : Int} (h : n < rs.length) (h2 : ¬ (0 ≤ k ∧ k < ((arAt rs n).2.length : Int))) : whlB rs (n : Int) k = false := by
  rw [whl_go h, inB_false]; omega
theorem whl_yes {rs : List Arb} {n : Nat} {k : Int} (h : n < rs.length) (h2 : 0 ≤ k) (h3 : k < ((arAt rs n).2.length : Int)) : whlB rs (n : Int) k = true := by
  rw [whl_go h, inB_true]; omega
set_option maxHeartbeats 2000000 in
theorem hasWheel_any (rs : List Arb) (ms : List Msh) (u v : Value) (a k : Int) (w : World) (ha : SlA w u rs) (hm : SlM w v ms) :
    Calls Try.prog 84 #[.agg #[u, v], .int .i64 a, .int .i64 k] w (BoolBel (whlB rs a k) w) := by
  obtain ⟨h0, ao, cap, rfl, hcp, hc⟩ := ha
  obtain ⟨h0', bo, bcap, rfl, hcp', hc'⟩ := hm
  have X := Lib.hid (BoxU.new w (.slice ao rs.length cap) (.slice bo ms.length bcap) 31)
  have L0 := Lib.hid (bA (bR w) (.cells #[.slice ao rs.length cap, .slice bo ms.length bcap] 31))
  have HA := Lib.hid (SlA.keep (show SlA w (.slice ao rs.length cap) rs from ⟨h0, ao, cap, rfl, hcp, hc⟩) L0.out)
  have HM := Lib.hid (SlM.keep (show SlM w (.slice bo ms.length bcap) ms from ⟨h0', bo, bcap, rfl, hcp', hc'⟩) L0.out)
  clear hc hc'
  cases hp : inB a 0 ((rs.length : Int) - 1)
  · rw [whl_no1 hp]
    go_enter Try.func84, Try.ntmps84
    go_wp2_with fail
    generalize w.alloc (.cells #[.slice ao rs.length cap, .slice bo ms.length bcap] 31) = W0 at *
    obtain ⟨x0, x1, _, _, x4⟩ := X.out
    refine (hasArbor_any rs ms _ _ _ _ HA.out HM.out).mono ?_
    rw [hp]
    rintro e w1 ⟨rfl, hb⟩
    have L1 := Lib.hid (bT L0.out hb)
    clear hb
    go_wp2_with fail
    go_ret
    exact ⟨rfl, L1.out⟩
  · obtain ⟨p1, p2⟩ := inB_true.1 hp
    obtain ⟨n, rfl⟩ := Int.eq_ofNat_of_zero_le p1
    have hlt : n < rs.length := by omega
    by_cases h1 : 0 ≤ k
    · by_cases h2 : k < ((arAt rs n).2.length : Int)
      · rw [whl_yes hlt h1 h2]
        go_enter Try.func84, Try.ntmps84
        go_wp2_with fail
        generalize w.alloc (.cells #[.slice ao rs.length cap, .slice bo ms.length bcap] 31) = W0 at *
        obtain ⟨x0, x1, _, _, x4⟩ := X.out
        refine (hasArbor_any rs ms _ _ _ _ HA.out HM.out).mono ?_
        rw [hp]
        rintro e w1 ⟨rfl, hb⟩
        obtain ⟨x0, x1, _, _, x4⟩ := X.out.keep hb
        obtain ⟨_, ao', cap', e', _, hc⟩ := HA.out.keep hb
        injection e' with e1 e2 e3
        subst e1 e3
        obtain ⟨g, rfl, hg, hc⟩ := hc (by omega)
        obtain ⟨_, _, hts, u, c1, ⟨bo', bcap', rfl, _⟩⟩ := hc n hlt
        have L1 := Lib.hid (bT L0.out hb)
        clear hc hb HA HM
        go_wp2_with fail
        go_ret
        exact ⟨ret_bool (by first | rfl | simp [h1, h2]), L1.out⟩
      · rw [whl_no2 hlt (by omega)]
        go_enter Try.func84, Try.ntmps84
        go_wp2_with fail
        generalize w.alloc (.cells #[.slice ao rs.length cap, .slice bo ms.length bcap] 31) = W0 at *
        obtain ⟨x0, x1, _, _, x4⟩ := X.out
        refine (hasArbor_any rs ms _ _ _ _ HA.out HM.out).mono ?_
        rw [hp]
        rintro e w1 ⟨rfl, hb⟩
        obtain ⟨x0, x1, _, _, x4⟩ := X.out.keep hb
        obtain ⟨_, ao', cap', e', _, hc⟩ := HA.out.keep hb
        injection e' with e1 e2 e3
        subst e1 e3
        obtain ⟨g, rfl, hg, hc⟩ := hc (by omega)
        obtain ⟨_, _, hts, u, c1, ⟨bo', bcap', rfl, _⟩⟩ := hc n hlt
        have L1 := Lib.hid (bT L0.out hb)
        clear hc hb HA HM
        go_wp2_with fail
        go_ret
        exact ⟨ret_bool (by first | rfl | simp; omega), L1.out⟩
    · rw [whl_no2 hlt (by omega)]
      go_enter Try.func84, Try.ntmps84
      go_wp2_with fail
      generalize w.alloc (.cells #[.slice ao rs.length cap, .slice bo ms.length bcap] 31) = W0 at *
      obtain ⟨x0, x1, _, _, x4⟩ := X.out
      refine (hasArbor_any rs ms _ _ _ _ HA.out HM.out).mono ?_
      rw [hp]
      rintro e w1 ⟨rfl, hb⟩
      obtain ⟨x0, x1, _, _, x4⟩ := X.out.keep hb
      obtain ⟨_, ao', cap', e', _, hc⟩ := HA.out.keep hb
      injection e' with e1 e2 e3
      subst e1 e3
      obtain ⟨g, rfl, hg, hc⟩ := hc (by omega)
      obtain ⟨_, _, hts, u, c1, ⟨bo', bcap', rfl, _⟩⟩ := hc n hlt
      have L1 := Lib.hid (bT L0.out hb)
      clear hc hb HA HM
      go_wp2_with fail
      go_ret
      exact ⟨ret_bool (by first | rfl | simp; omega), L1.out⟩
set_option maxHeartbeats 2000000 in
theorem allows_any (rs : List Arb) (ms : List Msh) (u v : Value) (x0 x1 x2 x3 : Int) (w : World) (ha : SlA w u rs) (hm : SlM w v ms) :
    Calls Try.prog 51 #[.agg #[u, v], .agg #[.int .i64 x0, .int .i64 x1, .int .i64 x2, .int .i64 x3]] w (BoolBel (mshB rs (x0, x1, x2, x3)) w) := by
  obtain ⟨h0, ao, cap, rfl, hcp, hc⟩ := ha
  obtain ⟨h0', bo, bcap, rfl, hcp', hc'⟩ := hm
  have X := Lib.hid ((BoxU.new w (.slice ao rs.length cap) (.slice bo ms.length bcap) 31).keep (bA (bR _) (.cells #[.int .i64 x0, .int .i64 x1, .int .i64 x2, .int .i64 x3] 52)))
  have L0 := Lib.hid (bA (bA (bR w) (.cells #[.slice ao rs.length cap, .slice bo ms.length bcap] 31)) (.cells #[.int .i64 x0, .int .i64 x1, .int .i64 x2, .int .i64 x3] 52))
  have hsz : (w.alloc (.cells #[.slice ao rs.length cap, .slice bo ms.length bcap] 31)).heap.size = w.heap.size + 1 := by simp
  have B0 := BoxM.new (w.alloc (.cells #[.slice ao rs.length cap, .slice bo ms.length bcap] 31)) x0 x1 x2 x3 52
  rw [hsz] at B0
  have B := Lib.hid B0
  clear B0 hsz
  have HA := Lib.hid (SlA.keep (show SlA w (.slice ao rs.length cap) rs from ⟨h0, ao, cap, rfl, hcp, hc⟩) L0.out)
  have HM := Lib.hid (SlM.keep (show SlM w (.slice bo ms.length bcap) ms from ⟨h0', bo, bcap, rfl, hcp', hc'⟩) L0.out)
  clear hc hc'
  by_cases hne : x0 = x2
  · have HE := Lib.hid (show mshB rs (x0, x1, x2, x3) = false by simp [mshB, hne])
    rw [HE.out]
    have hne' : (x0 != x2) = false := by simp [hne]
    go_enter Try.func51, Try.ntmps51
    go_wp2_with fail
    go_ret
    exact ⟨rfl, bA (bA (bR _) _) _⟩
  · have hne' : (x0 != x2) = true := by simp [hne]
    cases h1 : whlB rs x0 x1
    · have HE := Lib.hid (show mshB rs (x0, x1, x2, x3) = false by simp [mshB, h1])
      rw [HE.out]
      go_enter Try.func51, Try.ntmps51
      go_wp2_with fail
      refine (hasWheel_any rs ms _ _ _ _ _ HA.out HM.out).mono ?_
      rw [h1]
      rintro e w1 ⟨rfl, hb⟩
      have L1 := Lib.hid (bT L0.out hb)
      clear hb
      go_wp2_with fail
      go_ret
      exact ⟨rfl, L1.out⟩
    · have HE := Lib.hid (show mshB rs (x0, x1, x2, x3) = whlB rs x2 x3 by simp [mshB, h1, hne])
      rw [HE.out]
      go_enter Try.func51, Try.ntmps51
      go_wp2_with fail
      refine (hasWheel_any rs ms _ _ _ _ _ HA.out HM.out).mono ?_
      rw [h1]
      rintro e w1 ⟨rfl, hb⟩
      obtain ⟨c0, c1, _, _, c4⟩ := X.out.keep hb
      obtain ⟨d0, d1, d2, d3, d4⟩ := B.out.keep hb
      have HA1 := Lib.hid (HA.out.keep hb)
      have HM1 := Lib.hid (HM.out.keep hb)
      have L1 := Lib.hid (bT L0.out hb)
      clear hb HA HM X B
      go_wp2_with fail
      refine (hasWheel_any rs ms _ _ _ _ _ HA1.out HM1.out).mono ?_
      rintro e w2 ⟨rfl, hb⟩
      have L2 := Lib.hid (bT L1.out hb)
      clear hb
      go_wp2_with fail
      go_ret
      exact ⟨rfl, L2.out⟩
set_option maxHeartbeats 4000000 in
theorem isSame_any (x0 x1 x2 x3 y0 y1 y2 y3 : Int) (w : World) :
    Calls Try.prog 53 #[.agg #[.int .i64 x0, .int .i64 x1, .int .i64 x2, .int .i64 x3], .agg #[.int .i64 y0, .int .i64 y1, .int .i64 y2, .int .i64 y3]] w (BoolBel (eqM (x0, x1, x2, x3) (y0, y1, y2, y3)) w) := by
  go_enter Try.func53, Try.ntmps53
  go_wp2_with fail
  all_goals (go_ret; exact ⟨ret_bool (by rw [eqM_iff, Bool.eq_iff_iff]; simp_all), bA (bA (bR _) _) _⟩)
def IdxRetM (r0 : Bool) (n : Nat) (w : World) (e : Ending) (w' : World) : Prop := ∃ r : Int, e = .returned (.int .i64 r) ∧ decide (0 ≤ r) = r0 ∧ r ≤ n ∧ -1 ≤ r ∧ Below w.heap.size w w'
set_option maxHeartbeats 2000000 in
theorem idxM_any (ms : List Msh) (x0 x1 x2 x3 : Int) (v : Value) (w : World) (hm : SlM w v ms) :
    Calls Try.prog 85 #[v, .func (.func 53) #[.agg #[.int .i64 x0, .int .i64 x1, .int .i64 x2, .int .i64 x3]] #[]] w (IdxRetM (knM ms (x0, x1, x2, x3) ms.length) ms.length w) := by
  obtain ⟨hmax, ao, cap, rfl, _, ha⟩ := hm
  have HA := Lib.hid ha
  clear ha
  go_enter Try.func85, Try.ntmps85
  go_wp2_with fail
  go_loopw [8] (fun i wr => ∃ (k : Nat), k ≤ ms.length ∧ i = .int .i64 k ∧ nomK ms (x0, x1, x2, x3) k ∧ Below w.heap.size w wr) (fun i _ => ms.length - (intOf i).toNat)
  case atStart => exact ⟨0, by omega, rfl, nomK_zero _ _, bR _⟩
  case round =>
    obtain ⟨k, hk, rfl, hok, hbw⟩ := hrel
    have HK := Lib.hid hok
    have HBW := Lib.hid hbw
    clear hok
    by_cases hlt : k < ms.length
    · obtain ⟨g, rfl, hg, hc⟩ := HA.out (by omega)
      obtain ⟨c0, c1, c2, c3⟩ := (hc.keep hg hbw) k hlt
      have HP := Lib.hid (show msAt ms k = ((msAt ms k).1, (msAt ms k).2.1, (msAt ms k).2.2.1, (msAt ms k).2.2.2) from rfl)
      clear hc HA hbw hg
      generalize (msAt ms k).1 = y0 at *
      generalize (msAt ms k).2.1 = y1 at *
      generalize (msAt ms k).2.2.1 = y2 at *
      generalize (msAt ms k).2.2.2 = y3 at *
      have HY := Lib.hid (fun h : eqM (x0, x1, x2, x3) (y0, y1, y2, y3) = true => kn_yes (ms := ms) (m := (x0, x1, x2, x3)) (i := k) (k := ms.length) hlt hlt (by rw [HP.out, eqM_comm]; exact h))
      have HN := Lib.hid (fun h : eqM (x0, x1, x2, x3) (y0, y1, y2, y3) = false => nomK_succ (ms := ms) (m := (x0, x1, x2, x3)) (k := k) HK.out (by rw [HP.out, eqM_comm]; exact h))
      have HQ := Lib.hid (fun W => isSame_any x0 x1 x2 x3 y0 y1 y2 y3 W)
      clear HP
      generalize eqM (x0, x1, x2, x3) (y0, y1, y2, y3) = r at *
      cases r
      · have HN' := Lib.hid (HN.out rfl)
        go_wp2_with fail
        refine (HQ.out _).mono ?_
        rintro e w1 ⟨rfl, hb1⟩
        have HB1 := Lib.hid (bT HBW.out hb1)
        clear hb1
        go_wp2_with fail
        go_roundw
        case rel => exact ⟨k + 1, by omega, by go_num, HN'.out, HB1.out⟩
        case measure => simp [intOf]; omega
      · have HY' := Lib.hid (HY.out rfl)
        go_wp2_with fail
        refine (HQ.out _).mono ?_
        rintro e w1 ⟨rfl, hb1⟩
        have HB1 := Lib.hid (bT HBW.out hb1)
        clear hb1
        go_wp2_with fail
        go_ret
        exact ⟨k, rfl, by rw [HY'.out]; simp, by omega, by omega, HB1.out⟩
    · obtain rfl : k = ms.length := by omega
      have HN := Lib.hid (kn_no HK.out)
      clear hbw
      go_wp2_with fail
      go_ret
      exact ⟨-1, rfl, by rw [HN.out]; rfl, by omega, by omega, HBW.out⟩
theorem containsM_any (ms : List Msh) (x0 x1 x2 x3 : Int) (v : Value) (w : World) (hm : SlM w v ms) :
    Calls Try.prog 52 #[v, .func (.func 53) #[.agg #[.int .i64 x0, .int .i64 x1, .int .i64 x2, .int .i64 x3]] #[]] w (BoolBel (knM ms (x0, x1, x2, x3) ms.length) w) := by
  go_enter Try.func52, Try.ntmps52
  go_wp2_with fail
  refine (idxM_any ms x0 x1 x2 x3 v w hm).mono ?_
  rintro e w1 ⟨r, rfl, hr, h1, h2, hb⟩
  have HR := Lib.hid hr
  clear hr
  go_wp2_with fail
  go_ret
  exact ⟨ret_bool HR.out, hb⟩
theorem kn_take (ms : List Msh) (m : Msh) (k : Nat) : knM (ms.take k) m (ms.take k).length = knM ms m k := by
  unfold knM
  rw [List.take_length]
end Go.Proofs.Ytnijbbligkmefaa

/-
  The contracts of spec.l08Arbor, l08Find, l08Wheel, l08Mesh, l08Equal.
-/
import Derived.Test.YtnijbbligkmefaaWkE
namespace Go.Proofs.Ytnijbbligkmefaa
open Go.RowKit

/-- Works lie in a box. -/
def WkAt (W : World) (b : Nat) (rs : List Arb) (ms : List Msh) : Prop := ∃ u v, BoxU W b u v ∧ SlA W u rs ∧ SlM W v ms
theorem WkAt.keep {W W' : World} {b : Nat} {rs : List Arb} {ms : List Msh} (h : WkAt W b rs ms) (hb : Below W.heap.size W W') : WkAt W' b rs ms := by
  obtain ⟨u, v, h1, h2, h3⟩ := h
  exact ⟨u, v, h1.keep hb, h2.keep hb, h3.keep hb⟩
theorem WkAt.new {w : World} {u v : Value} {rs : List Arb} {ms : List Msh} (T : TypeId) (h1 : SlA w u rs) (h2 : SlM w v ms) : WkAt (w.alloc (.cells #[u, v] T)) w.heap.size rs ms :=
  ⟨u, v, BoxU.new w u v T, h1.keep (bA (bR w) _), h2.keep (bA (bR w) _)⟩
def BoolEq (b : Bool) (w : World) (e : Ending) (w' : World) : Prop := e = .returned (.bool b) ∧ w = w'
set_option maxHeartbeats 2000000 in
theorem l08Arbor_any (g o : Nat) (s : ByteArray) (ts : List Int) (u : Value) (w : World) (h0 : w.cell? ⟨g, o, none⟩ = some (.string s)) (h1 : w.cell? ⟨g, o + 1, none⟩ = some u) (hu : Sl64 w u ts) (hs : s.size ≤ maxLen) (hl : ts.length ≤ 1048576) :
    Calls Try.prog 61 #[.pointer (some ⟨g, o, none⟩)] w (BoolEq (arbB (s, ts)) w) := by
  obtain ⟨ao, cap, rfl, ha⟩ := hu
  have HA := Lib.hid ha
  clear ha
  go_enter Try.func61, Try.ntmps61
  go_wp2_with fail
  go_loop [3] (fun i => ∃ (k : Nat), k ≤ ts.length ∧ i = .int .i64 k ∧ whK ts k) (fun i => ts.length - (intOf i).toNat)
  case atStart => exact ⟨0, by omega, rfl, whK_zero _⟩
  case round =>
    obtain ⟨k, hk, rfl, hok⟩ := hrel
    have HK := Lib.hid hok
    clear hok
    by_cases hlt : k < ts.length
    · obtain ⟨b, rfl, hb, hc⟩ := HA.out (by omega)
      have c1 := hc k hlt
      have HE := Lib.hid (rfl : at0 ts k = at0 ts k)
      have HN := Lib.hid (fun h => arb_wh (a := (s, ts)) (wh_no (ts := ts) hlt h))
      have HS := Lib.hid (whK_succ (ts := ts) (k := k) HK.out)
      clear hc HA
      generalize at0 ts k = t at *
      cases hp : inB t 6 240
      · have HN' := Lib.hid (HN.out hp)
        go_wp2_with fail
        refine (l05Teeth_any _ _).mono ?_
        rw [hp]
        rintro e w1 ⟨rfl, rfl⟩
        go_wp2_with fail
        go_ret
        exact ⟨ret_bool HN'.out.symm, rfl⟩
      · have HS' := Lib.hid (HS.out hp)
        go_wp2_with fail
        refine (l05Teeth_any _ _).mono ?_
        rw [hp]
        rintro e w1 ⟨rfl, rfl⟩
        go_wp2_with fail
        go_round
        case rel => exact ⟨k + 1, by omega, by go_num, HS'.out⟩
        case measure => simp [intOf]; omega
    · obtain rfl : k = ts.length := by omega
      have HW := Lib.hid (whK_all HK.out)
      cases hn : nameB s
      · have HN := Lib.hid (arb_name (a := (s, ts)) hn)
        go_wp2_with fail
        refine (IsNameS_any _ _ hs).mono ?_
        rw [hn]
        rintro e w1 ⟨rfl, rfl⟩
        go_wp2_with fail
        go_ret
        exact ⟨ret_bool HN.out.symm, rfl⟩
      · have HN := Lib.hid (arb_go (a := (s, ts)) HW.out hn)
        go_wp2_with fail
        refine (IsNameS_any _ _ hs).mono ?_
        rw [hn]
        rintro e w1 ⟨rfl, rfl⟩
        go_wp2_with fail
        go_ret
        exact ⟨ret_bool (by rw [HN.out, Bool.eq_iff_iff]; simp; omega), rfl⟩
set_option maxHeartbeats 2000000 in
theorem l08Find_any (b : Nat) (rs : List Arb) (ms : List Msh) (n : ByteArray) (w : World) (h : WkAt w b rs ms) :
    Calls Try.prog 62 #[.pointer (some ⟨b, 0, none⟩), .string n] w fun e w' => e = .returned (.int .i64 (idxN rs n)) ∧ w = w' := by
  obtain ⟨u, v, ⟨x0, x1, _, _, x4⟩, ⟨hmax, ao, cap, rfl, _, ha⟩, _⟩ := h
  have HA := Lib.hid ha
  clear ha
  go_enter Try.func62, Try.ntmps62
  go_wp2_with fail
  go_loop [5] (fun i => ∃ (k : Nat), k ≤ rs.length ∧ i = .int .i64 k ∧ noneK rs n k) (fun i => rs.length - (intOf i).toNat)
  case atStart => exact ⟨0, by omega, rfl, noneK_zero _ _⟩
  case round =>
    obtain ⟨k, hk, rfl, hok⟩ := hrel
    have HK := Lib.hid hok
    clear hok
    by_cases hlt : k < rs.length
    · obtain ⟨g, rfl, hg, hc⟩ := HA.out (by omega)
      obtain ⟨c0, _⟩ := hc k hlt
      have HI := Lib.hid (idx_hit (rs := rs) (n := n) (k := k) hlt HK.out)
      have HS := Lib.hid (noneK_succ (rs := rs) (n := n) (k := k) HK.out)
      clear hc HA
      generalize (arAt rs k).1 = s at *
      cases hp : eqS s n
      · have hp' : (s.toList == n.toList) = false := hp
        have HS' := Lib.hid (HS.out hp)
        go_wp2_with fail
        go_round
        case rel => exact ⟨k + 1, by omega, by go_num, HS'.out⟩
        case measure => simp [intOf]; omega
      · have hp' : (s.toList == n.toList) = true := hp
        have HI' := Lib.hid (HI.out hp)
        go_wp2_with fail
        go_ret
        exact ⟨by rw [HI'.out]; rfl, rfl⟩
    · obtain rfl : k = rs.length := by omega
      have HI := Lib.hid (idx_none HK.out)
      go_wp2_with fail
      go_ret
      exact ⟨by rw [HI.out]; rfl, rfl⟩
theorem whl_no1 {rs : List Arb} {a k : Int} (h : inB a 0 ((rs.length : Int) - 1) = false) : whlB rs a k = false := by simp [whlB, h]
theorem whl_go {rs : List Arb} {n : Nat} {k : Int} (h : n < rs.length) : whlB rs (n : Int) k = inB k 0 (((arAt rs n).2.length : Int) - 1) := by
  have : inB (n : Int) 0 ((rs.length : Int) - 1) = true := by rw [inB_true]; omega
  simp [whlB, this]
set_option maxHeartbeats 2000000 in
theorem l08Wheel_any (b : Nat) (rs : List Arb) (ms : List Msh) (a k : Int) (w : World) (h : WkAt w b rs ms) :
    Calls Try.prog 91 #[.pointer (some ⟨b, 0, none⟩), .int .i64 a, .int .i64 k] w (BoolEq (whlB rs a k) w) := by
  obtain ⟨u, v, ⟨x0, x1, _, _, x4⟩, ⟨hmax, ao, cap, rfl, _, ha⟩, _⟩ := h
  have HA := Lib.hid ha
  clear ha
  cases hp : inB a 0 ((rs.length : Int) - 1)
  · rw [whl_no1 hp]
    go_enter Try.func91, Try.ntmps91
    go_wp2_with fail
    refine (l00In_any _ _ _ _).mono ?_
    rw [hp]
    rintro e w1 ⟨rfl, rfl⟩
    go_wp2_with fail
    go_ret
    exact ⟨rfl, rfl⟩
  · obtain ⟨p1, p2⟩ := inB_true.1 hp
    obtain ⟨n, rfl⟩ := Int.eq_ofNat_of_zero_le p1
    have hlt : n < rs.length := by omega
    obtain ⟨g, rfl, hg, hc⟩ := HA.out (by omega)
    obtain ⟨_, _, hts, u, c1, ⟨bo, bcap, rfl, _⟩⟩ := hc n hlt
    rw [whl_go hlt]
    clear hc HA
    generalize (arAt rs n).2 = ts at *
    go_enter Try.func91, Try.ntmps91
    go_wp2_with fail
    refine (l00In_any _ _ _ _).mono ?_
    rw [hp]
    rintro e w1 ⟨rfl, rfl⟩
    go_wp2_with fail
    refine (l00In_any _ _ _ _).mono ?_
    rintro e w1 ⟨rfl, rfl⟩
    go_wp2_with fail
    go_ret
    exact ⟨rfl, rfl⟩
set_option maxHeartbeats 2000000 in
theorem l08Mesh_any (b : Nat) (rs : List Arb) (ms : List Msh) (x0 x1 x2 x3 : Int) (w : World) (h : WkAt w b rs ms) :
    Calls Try.prog 72 #[.pointer (some ⟨b, 0, none⟩), .agg #[.int .i64 x0, .int .i64 x1, .int .i64 x2, .int .i64 x3]] w (BoolBel (mshB rs (x0, x1, x2, x3)) w) := by
  have H0 := Lib.hid (h.keep (bA (bR w) (.cells #[.int .i64 x0, .int .i64 x1, .int .i64 x2, .int .i64 x3] 52)))
  clear h
  by_cases hne : x0 = x2
  · have HE := Lib.hid (show mshB rs (x0, x1, x2, x3) = false by simp [mshB, hne])
    rw [HE.out]
    have hne' : (x0 != x2) = false := by simp [hne]
    go_enter Try.func72, Try.ntmps72
    go_wp2_with fail
    go_ret
    exact ⟨rfl, bA (bR _) _⟩
  · have hne' : (x0 != x2) = true := by simp [hne]
    cases h1 : whlB rs x0 x1
    · have HE := Lib.hid (show mshB rs (x0, x1, x2, x3) = false by simp [mshB, h1])
      rw [HE.out]
      go_enter Try.func72, Try.ntmps72
      go_wp2_with fail
      refine (l08Wheel_any b rs ms _ _ _ H0.out).mono ?_
      rw [h1]
      rintro e w1 ⟨rfl, rfl⟩
      go_wp2_with fail
      go_ret
      exact ⟨rfl, bA (bR _) _⟩
    · have HE := Lib.hid (show mshB rs (x0, x1, x2, x3) = whlB rs x2 x3 by simp [mshB, h1, hne])
      rw [HE.out]
      go_enter Try.func72, Try.ntmps72
      go_wp2_with fail
      refine (l08Wheel_any b rs ms _ _ _ H0.out).mono ?_
      rw [h1]
      rintro e w1 ⟨rfl, rfl⟩
      go_wp2_with fail
      refine (l08Wheel_any b rs ms _ _ _ H0.out).mono ?_
      rintro e w1 ⟨rfl, rfl⟩
      go_wp2_with fail
      go_ret
      exact ⟨rfl, bA (bR _) _⟩
theorem eqM_iff {x0 x1 x2 x3 y0 y1 y2 y3 : Int} : eqM (x0, x1, x2, x3) (y0, y1, y2, y3) = ((x0 == y0 && x1 == y1 && x2 == y2 && x3 == y3) || (x0 == y2 && x1 == y3 && x2 == y0 && x3 == y1)) := by
  rw [Bool.eq_iff_iff]; simp [eqM, swM, and_assoc]
set_option maxHeartbeats 4000000 in
theorem l08Equal_any (x0 x1 x2 x3 y0 y1 y2 y3 : Int) (w : World) :
    Calls Try.prog 92 #[.agg #[.int .i64 x0, .int .i64 x1, .int .i64 x2, .int .i64 x3], .agg #[.int .i64 y0, .int .i64 y1, .int .i64 y2, .int .i64 y3]] w (BoolBel (eqM (x0, x1, x2, x3) (y0, y1, y2, y3)) w) := by
  go_enter Try.func92, Try.ntmps92
  go_wp2_with fail
  all_goals (go_ret; exact ⟨ret_bool (by rw [eqM_iff, Bool.eq_iff_iff]; simp_all), bA (bA (bR _) _) _⟩)
end Go.Proofs.Ytnijbbligkmefaa

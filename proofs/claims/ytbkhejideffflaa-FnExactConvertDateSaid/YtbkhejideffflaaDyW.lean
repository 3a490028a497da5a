/-
  The walks of the laws over a calendar and days: ValidDate, DayOf, WeekdayOf, DaysBetween.
-/
import Derived.Test.YtbkhejideffflaaCaW
import Derived.Test.YtbkhejideffflaaDyJ
namespace Go.Proofs.Ytbkhejideffflaa
open Go.RowKit

set_option maxRecDepth 100000 in
set_option maxHeartbeats 8000000 in
theorem toDateV_any (a0 a1 a2 : Int) (w : World) :
    Calls Try.prog 14 #[.agg #[.int .i64 a0, .int .i64 a1, .int .i64 a2]] w fun e w' => e = .returned (.agg #[.int .i64 a0, .int .i64 a1, .int .i64 a2]) ∧ Below w.heap.size w w' := by
  go_enter Try.func14, Try.ntmps14
  go_wp2_with fail
  exact bodyPost_ret (v := .agg #[.int .i64 a0, .int .i64 a1, .int .i64 a2]) (by simp [results, Try.results14, go_sem]) rfl ⟨rfl, by first | exact bA (bA (bA (bR _) _) _) _ | exact bA (bA (bR _) _) _⟩
/-- A law's calendar and 1 days in their boxes; the same with the program's calendar. -/
def He1 (W0 : World) (bl dl : Nat) (nm : ByteArray) (wk : Int) (pu pv : Value) (ms : List Mo) (rs : List Ru) (a0 a1 a2 : Int) (w' : World) : Prop :=
  w'.cell? ⟨bl, 0, none⟩ = some (.string nm) ∧ w'.cell? ⟨bl, 1, none⟩ = some (pu) ∧ w'.cell? ⟨bl, 2, none⟩ = some (pv) ∧ w'.cell? ⟨bl, 3, none⟩ = some (.int .i64 wk) ∧ w'.cell? ⟨dl, 0, none⟩ = some (.int .i64 a0) ∧ w'.cell? ⟨dl, 1, none⟩ = some (.int .i64 a1) ∧ w'.cell? ⟨dl, 2, none⟩ = some (.int .i64 a2) ∧ bl < w'.heap.size ∧ dl < w'.heap.size ∧ SlMo w' (pu) ms ∧ SlRu w' (pv) rs ∧ Below W0.heap.size W0 w'
theorem He1.keep {W0 : World} {bl dl : Nat} {nm : ByteArray} {wk : Int} {pu pv : Value} {ms : List Mo} {rs : List Ru} {a0 a1 a2 : Int} {w' w2 : World} (hb : Below w'.heap.size w' w2) (h : He1 W0 bl dl nm wk pu pv ms rs a0 a1 a2 w') : He1 W0 bl dl nm wk pu pv ms rs a0 a1 a2 w2 := by
  obtain ⟨q0, q1, q2, q3, x0, x1, x2, z, t0, m1, m2, be⟩ := h
  exact ⟨(hb.cell (p := ⟨bl, 0, none⟩) z).trans q0, (hb.cell (p := ⟨bl, 1, none⟩) z).trans q1, (hb.cell (p := ⟨bl, 2, none⟩) z).trans q2, (hb.cell (p := ⟨bl, 3, none⟩) z).trans q3, (hb.cell (p := ⟨dl, 0, none⟩) t0).trans x0, (hb.cell (p := ⟨dl, 1, none⟩) t0).trans x1, (hb.cell (p := ⟨dl, 2, none⟩) t0).trans x2, Nat.lt_of_lt_of_le z hb.size, Nat.lt_of_lt_of_le t0 hb.size, m1.keep hb, m2.keep hb, bT be hb⟩
theorem He1.drew {W0 : World} {bl dl : Nat} {nm : ByteArray} {wk : Int} {pu pv : Value} {ms : List Mo} {rs : List Ru} {a0 a1 a2 : Int} {w' : World} (h : He1 W0 bl dl nm wk pu pv ms rs a0 a1 a2 w') : He1 W0 bl dl nm wk pu pv ms rs a0 a1 a2 w'.drew := h.keep (bR _).drew
def Hf1 (W0 : World) (bl dl bx : Nat) (nm : ByteArray) (wk : Int) (pu pv u v : Value) (ms : List Mo) (rs : List Ru) (a0 a1 a2 : Int) (w' : World) : Prop :=
  w'.cell? ⟨bx, 0, none⟩ = some (.string nm) ∧ w'.cell? ⟨bx, 1, none⟩ = some (u) ∧ w'.cell? ⟨bx, 2, none⟩ = some (v) ∧ w'.cell? ⟨bx, 3, none⟩ = some (.int .i64 wk) ∧ bx < w'.heap.size ∧ SlMo w' (u) ms ∧ SlRu w' (v) rs ∧ w'.cell? ⟨bl, 0, none⟩ = some (.string nm) ∧ w'.cell? ⟨bl, 1, none⟩ = some (pu) ∧ w'.cell? ⟨bl, 2, none⟩ = some (pv) ∧ w'.cell? ⟨bl, 3, none⟩ = some (.int .i64 wk) ∧ w'.cell? ⟨dl, 0, none⟩ = some (.int .i64 a0) ∧ w'.cell? ⟨dl, 1, none⟩ = some (.int .i64 a1) ∧ w'.cell? ⟨dl, 2, none⟩ = some (.int .i64 a2) ∧ bl < w'.heap.size ∧ dl < w'.heap.size ∧ SlMo w' (pu) ms ∧ SlRu w' (pv) rs ∧ Below W0.heap.size W0 w'
theorem Hf1.keep {W0 : World} {bl dl bx : Nat} {nm : ByteArray} {wk : Int} {pu pv u v : Value} {ms : List Mo} {rs : List Ru} {a0 a1 a2 : Int} {w' w2 : World} (hb : Below w'.heap.size w' w2) (h : Hf1 W0 bl dl bx nm wk pu pv u v ms rs a0 a1 a2 w') : Hf1 W0 bl dl bx nm wk pu pv u v ms rs a0 a1 a2 w2 := by
  obtain ⟨r0, r1, r2, r3, s, n1, n2, he⟩ := h
  exact ⟨(hb.cell (p := ⟨bx, 0, none⟩) s).trans r0, (hb.cell (p := ⟨bx, 1, none⟩) s).trans r1, (hb.cell (p := ⟨bx, 2, none⟩) s).trans r2, (hb.cell (p := ⟨bx, 3, none⟩) s).trans r3, Nat.lt_of_lt_of_le s hb.size, n1.keep hb, n2.keep hb, He1.keep hb he⟩
theorem Hf1.drew {W0 : World} {bl dl bx : Nat} {nm : ByteArray} {wk : Int} {pu pv u v : Value} {ms : List Mo} {rs : List Ru} {a0 a1 a2 : Int} {w' : World} (h : Hf1 W0 bl dl bx nm wk pu pv u v ms rs a0 a1 a2 w') : Hf1 W0 bl dl bx nm wk pu pv u v ms rs a0 a1 a2 w'.drew := h.keep (bR _).drew
/-- A law's calendar and 2 days in their boxes; the same with the program's calendar. -/
def He2 (W0 : World) (bl dl dm : Nat) (nm : ByteArray) (wk : Int) (pu pv : Value) (ms : List Mo) (rs : List Ru) (a0 a1 a2 b0 b1 b2 : Int) (w' : World) : Prop :=
  w'.cell? ⟨bl, 0, none⟩ = some (.string nm) ∧ w'.cell? ⟨bl, 1, none⟩ = some (pu) ∧ w'.cell? ⟨bl, 2, none⟩ = some (pv) ∧ w'.cell? ⟨bl, 3, none⟩ = some (.int .i64 wk) ∧ w'.cell? ⟨dl, 0, none⟩ = some (.int .i64 a0) ∧ w'.cell? ⟨dl, 1, none⟩ = some (.int .i64 a1) ∧ w'.cell? ⟨dl, 2, none⟩ = some (.int .i64 a2) ∧ w'.cell? ⟨dm, 0, none⟩ = some (.int .i64 b0) ∧ w'.cell? ⟨dm, 1, none⟩ = some (.int .i64 b1) ∧ w'.cell? ⟨dm, 2, none⟩ = some (.int .i64 b2) ∧ bl < w'.heap.size ∧ dl < w'.heap.size ∧ dm < w'.heap.size ∧ SlMo w' (pu) ms ∧ SlRu w' (pv) rs ∧ Below W0.heap.size W0 w'
theorem He2.keep {W0 : World} {bl dl dm : Nat} {nm : ByteArray} {wk : Int} {pu pv : Value} {ms : List Mo} {rs : List Ru} {a0 a1 a2 b0 b1 b2 : Int} {w' w2 : World} (hb : Below w'.heap.size w' w2) (h : He2 W0 bl dl dm nm wk pu pv ms rs a0 a1 a2 b0 b1 b2 w') : He2 W0 bl dl dm nm wk pu pv ms rs a0 a1 a2 b0 b1 b2 w2 := by
  obtain ⟨q0, q1, q2, q3, x0, x1, x2, y0, y1, y2, z, t0, t1, m1, m2, be⟩ := h
  exact ⟨(hb.cell (p := ⟨bl, 0, none⟩) z).trans q0, (hb.cell (p := ⟨bl, 1, none⟩) z).trans q1, (hb.cell (p := ⟨bl, 2, none⟩) z).trans q2, (hb.cell (p := ⟨bl, 3, none⟩) z).trans q3, (hb.cell (p := ⟨dl, 0, none⟩) t0).trans x0, (hb.cell (p := ⟨dl, 1, none⟩) t0).trans x1, (hb.cell (p := ⟨dl, 2, none⟩) t0).trans x2, (hb.cell (p := ⟨dm, 0, none⟩) t1).trans y0, (hb.cell (p := ⟨dm, 1, none⟩) t1).trans y1, (hb.cell (p := ⟨dm, 2, none⟩) t1).trans y2, Nat.lt_of_lt_of_le z hb.size, Nat.lt_of_lt_of_le t0 hb.size, Nat.lt_of_lt_of_le t1 hb.size, m1.keep hb, m2.keep hb, bT be hb⟩
theorem He2.drew {W0 : World} {bl dl dm : Nat} {nm : ByteArray} {wk : Int} {pu pv : Value} {ms : List Mo} {rs : List Ru} {a0 a1 a2 b0 b1 b2 : Int} {w' : World} (h : He2 W0 bl dl dm nm wk pu pv ms rs a0 a1 a2 b0 b1 b2 w') : He2 W0 bl dl dm nm wk pu pv ms rs a0 a1 a2 b0 b1 b2 w'.drew := h.keep (bR _).drew
def Hf2 (W0 : World) (bl dl dm bx : Nat) (nm : ByteArray) (wk : Int) (pu pv u v : Value) (ms : List Mo) (rs : List Ru) (a0 a1 a2 b0 b1 b2 : Int) (w' : World) : Prop :=
  w'.cell? ⟨bx, 0, none⟩ = some (.string nm) ∧ w'.cell? ⟨bx, 1, none⟩ = some (u) ∧ w'.cell? ⟨bx, 2, none⟩ = some (v) ∧ w'.cell? ⟨bx, 3, none⟩ = some (.int .i64 wk) ∧ bx < w'.heap.size ∧ SlMo w' (u) ms ∧ SlRu w' (v) rs ∧ w'.cell? ⟨bl, 0, none⟩ = some (.string nm) ∧ w'.cell? ⟨bl, 1, none⟩ = some (pu) ∧ w'.cell? ⟨bl, 2, none⟩ = some (pv) ∧ w'.cell? ⟨bl, 3, none⟩ = some (.int .i64 wk) ∧ w'.cell? ⟨dl, 0, none⟩ = some (.int .i64 a0) ∧ w'.cell? ⟨dl, 1, none⟩ = some (.int .i64 a1) ∧ w'.cell? ⟨dl, 2, none⟩ = some (.int .i64 a2) ∧ w'.cell? ⟨dm, 0, none⟩ = some (.int .i64 b0) ∧ w'.cell? ⟨dm, 1, none⟩ = some (.int .i64 b1) ∧ w'.cell? ⟨dm, 2, none⟩ = some (.int .i64 b2) ∧ bl < w'.heap.size ∧ dl < w'.heap.size ∧ dm < w'.heap.size ∧ SlMo w' (pu) ms ∧ SlRu w' (pv) rs ∧ Below W0.heap.size W0 w'
theorem Hf2.keep {W0 : World} {bl dl dm bx : Nat} {nm : ByteArray} {wk : Int} {pu pv u v : Value} {ms : List Mo} {rs : List Ru} {a0 a1 a2 b0 b1 b2 : Int} {w' w2 : World} (hb : Below w'.heap.size w' w2) (h : Hf2 W0 bl dl dm bx nm wk pu pv u v ms rs a0 a1 a2 b0 b1 b2 w') : Hf2 W0 bl dl dm bx nm wk pu pv u v ms rs a0 a1 a2 b0 b1 b2 w2 := by
  obtain ⟨r0, r1, r2, r3, s, n1, n2, he⟩ := h
  exact ⟨(hb.cell (p := ⟨bx, 0, none⟩) s).trans r0, (hb.cell (p := ⟨bx, 1, none⟩) s).trans r1, (hb.cell (p := ⟨bx, 2, none⟩) s).trans r2, (hb.cell (p := ⟨bx, 3, none⟩) s).trans r3, Nat.lt_of_lt_of_le s hb.size, n1.keep hb, n2.keep hb, He2.keep hb he⟩
theorem Hf2.drew {W0 : World} {bl dl dm bx : Nat} {nm : ByteArray} {wk : Int} {pu pv u v : Value} {ms : List Mo} {rs : List Ru} {a0 a1 a2 b0 b1 b2 : Int} {w' : World} (h : Hf2 W0 bl dl dm bx nm wk pu pv u v ms rs a0 a1 a2 b0 b1 b2 w') : Hf2 W0 bl dl dm bx nm wk pu pv u v ms rs a0 a1 a2 b0 b1 b2 w'.drew := h.keep (bR _).drew
set_option maxRecDepth 100000 in
set_option maxHeartbeats 8000000 in
theorem FnExactValidDate_walk (x : Value) (c : Cal) (a0 a1 a2 : Int)  (w : World) (h : IsC w x c) (hb1 : -9223372036854775808 ≤ a1 ∧ a1 ≤ 9223372036854775807) :
    Calls Try.prog 3 #[x, .agg #[.int .i64 a0, .int .i64 a1, .int .i64 a2]] w fun e w' => e = .returned (.bool true) ∧ Below w.heap.size w w' := by
  obtain ⟨pu, pv, rfl, hs, hM, hR⟩ := h
  have CS := Lib.hid (fun x W (h : IsC W x c) => ValidDateS_any c a0 a1 a2 x W h hb1)
  have CI := Lib.hid (fun x W (h : IsC W x c) => ValidDateI_any c a0 a1 a2 x W h hb1)
  have hne : (vdE c a0 a1 a2 != vdE c a0 a1 a2) = false := by simp
  generalize vdE c a0 a1 a2 = q at *
  obtain ⟨nm, ms, rs, wk⟩ := c
  simp only at hs hM hR
  obtain ⟨p1, p2, rfl, _⟩ := hM.open
  obtain ⟨p3, p4, rfl, _⟩ := hR.open
  have HSZ := Lib.hid hs
  have H0 := Lib.hid (show He1 w w.heap.size (w.heap.size + 1) nm wk (.slice p1 ms.length p2) (.slice p3 rs.length p4) ms rs a0 a1 a2 ((w.alloc (.cells #[.string nm, .slice p1 ms.length p2, .slice p3 rs.length p4, .int .i64 wk] 25)).alloc (.cells #[.int .i64 a0, .int .i64 a1, .int .i64 a2] 27)) from by
    have hL : Below w.heap.size w ((w.alloc (.cells #[.string nm, .slice p1 ms.length p2, .slice p3 rs.length p4, .int .i64 wk] 25)).alloc (.cells #[.int .i64 a0, .int .i64 a1, .int .i64 a2] 27)) := bA (bA (bR _) _) _
    obtain ⟨c0, c1, c2, c3, c4⟩ := ((BoxL.new w [.string nm, .slice p1 ms.length p2, .slice p3 rs.length p4, .int .i64 wk] 25).alloc (.cells #[.int .i64 a0, .int .i64 a1, .int .i64 a2] 27)).c4q
    obtain ⟨d0, d1, d2, d3⟩ := (BoxL.at_ (w := w.alloc (.cells #[.string nm, .slice p1 ms.length p2, .slice p3 rs.length p4, .int .i64 wk] 25)) (b := w.heap.size + 1) (vs := [.int .i64 a0, .int .i64 a1, .int .i64 a2]) (T := 27) (by simp)).c3
    exact ⟨c0, c1, c2, c3, d0, d1, d2, c4, d3, hM.keep hL, hR.keep hL, hL⟩)
  clear hM hR hs
  obtain ⟨c0, c1, c2, c3, d0, d1, d2, c4, d3, _, _, _⟩ := H0.out
  go_enter Try.func3, Try.ntmps3
  go_wp2_with fail
  generalize (w.alloc (.cells #[.string nm, .slice p1 ms.length p2, .slice p3 rs.length p4, .int .i64 wk] 25)).alloc (.cells #[.int .i64 a0, .int .i64 a1, .int .i64 a2] 27) = W0 at *
  generalize hbl : w.heap.size = bl at H0 c0 c1 c2 c3 d0 d1 d2 c4 d3 ⊢
  have HBL := Lib.hid hbl
  clear hbl
  refine (szCalendar_any _ ⟨nm, ms, rs, wk⟩ 1048576 _ ⟨_, _, rfl, HSZ.out, H0.out.2.2.2.2.2.2.2.2.2.1, H0.out.2.2.2.2.2.2.2.2.2.2.1⟩ (by omega) (by omega)).mono ?_
  rintro e w1 ⟨r, rfl, r1, r2, r3, hb⟩
  have H1 := Lib.hid (H0.out.keep hb)
  have R := Lib.hid r3
  clear hb r3 c0 c1 c2 c3 d0 d1 d2 c4 d3 H0
  obtain ⟨c0, c1, c2, c3, d0, d1, d2, c4, d3, _, _, _⟩ := H1.out
  by_cases hr : r < 0
  · go_wp2_with fail
    go_ret
    exact ⟨rfl, H1.out.2.2.2.2.2.2.2.2.2.2.2⟩
  · have HL := Lib.hid (R.out (by omega))
    go_wp2_with fail
    clear c0 c1 c2 c3 d0 d1 d2 c4 d3
    go_region_held3 (fun w' => w'.cell? ⟨bl, 0, none⟩ = some (.string nm) ∧ w'.cell? ⟨bl, 1, none⟩ = some (.slice p1 ms.length p2) ∧ w'.cell? ⟨bl, 2, none⟩ = some (.slice p3 rs.length p4) ∧ w'.cell? ⟨bl, 3, none⟩ = some (.int .i64 wk) ∧ w'.cell? ⟨bl + 1, 0, none⟩ = some (.int .i64 a0) ∧ w'.cell? ⟨bl + 1, 1, none⟩ = some (.int .i64 a1) ∧ w'.cell? ⟨bl + 1, 2, none⟩ = some (.int .i64 a2) ∧ bl < w'.heap.size ∧ bl + 1 < w'.heap.size ∧ SlMo w' (.slice p1 ms.length p2) ms ∧ SlRu w' (.slice p3 rs.length p4) rs ∧ Below w.heap.size w w') (first | exact H1.out.drew | assumption | exact He1.keep hb (by first | assumption | exact H1.out.drew))
      (first
        | (go_at_call 13; have hS : He1 w bl (bl + 1) nm wk (.slice p1 ms.length p2) (.slice p3 rs.length p4) ms rs a0 a1 a2 _ := (by first | assumption | exact H1.out.drew); refine (toCalendar_any _ ⟨nm, ms, rs, wk⟩ _ ⟨_, _, rfl, HSZ.out, hS.2.2.2.2.2.2.2.2.2.1, hS.2.2.2.2.2.2.2.2.2.2.1⟩ HL.out).mono ?_; clear hS; rintro e w' ⟨x3, rfl, hA, hb⟩; have hIs := hA.is; clear hA)
        | (go_at_call 14; refine (toDateV_any _ _ _ _).mono ?_; rintro e w' ⟨rfl, hb⟩; (try have hIs := IsC.keep ‹IsC _ _ _› hb))
        | (go_at_call 12; refine (CS.out _ _ (by assumption)).mono ?_; rintro e w' ⟨rfl, hb⟩))
    have H2 := Lib.hid (show He1 w bl (bl + 1) nm wk (.slice p1 ms.length p2) (.slice p3 rs.length p4) ms rs a0 a1 a2 w' by assumption)
    clear H1
    obtain ⟨c0, c1, c2, c3, d0, d1, d2, c4, d3, _, _, _⟩ := H2.out
    go_wp2_with fail
    refine (toCalendar_any _ ⟨nm, ms, rs, wk⟩ _ ⟨_, _, rfl, HSZ.out, H2.out.2.2.2.2.2.2.2.2.2.1, H2.out.2.2.2.2.2.2.2.2.2.2.1⟩ HL.out).mono ?_
    rintro e w4 ⟨x2, rfl, hO, hb⟩
    obtain ⟨u, v, rfl, _, hM2, hR2⟩ := hO.is
    simp only at hM2 hR2
    obtain ⟨u1, u2, rfl, _⟩ := hM2.open
    obtain ⟨u3, u4, rfl, _⟩ := hR2.open
    have H4 := Lib.hid (show Hf1 w bl (bl + 1) w4.heap.size nm wk (.slice p1 ms.length p2) (.slice p3 rs.length p4) (.slice u1 ms.length u2) (.slice u3 rs.length u4) ms rs a0 a1 a2 (w4.alloc (.cells #[.string nm, .slice u1 ms.length u2, .slice u3 rs.length u4, .int .i64 wk] 33)) from by
      have hb' : Below w4.heap.size w4 (w4.alloc (.cells #[.string nm, .slice u1 ms.length u2, .slice u3 rs.length u4, .int .i64 wk] 33)) := bA (bR _) _
      obtain ⟨d0, d1, d2, d3, d4⟩ := (BoxL.new w4 [.string nm, .slice u1 ms.length u2, .slice u3 rs.length u4, .int .i64 wk] 33).c4q
      exact ⟨d0, d1, d2, d3, d4, hM2.keep hb', hR2.keep hb', (H2.out.keep hb).keep hb'⟩)
    clear c0 c1 c2 c3 d0 d1 d2 c4 d3 hO hM2 hR2 hb H2
    obtain ⟨b0, b1, b2, b3, b4, _, _, c0, c1, c2, c3, d0, d1, d2, c4, d3, _, _, _⟩ := H4.out
    go_wp2_with fail
    generalize w4.alloc (.cells #[.string nm, .slice u1 ms.length u2, .slice u3 rs.length u4, .int .i64 wk] 33) = W4 at *
    generalize w4.heap.size = bx at *
    clear c0 c1 c2 c3 d0 d1 d2 c4 d3 b0 b1 b2 b3 b4
    go_region_held3 (fun w' => w'.cell? ⟨bx, 0, none⟩ = some (.string nm) ∧ w'.cell? ⟨bx, 1, none⟩ = some (.slice u1 ms.length u2) ∧ w'.cell? ⟨bx, 2, none⟩ = some (.slice u3 rs.length u4) ∧ w'.cell? ⟨bx, 3, none⟩ = some (.int .i64 wk) ∧ bx < w'.heap.size ∧ SlMo w' (.slice u1 ms.length u2) ms ∧ SlRu w' (.slice u3 rs.length u4) rs ∧ w'.cell? ⟨bl, 0, none⟩ = some (.string nm) ∧ w'.cell? ⟨bl, 1, none⟩ = some (.slice p1 ms.length p2) ∧ w'.cell? ⟨bl, 2, none⟩ = some (.slice p3 rs.length p4) ∧ w'.cell? ⟨bl, 3, none⟩ = some (.int .i64 wk) ∧ w'.cell? ⟨bl + 1, 0, none⟩ = some (.int .i64 a0) ∧ w'.cell? ⟨bl + 1, 1, none⟩ = some (.int .i64 a1) ∧ w'.cell? ⟨bl + 1, 2, none⟩ = some (.int .i64 a2) ∧ bl < w'.heap.size ∧ bl + 1 < w'.heap.size ∧ SlMo w' (.slice p1 ms.length p2) ms ∧ SlRu w' (.slice p3 rs.length p4) rs ∧ Below w.heap.size w w') (first | exact H4.out.drew | assumption | exact Hf1.keep hb (by first | assumption | exact H4.out.drew))
      (first
        | (go_at_call 14; refine (toDateV_any _ _ _ _).mono ?_; rintro e w' ⟨rfl, hb⟩)
        | (go_at_call 15; have hS : Hf1 w bl (bl + 1) bx nm wk (.slice p1 ms.length p2) (.slice p3 rs.length p4) (.slice u1 ms.length u2) (.slice u3 rs.length u4) ms rs a0 a1 a2 _ := (by first | assumption | exact H4.out.drew); refine (CI.out _ _ ⟨_, _, rfl, HSZ.out, hS.2.2.2.2.2.1, hS.2.2.2.2.2.2.1⟩).mono ?_; clear hS; rintro e w' ⟨rfl, hb⟩))
    have H5 := Lib.hid (show Hf1 w bl (bl + 1) bx nm wk (.slice p1 ms.length p2) (.slice p3 rs.length p4) (.slice u1 ms.length u2) (.slice u3 rs.length u4) ms rs a0 a1 a2 w' by assumption)
    clear H4 CS CI
    obtain ⟨b0, b1, b2, b3, b4, _, _, c0, c1, c2, c3, d0, d1, d2, c4, d3, _, _, _⟩ := H5.out
    go_wp2_with fail
    have HS : FinC w bl bx nm wk (.slice p1 ms.length p2) (.slice p3 rs.length p4) (.slice u1 ms.length u2) (.slice u3 rs.length u4) ms rs w' := ⟨c0, c1, c2, c3, b0, b1, b2, b3, c4, b4, H5.out.2.2.2.2.2.2.2.2.2.2.2.2.2.2.2.2.1, H5.out.2.2.2.2.2.2.2.2.2.2.2.2.2.2.2.2.2.1, H5.out.2.2.2.2.2.1, H5.out.2.2.2.2.2.2.1, H5.out.2.2.2.2.2.2.2.2.2.2.2.2.2.2.2.2.2.2⟩
    clear c0 c1 c2 c3 d0 d1 d2 c4 d3 b0 b1 b2 b3 b4 H5
    generalize w' = w5 at *
    go_region_held3 (fun w' => w'.cell? ⟨bl, 0, none⟩ = some (.string nm) ∧ w'.cell? ⟨bl, 1, none⟩ = some (.slice p1 ms.length p2) ∧ w'.cell? ⟨bl, 2, none⟩ = some (.slice p3 rs.length p4) ∧ w'.cell? ⟨bl, 3, none⟩ = some (.int .i64 wk) ∧ w'.cell? ⟨bx, 0, none⟩ = some (.string nm) ∧ w'.cell? ⟨bx, 1, none⟩ = some (.slice u1 ms.length u2) ∧ w'.cell? ⟨bx, 2, none⟩ = some (.slice u3 rs.length u4) ∧ w'.cell? ⟨bx, 3, none⟩ = some (.int .i64 wk) ∧ bl < w'.heap.size ∧ bx < w'.heap.size ∧ SlMo w' (.slice p1 ms.length p2) ms ∧ SlRu w' (.slice p3 rs.length p4) rs ∧ SlMo w' (.slice u1 ms.length u2) ms ∧ SlRu w' (.slice u3 rs.length u4) rs ∧ Below w.heap.size w w') (first | exact HS.drew | assumption | exact FinC.keep hb (by first | assumption | exact HS.drew))
      (first
        | (go_at_call 13; have hS : FinC w bl bx nm wk (.slice p1 ms.length p2) (.slice p3 rs.length p4) (.slice u1 ms.length u2) (.slice u3 rs.length u4) ms rs _ := (by first | assumption | exact HS.drew); refine (toCalendar_any _ ⟨nm, ms, rs, wk⟩ _ ⟨_, _, rfl, HSZ.out, hS.2.2.2.2.2.2.2.2.2.2.1, hS.2.2.2.2.2.2.2.2.2.2.2.1⟩ HL.out).mono ?_; clear hS; rintro e w' ⟨x3, rfl, hA, hb⟩; have hIs := hA.is; clear hA)
        | (go_at_call 16; have hS : FinC w bl bx nm wk (.slice p1 ms.length p2) (.slice p3 rs.length p4) (.slice u1 ms.length u2) (.slice u3 rs.length u4) ms rs _ := (by first | assumption | exact HS.drew); refine (eqCalendar_same ⟨nm, ms, rs, wk⟩ _ _ _ ⟨_, _, rfl, HSZ.out, hS.2.2.2.2.2.2.2.2.2.2.2.2.1, hS.2.2.2.2.2.2.2.2.2.2.2.2.2.1⟩ (by assumption) HL.out).mono ?_; clear hS; rintro e w' ⟨rfl, hb⟩))
    have HT' : FinC w bl bx nm wk (.slice p1 ms.length p2) (.slice p3 rs.length p4) (.slice u1 ms.length u2) (.slice u3 rs.length u4) ms rs w' := by assumption
    have HU := Lib.hid HT'.2.2.2.2.2.2.2.2.2.2.2.2.2.2
    clear HT' HS
    go_wp2_with fail
    go_ret
    exact ⟨rfl, HU.out⟩
set_option maxRecDepth 100000 in
set_option maxHeartbeats 8000000 in
theorem FnExactDayOf_walk (x : Value) (c : Cal) (a0 a1 a2 : Int)  (w : World) (h : IsC w x c) (hb1 : -9223372036854775808 ≤ a1 ∧ a1 ≤ 9223372036854775807) :
    Calls Try.prog 4 #[x, .agg #[.int .i64 a0, .int .i64 a1, .int .i64 a2]] w fun e w' => e = .returned (.bool true) ∧ Below w.heap.size w w' := by
  obtain ⟨pu, pv, rfl, hs, hM, hR⟩ := h
  have CS := Lib.hid (fun x W (h : IsC W x c) => DayOfS_any c a0 a1 a2 x W h hb1)
  have CI := Lib.hid (fun x W (h : IsC W x c) => DayOfI_any c a0 a1 a2 x W h hb1)
  have hne : ((doE c a0 a1 a2).1 != (doE c a0 a1 a2).1) = false := by simp
  have hne2 : ((doE c a0 a1 a2).2 != (doE c a0 a1 a2).2) = false := by simp
  generalize (doE c a0 a1 a2).1 = q at *
  generalize (doE c a0 a1 a2).2 = q2 at *
  obtain ⟨nm, ms, rs, wk⟩ := c
  simp only at hs hM hR
  obtain ⟨p1, p2, rfl, _⟩ := hM.open
  obtain ⟨p3, p4, rfl, _⟩ := hR.open
  have HSZ := Lib.hid hs
  have H0 := Lib.hid (show He1 w w.heap.size (w.heap.size + 1) nm wk (.slice p1 ms.length p2) (.slice p3 rs.length p4) ms rs a0 a1 a2 ((w.alloc (.cells #[.string nm, .slice p1 ms.length p2, .slice p3 rs.length p4, .int .i64 wk] 25)).alloc (.cells #[.int .i64 a0, .int .i64 a1, .int .i64 a2] 27)) from by
    have hL : Below w.heap.size w ((w.alloc (.cells #[.string nm, .slice p1 ms.length p2, .slice p3 rs.length p4, .int .i64 wk] 25)).alloc (.cells #[.int .i64 a0, .int .i64 a1, .int .i64 a2] 27)) := bA (bA (bR _) _) _
    obtain ⟨c0, c1, c2, c3, c4⟩ := ((BoxL.new w [.string nm, .slice p1 ms.length p2, .slice p3 rs.length p4, .int .i64 wk] 25).alloc (.cells #[.int .i64 a0, .int .i64 a1, .int .i64 a2] 27)).c4q
    obtain ⟨d0, d1, d2, d3⟩ := (BoxL.at_ (w := w.alloc (.cells #[.string nm, .slice p1 ms.length p2, .slice p3 rs.length p4, .int .i64 wk] 25)) (b := w.heap.size + 1) (vs := [.int .i64 a0, .int .i64 a1, .int .i64 a2]) (T := 27) (by simp)).c3
    exact ⟨c0, c1, c2, c3, d0, d1, d2, c4, d3, hM.keep hL, hR.keep hL, hL⟩)
  clear hM hR hs
  obtain ⟨c0, c1, c2, c3, d0, d1, d2, c4, d3, _, _, _⟩ := H0.out
  go_enter Try.func4, Try.ntmps4
  go_wp2_with fail
  generalize (w.alloc (.cells #[.string nm, .slice p1 ms.length p2, .slice p3 rs.length p4, .int .i64 wk] 25)).alloc (.cells #[.int .i64 a0, .int .i64 a1, .int .i64 a2] 27) = W0 at *
  generalize hbl : w.heap.size = bl at H0 c0 c1 c2 c3 d0 d1 d2 c4 d3 ⊢
  have HBL := Lib.hid hbl
  clear hbl
  refine (szCalendar_any _ ⟨nm, ms, rs, wk⟩ 1048576 _ ⟨_, _, rfl, HSZ.out, H0.out.2.2.2.2.2.2.2.2.2.1, H0.out.2.2.2.2.2.2.2.2.2.2.1⟩ (by omega) (by omega)).mono ?_
  rintro e w1 ⟨r, rfl, r1, r2, r3, hb⟩
  have H1 := Lib.hid (H0.out.keep hb)
  have R := Lib.hid r3
  clear hb r3 c0 c1 c2 c3 d0 d1 d2 c4 d3 H0
  obtain ⟨c0, c1, c2, c3, d0, d1, d2, c4, d3, _, _, _⟩ := H1.out
  by_cases hr : r < 0
  · go_wp2_with fail
    go_ret
    exact ⟨rfl, H1.out.2.2.2.2.2.2.2.2.2.2.2⟩
  · have HL := Lib.hid (R.out (by omega))
    go_wp2_with fail
    clear c0 c1 c2 c3 d0 d1 d2 c4 d3
    go_region_held3 (fun w' => w'.cell? ⟨bl, 0, none⟩ = some (.string nm) ∧ w'.cell? ⟨bl, 1, none⟩ = some (.slice p1 ms.length p2) ∧ w'.cell? ⟨bl, 2, none⟩ = some (.slice p3 rs.length p4) ∧ w'.cell? ⟨bl, 3, none⟩ = some (.int .i64 wk) ∧ w'.cell? ⟨bl + 1, 0, none⟩ = some (.int .i64 a0) ∧ w'.cell? ⟨bl + 1, 1, none⟩ = some (.int .i64 a1) ∧ w'.cell? ⟨bl + 1, 2, none⟩ = some (.int .i64 a2) ∧ bl < w'.heap.size ∧ bl + 1 < w'.heap.size ∧ SlMo w' (.slice p1 ms.length p2) ms ∧ SlRu w' (.slice p3 rs.length p4) rs ∧ Below w.heap.size w w') (first | exact H1.out.drew | assumption | exact He1.keep hb (by first | assumption | exact H1.out.drew))
      (first
        | (go_at_call 13; have hS : He1 w bl (bl + 1) nm wk (.slice p1 ms.length p2) (.slice p3 rs.length p4) ms rs a0 a1 a2 _ := (by first | assumption | exact H1.out.drew); refine (toCalendar_any _ ⟨nm, ms, rs, wk⟩ _ ⟨_, _, rfl, HSZ.out, hS.2.2.2.2.2.2.2.2.2.1, hS.2.2.2.2.2.2.2.2.2.2.1⟩ HL.out).mono ?_; clear hS; rintro e w' ⟨x3, rfl, hA, hb⟩; have hIs := hA.is; clear hA)
        | (go_at_call 14; refine (toDateV_any _ _ _ _).mono ?_; rintro e w' ⟨rfl, hb⟩; (try have hIs := IsC.keep ‹IsC _ _ _› hb))
        | (go_at_call 17; refine (CS.out _ _ (by assumption)).mono ?_; rintro e w' ⟨rfl, hb⟩))
    have H2 := Lib.hid (show He1 w bl (bl + 1) nm wk (.slice p1 ms.length p2) (.slice p3 rs.length p4) ms rs a0 a1 a2 w' by assumption)
    clear H1
    obtain ⟨c0, c1, c2, c3, d0, d1, d2, c4, d3, _, _, _⟩ := H2.out
    go_wp2_with fail
    refine (toCalendar_any _ ⟨nm, ms, rs, wk⟩ _ ⟨_, _, rfl, HSZ.out, H2.out.2.2.2.2.2.2.2.2.2.1, H2.out.2.2.2.2.2.2.2.2.2.2.1⟩ HL.out).mono ?_
    rintro e w4 ⟨x2, rfl, hO, hb⟩
    obtain ⟨u, v, rfl, _, hM2, hR2⟩ := hO.is
    simp only at hM2 hR2
    obtain ⟨u1, u2, rfl, _⟩ := hM2.open
    obtain ⟨u3, u4, rfl, _⟩ := hR2.open
    have H4 := Lib.hid (show Hf1 w bl (bl + 1) w4.heap.size nm wk (.slice p1 ms.length p2) (.slice p3 rs.length p4) (.slice u1 ms.length u2) (.slice u3 rs.length u4) ms rs a0 a1 a2 (w4.alloc (.cells #[.string nm, .slice u1 ms.length u2, .slice u3 rs.length u4, .int .i64 wk] 33)) from by
      have hb' : Below w4.heap.size w4 (w4.alloc (.cells #[.string nm, .slice u1 ms.length u2, .slice u3 rs.length u4, .int .i64 wk] 33)) := bA (bR _) _
      obtain ⟨d0, d1, d2, d3, d4⟩ := (BoxL.new w4 [.string nm, .slice u1 ms.length u2, .slice u3 rs.length u4, .int .i64 wk] 33).c4q
      exact ⟨d0, d1, d2, d3, d4, hM2.keep hb', hR2.keep hb', (H2.out.keep hb).keep hb'⟩)
    clear c0 c1 c2 c3 d0 d1 d2 c4 d3 hO hM2 hR2 hb H2
    obtain ⟨b0, b1, b2, b3, b4, _, _, c0, c1, c2, c3, d0, d1, d2, c4, d3, _, _, _⟩ := H4.out
    go_wp2_with fail
    generalize w4.alloc (.cells #[.string nm, .slice u1 ms.length u2, .slice u3 rs.length u4, .int .i64 wk] 33) = W4 at *
    generalize w4.heap.size = bx at *
    clear c0 c1 c2 c3 d0 d1 d2 c4 d3 b0 b1 b2 b3 b4
    go_region_held3 (fun w' => w'.cell? ⟨bx, 0, none⟩ = some (.string nm) ∧ w'.cell? ⟨bx, 1, none⟩ = some (.slice u1 ms.length u2) ∧ w'.cell? ⟨bx, 2, none⟩ = some (.slice u3 rs.length u4) ∧ w'.cell? ⟨bx, 3, none⟩ = some (.int .i64 wk) ∧ bx < w'.heap.size ∧ SlMo w' (.slice u1 ms.length u2) ms ∧ SlRu w' (.slice u3 rs.length u4) rs ∧ w'.cell? ⟨bl, 0, none⟩ = some (.string nm) ∧ w'.cell? ⟨bl, 1, none⟩ = some (.slice p1 ms.length p2) ∧ w'.cell? ⟨bl, 2, none⟩ = some (.slice p3 rs.length p4) ∧ w'.cell? ⟨bl, 3, none⟩ = some (.int .i64 wk) ∧ w'.cell? ⟨bl + 1, 0, none⟩ = some (.int .i64 a0) ∧ w'.cell? ⟨bl + 1, 1, none⟩ = some (.int .i64 a1) ∧ w'.cell? ⟨bl + 1, 2, none⟩ = some (.int .i64 a2) ∧ bl < w'.heap.size ∧ bl + 1 < w'.heap.size ∧ SlMo w' (.slice p1 ms.length p2) ms ∧ SlRu w' (.slice p3 rs.length p4) rs ∧ Below w.heap.size w w') (first | exact H4.out.drew | assumption | exact Hf1.keep hb (by first | assumption | exact H4.out.drew))
      (first
        | (go_at_call 14; refine (toDateV_any _ _ _ _).mono ?_; rintro e w' ⟨rfl, hb⟩)
        | (go_at_call 18; have hS : Hf1 w bl (bl + 1) bx nm wk (.slice p1 ms.length p2) (.slice p3 rs.length p4) (.slice u1 ms.length u2) (.slice u3 rs.length u4) ms rs a0 a1 a2 _ := (by first | assumption | exact H4.out.drew); refine (CI.out _ _ ⟨_, _, rfl, HSZ.out, hS.2.2.2.2.2.1, hS.2.2.2.2.2.2.1⟩).mono ?_; clear hS; rintro e w' ⟨rfl, hb⟩))
    have H5 := Lib.hid (show Hf1 w bl (bl + 1) bx nm wk (.slice p1 ms.length p2) (.slice p3 rs.length p4) (.slice u1 ms.length u2) (.slice u3 rs.length u4) ms rs a0 a1 a2 w' by assumption)
    clear H4 CS CI
    obtain ⟨b0, b1, b2, b3, b4, _, _, c0, c1, c2, c3, d0, d1, d2, c4, d3, _, _, _⟩ := H5.out
    go_wp2_with fail
    have HS : FinC w bl bx nm wk (.slice p1 ms.length p2) (.slice p3 rs.length p4) (.slice u1 ms.length u2) (.slice u3 rs.length u4) ms rs w' := ⟨c0, c1, c2, c3, b0, b1, b2, b3, c4, b4, H5.out.2.2.2.2.2.2.2.2.2.2.2.2.2.2.2.2.1, H5.out.2.2.2.2.2.2.2.2.2.2.2.2.2.2.2.2.2.1, H5.out.2.2.2.2.2.1, H5.out.2.2.2.2.2.2.1, H5.out.2.2.2.2.2.2.2.2.2.2.2.2.2.2.2.2.2.2⟩
    clear c0 c1 c2 c3 d0 d1 d2 c4 d3 b0 b1 b2 b3 b4 H5
    generalize w' = w5 at *
    go_region_held3 (fun w' => w'.cell? ⟨bl, 0, none⟩ = some (.string nm) ∧ w'.cell? ⟨bl, 1, none⟩ = some (.slice p1 ms.length p2) ∧ w'.cell? ⟨bl, 2, none⟩ = some (.slice p3 rs.length p4) ∧ w'.cell? ⟨bl, 3, none⟩ = some (.int .i64 wk) ∧ w'.cell? ⟨bx, 0, none⟩ = some (.string nm) ∧ w'.cell? ⟨bx, 1, none⟩ = some (.slice u1 ms.length u2) ∧ w'.cell? ⟨bx, 2, none⟩ = some (.slice u3 rs.length u4) ∧ w'.cell? ⟨bx, 3, none⟩ = some (.int .i64 wk) ∧ bl < w'.heap.size ∧ bx < w'.heap.size ∧ SlMo w' (.slice p1 ms.length p2) ms ∧ SlRu w' (.slice p3 rs.length p4) rs ∧ SlMo w' (.slice u1 ms.length u2) ms ∧ SlRu w' (.slice u3 rs.length u4) rs ∧ Below w.heap.size w w') (first | exact HS.drew | assumption | exact FinC.keep hb (by first | assumption | exact HS.drew))
      (first
        | (go_at_call 13; have hS : FinC w bl bx nm wk (.slice p1 ms.length p2) (.slice p3 rs.length p4) (.slice u1 ms.length u2) (.slice u3 rs.length u4) ms rs _ := (by first | assumption | exact HS.drew); refine (toCalendar_any _ ⟨nm, ms, rs, wk⟩ _ ⟨_, _, rfl, HSZ.out, hS.2.2.2.2.2.2.2.2.2.2.1, hS.2.2.2.2.2.2.2.2.2.2.2.1⟩ HL.out).mono ?_; clear hS; rintro e w' ⟨x3, rfl, hA, hb⟩; have hIs := hA.is; clear hA)
        | (go_at_call 16; have hS : FinC w bl bx nm wk (.slice p1 ms.length p2) (.slice p3 rs.length p4) (.slice u1 ms.length u2) (.slice u3 rs.length u4) ms rs _ := (by first | assumption | exact HS.drew); refine (eqCalendar_same ⟨nm, ms, rs, wk⟩ _ _ _ ⟨_, _, rfl, HSZ.out, hS.2.2.2.2.2.2.2.2.2.2.2.2.1, hS.2.2.2.2.2.2.2.2.2.2.2.2.2.1⟩ (by assumption) HL.out).mono ?_; clear hS; rintro e w' ⟨rfl, hb⟩))
    have HT' : FinC w bl bx nm wk (.slice p1 ms.length p2) (.slice p3 rs.length p4) (.slice u1 ms.length u2) (.slice u3 rs.length u4) ms rs w' := by assumption
    have HU := Lib.hid HT'.2.2.2.2.2.2.2.2.2.2.2.2.2.2
    clear HT' HS
    go_wp2_with fail
    go_ret
    exact ⟨rfl, HU.out⟩
set_option maxRecDepth 100000 in
set_option maxHeartbeats 8000000 in
theorem FnExactWeekdayOf_walk (x : Value) (c : Cal) (a0 a1 a2 : Int) (f : Int) (w : World) (h : IsC w x c) (hb1 : -9223372036854775808 ≤ a1 ∧ a1 ≤ 9223372036854775807) :
    Calls Try.prog 8 #[x, .agg #[.int .i64 a0, .int .i64 a1, .int .i64 a2], .int .i64 f] w fun e w' => e = .returned (.bool true) ∧ Below w.heap.size w w' := by
  obtain ⟨pu, pv, rfl, hs, hM, hR⟩ := h
  have CS := Lib.hid (fun x W (h : IsC W x c) => WeekdayOfS_any c a0 a1 a2 f x W h hb1)
  have CI := Lib.hid (fun x W (h : IsC W x c) => WeekdayOfI_any c a0 a1 a2 f x W h hb1)
  have hne : ((wdE c a0 a1 a2 f).1 != (wdE c a0 a1 a2 f).1) = false := by simp
  have hne2 : ((wdE c a0 a1 a2 f).2 != (wdE c a0 a1 a2 f).2) = false := by simp
  generalize (wdE c a0 a1 a2 f).1 = q at *
  generalize (wdE c a0 a1 a2 f).2 = q2 at *
  obtain ⟨nm, ms, rs, wk⟩ := c
  simp only at hs hM hR
  obtain ⟨p1, p2, rfl, _⟩ := hM.open
  obtain ⟨p3, p4, rfl, _⟩ := hR.open
  have HSZ := Lib.hid hs
  have H0 := Lib.hid (show He1 w w.heap.size (w.heap.size + 1) nm wk (.slice p1 ms.length p2) (.slice p3 rs.length p4) ms rs a0 a1 a2 ((w.alloc (.cells #[.string nm, .slice p1 ms.length p2, .slice p3 rs.length p4, .int .i64 wk] 25)).alloc (.cells #[.int .i64 a0, .int .i64 a1, .int .i64 a2] 27)) from by
    have hL : Below w.heap.size w ((w.alloc (.cells #[.string nm, .slice p1 ms.length p2, .slice p3 rs.length p4, .int .i64 wk] 25)).alloc (.cells #[.int .i64 a0, .int .i64 a1, .int .i64 a2] 27)) := bA (bA (bR _) _) _
    obtain ⟨c0, c1, c2, c3, c4⟩ := ((BoxL.new w [.string nm, .slice p1 ms.length p2, .slice p3 rs.length p4, .int .i64 wk] 25).alloc (.cells #[.int .i64 a0, .int .i64 a1, .int .i64 a2] 27)).c4q
    obtain ⟨d0, d1, d2, d3⟩ := (BoxL.at_ (w := w.alloc (.cells #[.string nm, .slice p1 ms.length p2, .slice p3 rs.length p4, .int .i64 wk] 25)) (b := w.heap.size + 1) (vs := [.int .i64 a0, .int .i64 a1, .int .i64 a2]) (T := 27) (by simp)).c3
    exact ⟨c0, c1, c2, c3, d0, d1, d2, c4, d3, hM.keep hL, hR.keep hL, hL⟩)
  clear hM hR hs
  obtain ⟨c0, c1, c2, c3, d0, d1, d2, c4, d3, _, _, _⟩ := H0.out
  go_enter Try.func8, Try.ntmps8
  go_wp2_with fail
  generalize (w.alloc (.cells #[.string nm, .slice p1 ms.length p2, .slice p3 rs.length p4, .int .i64 wk] 25)).alloc (.cells #[.int .i64 a0, .int .i64 a1, .int .i64 a2] 27) = W0 at *
  generalize hbl : w.heap.size = bl at H0 c0 c1 c2 c3 d0 d1 d2 c4 d3 ⊢
  have HBL := Lib.hid hbl
  clear hbl
  refine (szCalendar_any _ ⟨nm, ms, rs, wk⟩ 1048576 _ ⟨_, _, rfl, HSZ.out, H0.out.2.2.2.2.2.2.2.2.2.1, H0.out.2.2.2.2.2.2.2.2.2.2.1⟩ (by omega) (by omega)).mono ?_
  rintro e w1 ⟨r, rfl, r1, r2, r3, hb⟩
  have H1 := Lib.hid (H0.out.keep hb)
  have R := Lib.hid r3
  clear hb r3 c0 c1 c2 c3 d0 d1 d2 c4 d3 H0
  obtain ⟨c0, c1, c2, c3, d0, d1, d2, c4, d3, _, _, _⟩ := H1.out
  by_cases hr : r < 0
  · go_wp2_with fail
    go_ret
    exact ⟨rfl, H1.out.2.2.2.2.2.2.2.2.2.2.2⟩
  · have HL := Lib.hid (R.out (by omega))
    go_wp2_with fail
    clear c0 c1 c2 c3 d0 d1 d2 c4 d3
    go_region_held3 (fun w' => w'.cell? ⟨bl, 0, none⟩ = some (.string nm) ∧ w'.cell? ⟨bl, 1, none⟩ = some (.slice p1 ms.length p2) ∧ w'.cell? ⟨bl, 2, none⟩ = some (.slice p3 rs.length p4) ∧ w'.cell? ⟨bl, 3, none⟩ = some (.int .i64 wk) ∧ w'.cell? ⟨bl + 1, 0, none⟩ = some (.int .i64 a0) ∧ w'.cell? ⟨bl + 1, 1, none⟩ = some (.int .i64 a1) ∧ w'.cell? ⟨bl + 1, 2, none⟩ = some (.int .i64 a2) ∧ bl < w'.heap.size ∧ bl + 1 < w'.heap.size ∧ SlMo w' (.slice p1 ms.length p2) ms ∧ SlRu w' (.slice p3 rs.length p4) rs ∧ Below w.heap.size w w') (first | exact H1.out.drew | assumption | exact He1.keep hb (by first | assumption | exact H1.out.drew))
      (first
        | (go_at_call 13; have hS : He1 w bl (bl + 1) nm wk (.slice p1 ms.length p2) (.slice p3 rs.length p4) ms rs a0 a1 a2 _ := (by first | assumption | exact H1.out.drew); refine (toCalendar_any _ ⟨nm, ms, rs, wk⟩ _ ⟨_, _, rfl, HSZ.out, hS.2.2.2.2.2.2.2.2.2.1, hS.2.2.2.2.2.2.2.2.2.2.1⟩ HL.out).mono ?_; clear hS; rintro e w' ⟨x3, rfl, hA, hb⟩; have hIs := hA.is; clear hA)
        | (go_at_call 14; refine (toDateV_any _ _ _ _).mono ?_; rintro e w' ⟨rfl, hb⟩; (try have hIs := IsC.keep ‹IsC _ _ _› hb))
        | (go_at_call 26; refine (CS.out _ _ (by assumption)).mono ?_; rintro e w' ⟨rfl, hb⟩))
    have H2 := Lib.hid (show He1 w bl (bl + 1) nm wk (.slice p1 ms.length p2) (.slice p3 rs.length p4) ms rs a0 a1 a2 w' by assumption)
    clear H1
    obtain ⟨c0, c1, c2, c3, d0, d1, d2, c4, d3, _, _, _⟩ := H2.out
    go_wp2_with fail
    refine (toCalendar_any _ ⟨nm, ms, rs, wk⟩ _ ⟨_, _, rfl, HSZ.out, H2.out.2.2.2.2.2.2.2.2.2.1, H2.out.2.2.2.2.2.2.2.2.2.2.1⟩ HL.out).mono ?_
    rintro e w4 ⟨x2, rfl, hO, hb⟩
    obtain ⟨u, v, rfl, _, hM2, hR2⟩ := hO.is
    simp only at hM2 hR2
    obtain ⟨u1, u2, rfl, _⟩ := hM2.open
    obtain ⟨u3, u4, rfl, _⟩ := hR2.open
    have H4 := Lib.hid (show Hf1 w bl (bl + 1) w4.heap.size nm wk (.slice p1 ms.length p2) (.slice p3 rs.length p4) (.slice u1 ms.length u2) (.slice u3 rs.length u4) ms rs a0 a1 a2 (w4.alloc (.cells #[.string nm, .slice u1 ms.length u2, .slice u3 rs.length u4, .int .i64 wk] 33)) from by
      have hb' : Below w4.heap.size w4 (w4.alloc (.cells #[.string nm, .slice u1 ms.length u2, .slice u3 rs.length u4, .int .i64 wk] 33)) := bA (bR _) _
      obtain ⟨d0, d1, d2, d3, d4⟩ := (BoxL.new w4 [.string nm, .slice u1 ms.length u2, .slice u3 rs.length u4, .int .i64 wk] 33).c4q
      exact ⟨d0, d1, d2, d3, d4, hM2.keep hb', hR2.keep hb', (H2.out.keep hb).keep hb'⟩)
    clear c0 c1 c2 c3 d0 d1 d2 c4 d3 hO hM2 hR2 hb H2
    obtain ⟨b0, b1, b2, b3, b4, _, _, c0, c1, c2, c3, d0, d1, d2, c4, d3, _, _, _⟩ := H4.out
    go_wp2_with fail
    generalize w4.alloc (.cells #[.string nm, .slice u1 ms.length u2, .slice u3 rs.length u4, .int .i64 wk] 33) = W4 at *
    generalize w4.heap.size = bx at *
    clear c0 c1 c2 c3 d0 d1 d2 c4 d3 b0 b1 b2 b3 b4
    go_region_held3 (fun w' => w'.cell? ⟨bx, 0, none⟩ = some (.string nm) ∧ w'.cell? ⟨bx, 1, none⟩ = some (.slice u1 ms.length u2) ∧ w'.cell? ⟨bx, 2, none⟩ = some (.slice u3 rs.length u4) ∧ w'.cell? ⟨bx, 3, none⟩ = some (.int .i64 wk) ∧ bx < w'.heap.size ∧ SlMo w' (.slice u1 ms.length u2) ms ∧ SlRu w' (.slice u3 rs.length u4) rs ∧ w'.cell? ⟨bl, 0, none⟩ = some (.string nm) ∧ w'.cell? ⟨bl, 1, none⟩ = some (.slice p1 ms.length p2) ∧ w'.cell? ⟨bl, 2, none⟩ = some (.slice p3 rs.length p4) ∧ w'.cell? ⟨bl, 3, none⟩ = some (.int .i64 wk) ∧ w'.cell? ⟨bl + 1, 0, none⟩ = some (.int .i64 a0) ∧ w'.cell? ⟨bl + 1, 1, none⟩ = some (.int .i64 a1) ∧ w'.cell? ⟨bl + 1, 2, none⟩ = some (.int .i64 a2) ∧ bl < w'.heap.size ∧ bl + 1 < w'.heap.size ∧ SlMo w' (.slice p1 ms.length p2) ms ∧ SlRu w' (.slice p3 rs.length p4) rs ∧ Below w.heap.size w w') (first | exact H4.out.drew | assumption | exact Hf1.keep hb (by first | assumption | exact H4.out.drew))
      (first
        | (go_at_call 14; refine (toDateV_any _ _ _ _).mono ?_; rintro e w' ⟨rfl, hb⟩)
        | (go_at_call 27; have hS : Hf1 w bl (bl + 1) bx nm wk (.slice p1 ms.length p2) (.slice p3 rs.length p4) (.slice u1 ms.length u2) (.slice u3 rs.length u4) ms rs a0 a1 a2 _ := (by first | assumption | exact H4.out.drew); refine (CI.out _ _ ⟨_, _, rfl, HSZ.out, hS.2.2.2.2.2.1, hS.2.2.2.2.2.2.1⟩).mono ?_; clear hS; rintro e w' ⟨rfl, hb⟩))
    have H5 := Lib.hid (show Hf1 w bl (bl + 1) bx nm wk (.slice p1 ms.length p2) (.slice p3 rs.length p4) (.slice u1 ms.length u2) (.slice u3 rs.length u4) ms rs a0 a1 a2 w' by assumption)
    clear H4 CS CI
    obtain ⟨b0, b1, b2, b3, b4, _, _, c0, c1, c2, c3, d0, d1, d2, c4, d3, _, _, _⟩ := H5.out
    go_wp2_with fail
    have HS : FinC w bl bx nm wk (.slice p1 ms.length p2) (.slice p3 rs.length p4) (.slice u1 ms.length u2) (.slice u3 rs.length u4) ms rs w' := ⟨c0, c1, c2, c3, b0, b1, b2, b3, c4, b4, H5.out.2.2.2.2.2.2.2.2.2.2.2.2.2.2.2.2.1, H5.out.2.2.2.2.2.2.2.2.2.2.2.2.2.2.2.2.2.1, H5.out.2.2.2.2.2.1, H5.out.2.2.2.2.2.2.1, H5.out.2.2.2.2.2.2.2.2.2.2.2.2.2.2.2.2.2.2⟩
    clear c0 c1 c2 c3 d0 d1 d2 c4 d3 b0 b1 b2 b3 b4 H5
    generalize w' = w5 at *
    go_region_held3 (fun w' => w'.cell? ⟨bl, 0, none⟩ = some (.string nm) ∧ w'.cell? ⟨bl, 1, none⟩ = some (.slice p1 ms.length p2) ∧ w'.cell? ⟨bl, 2, none⟩ = some (.slice p3 rs.length p4) ∧ w'.cell? ⟨bl, 3, none⟩ = some (.int .i64 wk) ∧ w'.cell? ⟨bx, 0, none⟩ = some (.string nm) ∧ w'.cell? ⟨bx, 1, none⟩ = some (.slice u1 ms.length u2) ∧ w'.cell? ⟨bx, 2, none⟩ = some (.slice u3 rs.length u4) ∧ w'.cell? ⟨bx, 3, none⟩ = some (.int .i64 wk) ∧ bl < w'.heap.size ∧ bx < w'.heap.size ∧ SlMo w' (.slice p1 ms.length p2) ms ∧ SlRu w' (.slice p3 rs.length p4) rs ∧ SlMo w' (.slice u1 ms.length u2) ms ∧ SlRu w' (.slice u3 rs.length u4) rs ∧ Below w.heap.size w w') (first | exact HS.drew | assumption | exact FinC.keep hb (by first | assumption | exact HS.drew))
      (first
        | (go_at_call 13; have hS : FinC w bl bx nm wk (.slice p1 ms.length p2) (.slice p3 rs.length p4) (.slice u1 ms.length u2) (.slice u3 rs.length u4) ms rs _ := (by first | assumption | exact HS.drew); refine (toCalendar_any _ ⟨nm, ms, rs, wk⟩ _ ⟨_, _, rfl, HSZ.out, hS.2.2.2.2.2.2.2.2.2.2.1, hS.2.2.2.2.2.2.2.2.2.2.2.1⟩ HL.out).mono ?_; clear hS; rintro e w' ⟨x3, rfl, hA, hb⟩; have hIs := hA.is; clear hA)
        | (go_at_call 16; have hS : FinC w bl bx nm wk (.slice p1 ms.length p2) (.slice p3 rs.length p4) (.slice u1 ms.length u2) (.slice u3 rs.length u4) ms rs _ := (by first | assumption | exact HS.drew); refine (eqCalendar_same ⟨nm, ms, rs, wk⟩ _ _ _ ⟨_, _, rfl, HSZ.out, hS.2.2.2.2.2.2.2.2.2.2.2.2.1, hS.2.2.2.2.2.2.2.2.2.2.2.2.2.1⟩ (by assumption) HL.out).mono ?_; clear hS; rintro e w' ⟨rfl, hb⟩))
    have HT' : FinC w bl bx nm wk (.slice p1 ms.length p2) (.slice p3 rs.length p4) (.slice u1 ms.length u2) (.slice u3 rs.length u4) ms rs w' := by assumption
    have HU := Lib.hid HT'.2.2.2.2.2.2.2.2.2.2.2.2.2.2
    clear HT' HS
    go_wp2_with fail
    go_ret
    exact ⟨rfl, HU.out⟩
set_option maxRecDepth 100000 in
set_option maxHeartbeats 8000000 in
theorem FnExactDaysBetween_walk (x : Value) (c : Cal) (a0 a1 a2 b0 b1 b2 : Int)  (w : World) (h : IsC w x c) (hb1 : -9223372036854775808 ≤ a1 ∧ a1 ≤ 9223372036854775807) (hb2 : -9223372036854775808 ≤ b1 ∧ b1 ≤ 9223372036854775807) :
    Calls Try.prog 7 #[x, .agg #[.int .i64 a0, .int .i64 a1, .int .i64 a2], .agg #[.int .i64 b0, .int .i64 b1, .int .i64 b2]] w fun e w' => e = .returned (.bool true) ∧ Below w.heap.size w w' := by
  obtain ⟨pu, pv, rfl, hs, hM, hR⟩ := h
  have CS := Lib.hid (fun x W (h : IsC W x c) => DaysBetweenS_any c a0 a1 a2 b0 b1 b2 x W h hb1 hb2)
  have CI := Lib.hid (fun x W (h : IsC W x c) => DaysBetweenI_any c a0 a1 a2 b0 b1 b2 x W h hb1 hb2)
  have hne : ((dbE c a0 a1 a2 b0 b1 b2).1 != (dbE c a0 a1 a2 b0 b1 b2).1) = false := by simp
  have hne2 : ((dbE c a0 a1 a2 b0 b1 b2).2 != (dbE c a0 a1 a2 b0 b1 b2).2) = false := by simp
  generalize (dbE c a0 a1 a2 b0 b1 b2).1 = q at *
  generalize (dbE c a0 a1 a2 b0 b1 b2).2 = q2 at *
  obtain ⟨nm, ms, rs, wk⟩ := c
  simp only at hs hM hR
  obtain ⟨p1, p2, rfl, _⟩ := hM.open
  obtain ⟨p3, p4, rfl, _⟩ := hR.open
  have HSZ := Lib.hid hs
  have H0 := Lib.hid (show He2 w w.heap.size (w.heap.size + 1) (w.heap.size + 1 + 1) nm wk (.slice p1 ms.length p2) (.slice p3 rs.length p4) ms rs a0 a1 a2 b0 b1 b2 (((w.alloc (.cells #[.string nm, .slice p1 ms.length p2, .slice p3 rs.length p4, .int .i64 wk] 25)).alloc (.cells #[.int .i64 a0, .int .i64 a1, .int .i64 a2] 27)).alloc (.cells #[.int .i64 b0, .int .i64 b1, .int .i64 b2] 27)) from by
    have hL : Below w.heap.size w (((w.alloc (.cells #[.string nm, .slice p1 ms.length p2, .slice p3 rs.length p4, .int .i64 wk] 25)).alloc (.cells #[.int .i64 a0, .int .i64 a1, .int .i64 a2] 27)).alloc (.cells #[.int .i64 b0, .int .i64 b1, .int .i64 b2] 27)) := bA (bA (bA (bR _) _) _) _
    obtain ⟨c0, c1, c2, c3, c4⟩ := (((BoxL.new w [.string nm, .slice p1 ms.length p2, .slice p3 rs.length p4, .int .i64 wk] 25).alloc (.cells #[.int .i64 a0, .int .i64 a1, .int .i64 a2] 27)).alloc (.cells #[.int .i64 b0, .int .i64 b1, .int .i64 b2] 27)).c4q
    obtain ⟨d0, d1, d2, d3⟩ := ((BoxL.at_ (w := w.alloc (.cells #[.string nm, .slice p1 ms.length p2, .slice p3 rs.length p4, .int .i64 wk] 25)) (b := w.heap.size + 1) (vs := [.int .i64 a0, .int .i64 a1, .int .i64 a2]) (T := 27) (by simp)).alloc (.cells #[.int .i64 b0, .int .i64 b1, .int .i64 b2] 27)).c3
    obtain ⟨e0, e1, e2, e3⟩ := (BoxL.at_ (w := (w.alloc (.cells #[.string nm, .slice p1 ms.length p2, .slice p3 rs.length p4, .int .i64 wk] 25)).alloc (.cells #[.int .i64 a0, .int .i64 a1, .int .i64 a2] 27)) (b := w.heap.size + 1 + 1) (vs := [.int .i64 b0, .int .i64 b1, .int .i64 b2]) (T := 27) (by simp)).c3
    exact ⟨c0, c1, c2, c3, d0, d1, d2, e0, e1, e2, c4, d3, e3, hM.keep hL, hR.keep hL, hL⟩)
  clear hM hR hs
  obtain ⟨c0, c1, c2, c3, d0, d1, d2, e0, e1, e2, c4, d3, e3, _, _, _⟩ := H0.out
  go_enter Try.func7, Try.ntmps7
  go_wp2_with fail
  generalize ((w.alloc (.cells #[.string nm, .slice p1 ms.length p2, .slice p3 rs.length p4, .int .i64 wk] 25)).alloc (.cells #[.int .i64 a0, .int .i64 a1, .int .i64 a2] 27)).alloc (.cells #[.int .i64 b0, .int .i64 b1, .int .i64 b2] 27) = W0 at *
  generalize hbl : w.heap.size = bl at H0 c0 c1 c2 c3 d0 d1 d2 e0 e1 e2 c4 d3 e3 ⊢
  have HBL := Lib.hid hbl
  clear hbl
  refine (szCalendar_any _ ⟨nm, ms, rs, wk⟩ 1048576 _ ⟨_, _, rfl, HSZ.out, H0.out.2.2.2.2.2.2.2.2.2.2.2.2.2.1, H0.out.2.2.2.2.2.2.2.2.2.2.2.2.2.2.1⟩ (by omega) (by omega)).mono ?_
  rintro e w1 ⟨r, rfl, r1, r2, r3, hb⟩
  have H1 := Lib.hid (H0.out.keep hb)
  have R := Lib.hid r3
  clear hb r3 c0 c1 c2 c3 d0 d1 d2 e0 e1 e2 c4 d3 e3 H0
  obtain ⟨c0, c1, c2, c3, d0, d1, d2, e0, e1, e2, c4, d3, e3, _, _, _⟩ := H1.out
  by_cases hr : r < 0
  · go_wp2_with fail
    go_ret
    exact ⟨rfl, H1.out.2.2.2.2.2.2.2.2.2.2.2.2.2.2.2⟩
  · have HL := Lib.hid (R.out (by omega))
    go_wp2_with fail
    clear c0 c1 c2 c3 d0 d1 d2 e0 e1 e2 c4 d3 e3
    go_region_held3 (fun w' => w'.cell? ⟨bl, 0, none⟩ = some (.string nm) ∧ w'.cell? ⟨bl, 1, none⟩ = some (.slice p1 ms.length p2) ∧ w'.cell? ⟨bl, 2, none⟩ = some (.slice p3 rs.length p4) ∧ w'.cell? ⟨bl, 3, none⟩ = some (.int .i64 wk) ∧ w'.cell? ⟨bl + 1, 0, none⟩ = some (.int .i64 a0) ∧ w'.cell? ⟨bl + 1, 1, none⟩ = some (.int .i64 a1) ∧ w'.cell? ⟨bl + 1, 2, none⟩ = some (.int .i64 a2) ∧ w'.cell? ⟨bl + 1 + 1, 0, none⟩ = some (.int .i64 b0) ∧ w'.cell? ⟨bl + 1 + 1, 1, none⟩ = some (.int .i64 b1) ∧ w'.cell? ⟨bl + 1 + 1, 2, none⟩ = some (.int .i64 b2) ∧ bl < w'.heap.size ∧ bl + 1 < w'.heap.size ∧ bl + 1 + 1 < w'.heap.size ∧ SlMo w' (.slice p1 ms.length p2) ms ∧ SlRu w' (.slice p3 rs.length p4) rs ∧ Below w.heap.size w w') (first | exact H1.out.drew | assumption | exact He2.keep hb (by first | assumption | exact H1.out.drew))
      (first
        | (go_at_call 13; have hS : He2 w bl (bl + 1) (bl + 1 + 1) nm wk (.slice p1 ms.length p2) (.slice p3 rs.length p4) ms rs a0 a1 a2 b0 b1 b2 _ := (by first | assumption | exact H1.out.drew); refine (toCalendar_any _ ⟨nm, ms, rs, wk⟩ _ ⟨_, _, rfl, HSZ.out, hS.2.2.2.2.2.2.2.2.2.2.2.2.2.1, hS.2.2.2.2.2.2.2.2.2.2.2.2.2.2.1⟩ HL.out).mono ?_; clear hS; rintro e w' ⟨x3, rfl, hA, hb⟩; have hIs := hA.is; clear hA)
        | (go_at_call 14; refine (toDateV_any _ _ _ _).mono ?_; rintro e w' ⟨rfl, hb⟩; (try have hIs := IsC.keep ‹IsC _ _ _› hb))
        | (go_at_call 24; refine (CS.out _ _ (by assumption)).mono ?_; rintro e w' ⟨rfl, hb⟩))
    have H2 := Lib.hid (show He2 w bl (bl + 1) (bl + 1 + 1) nm wk (.slice p1 ms.length p2) (.slice p3 rs.length p4) ms rs a0 a1 a2 b0 b1 b2 w' by assumption)
    clear H1
    obtain ⟨c0, c1, c2, c3, d0, d1, d2, e0, e1, e2, c4, d3, e3, _, _, _⟩ := H2.out
    go_wp2_with fail
    refine (toCalendar_any _ ⟨nm, ms, rs, wk⟩ _ ⟨_, _, rfl, HSZ.out, H2.out.2.2.2.2.2.2.2.2.2.2.2.2.2.1, H2.out.2.2.2.2.2.2.2.2.2.2.2.2.2.2.1⟩ HL.out).mono ?_
    rintro e w4 ⟨x2, rfl, hO, hb⟩
    obtain ⟨u, v, rfl, _, hM2, hR2⟩ := hO.is
    simp only at hM2 hR2
    obtain ⟨u1, u2, rfl, _⟩ := hM2.open
    obtain ⟨u3, u4, rfl, _⟩ := hR2.open
    have H4 := Lib.hid (show Hf2 w bl (bl + 1) (bl + 1 + 1) w4.heap.size nm wk (.slice p1 ms.length p2) (.slice p3 rs.length p4) (.slice u1 ms.length u2) (.slice u3 rs.length u4) ms rs a0 a1 a2 b0 b1 b2 (w4.alloc (.cells #[.string nm, .slice u1 ms.length u2, .slice u3 rs.length u4, .int .i64 wk] 33)) from by
      have hb' : Below w4.heap.size w4 (w4.alloc (.cells #[.string nm, .slice u1 ms.length u2, .slice u3 rs.length u4, .int .i64 wk] 33)) := bA (bR _) _
      obtain ⟨d0, d1, d2, d3, d4⟩ := (BoxL.new w4 [.string nm, .slice u1 ms.length u2, .slice u3 rs.length u4, .int .i64 wk] 33).c4q
      exact ⟨d0, d1, d2, d3, d4, hM2.keep hb', hR2.keep hb', (H2.out.keep hb).keep hb'⟩)
    clear c0 c1 c2 c3 d0 d1 d2 e0 e1 e2 c4 d3 e3 hO hM2 hR2 hb H2
    obtain ⟨b0, b1, b2, b3, b4, _, _, c0, c1, c2, c3, d0, d1, d2, e0, e1, e2, c4, d3, e3, _, _, _⟩ := H4.out
    go_wp2_with fail
    generalize w4.alloc (.cells #[.string nm, .slice u1 ms.length u2, .slice u3 rs.length u4, .int .i64 wk] 33) = W4 at *
    generalize w4.heap.size = bx at *
    clear c0 c1 c2 c3 d0 d1 d2 e0 e1 e2 c4 d3 e3 b0 b1 b2 b3 b4
    go_region_held3 (fun w' => w'.cell? ⟨bx, 0, none⟩ = some (.string nm) ∧ w'.cell? ⟨bx, 1, none⟩ = some (.slice u1 ms.length u2) ∧ w'.cell? ⟨bx, 2, none⟩ = some (.slice u3 rs.length u4) ∧ w'.cell? ⟨bx, 3, none⟩ = some (.int .i64 wk) ∧ bx < w'.heap.size ∧ SlMo w' (.slice u1 ms.length u2) ms ∧ SlRu w' (.slice u3 rs.length u4) rs ∧ w'.cell? ⟨bl, 0, none⟩ = some (.string nm) ∧ w'.cell? ⟨bl, 1, none⟩ = some (.slice p1 ms.length p2) ∧ w'.cell? ⟨bl, 2, none⟩ = some (.slice p3 rs.length p4) ∧ w'.cell? ⟨bl, 3, none⟩ = some (.int .i64 wk) ∧ w'.cell? ⟨bl + 1, 0, none⟩ = some (.int .i64 a0) ∧ w'.cell? ⟨bl + 1, 1, none⟩ = some (.int .i64 a1) ∧ w'.cell? ⟨bl + 1, 2, none⟩ = some (.int .i64 a2) ∧ w'.cell? ⟨bl + 1 + 1, 0, none⟩ = some (.int .i64 b0) ∧ w'.cell? ⟨bl + 1 + 1, 1, none⟩ = some (.int .i64 b1) ∧ w'.cell? ⟨bl + 1 + 1, 2, none⟩ = some (.int .i64 b2) ∧ bl < w'.heap.size ∧ bl + 1 < w'.heap.size ∧ bl + 1 + 1 < w'.heap.size ∧ SlMo w' (.slice p1 ms.length p2) ms ∧ SlRu w' (.slice p3 rs.length p4) rs ∧ Below w.heap.size w w') (first | exact H4.out.drew | assumption | exact Hf2.keep hb (by first | assumption | exact H4.out.drew))
      (first
        | (go_at_call 14; refine (toDateV_any _ _ _ _).mono ?_; rintro e w' ⟨rfl, hb⟩)
        | (go_at_call 25; have hS : Hf2 w bl (bl + 1) (bl + 1 + 1) bx nm wk (.slice p1 ms.length p2) (.slice p3 rs.length p4) (.slice u1 ms.length u2) (.slice u3 rs.length u4) ms rs a0 a1 a2 b0 b1 b2 _ := (by first | assumption | exact H4.out.drew); refine (CI.out _ _ ⟨_, _, rfl, HSZ.out, hS.2.2.2.2.2.1, hS.2.2.2.2.2.2.1⟩).mono ?_; clear hS; rintro e w' ⟨rfl, hb⟩))
    have H5 := Lib.hid (show Hf2 w bl (bl + 1) (bl + 1 + 1) bx nm wk (.slice p1 ms.length p2) (.slice p3 rs.length p4) (.slice u1 ms.length u2) (.slice u3 rs.length u4) ms rs a0 a1 a2 b0 b1 b2 w' by assumption)
    clear H4 CS CI
    obtain ⟨b0, b1, b2, b3, b4, _, _, c0, c1, c2, c3, d0, d1, d2, e0, e1, e2, c4, d3, e3, _, _, _⟩ := H5.out
    go_wp2_with fail
    have HS : FinC w bl bx nm wk (.slice p1 ms.length p2) (.slice p3 rs.length p4) (.slice u1 ms.length u2) (.slice u3 rs.length u4) ms rs w' := ⟨c0, c1, c2, c3, b0, b1, b2, b3, c4, b4, H5.out.2.2.2.2.2.2.2.2.2.2.2.2.2.2.2.2.2.2.2.2.1, H5.out.2.2.2.2.2.2.2.2.2.2.2.2.2.2.2.2.2.2.2.2.2.1, H5.out.2.2.2.2.2.1, H5.out.2.2.2.2.2.2.1, H5.out.2.2.2.2.2.2.2.2.2.2.2.2.2.2.2.2.2.2.2.2.2.2⟩
    clear c0 c1 c2 c3 d0 d1 d2 e0 e1 e2 c4 d3 e3 b0 b1 b2 b3 b4 H5
    generalize w' = w5 at *
    go_region_held3 (fun w' => w'.cell? ⟨bl, 0, none⟩ = some (.string nm) ∧ w'.cell? ⟨bl, 1, none⟩ = some (.slice p1 ms.length p2) ∧ w'.cell? ⟨bl, 2, none⟩ = some (.slice p3 rs.length p4) ∧ w'.cell? ⟨bl, 3, none⟩ = some (.int .i64 wk) ∧ w'.cell? ⟨bx, 0, none⟩ = some (.string nm) ∧ w'.cell? ⟨bx, 1, none⟩ = some (.slice u1 ms.length u2) ∧ w'.cell? ⟨bx, 2, none⟩ = some (.slice u3 rs.length u4) ∧ w'.cell? ⟨bx, 3, none⟩ = some (.int .i64 wk) ∧ bl < w'.heap.size ∧ bx < w'.heap.size ∧ SlMo w' (.slice p1 ms.length p2) ms ∧ SlRu w' (.slice p3 rs.length p4) rs ∧ SlMo w' (.slice u1 ms.length u2) ms ∧ SlRu w' (.slice u3 rs.length u4) rs ∧ Below w.heap.size w w') (first | exact HS.drew | assumption | exact FinC.keep hb (by first | assumption | exact HS.drew))
      (first
        | (go_at_call 13; have hS : FinC w bl bx nm wk (.slice p1 ms.length p2) (.slice p3 rs.length p4) (.slice u1 ms.length u2) (.slice u3 rs.length u4) ms rs _ := (by first | assumption | exact HS.drew); refine (toCalendar_any _ ⟨nm, ms, rs, wk⟩ _ ⟨_, _, rfl, HSZ.out, hS.2.2.2.2.2.2.2.2.2.2.1, hS.2.2.2.2.2.2.2.2.2.2.2.1⟩ HL.out).mono ?_; clear hS; rintro e w' ⟨x3, rfl, hA, hb⟩; have hIs := hA.is; clear hA)
        | (go_at_call 16; have hS : FinC w bl bx nm wk (.slice p1 ms.length p2) (.slice p3 rs.length p4) (.slice u1 ms.length u2) (.slice u3 rs.length u4) ms rs _ := (by first | assumption | exact HS.drew); refine (eqCalendar_same ⟨nm, ms, rs, wk⟩ _ _ _ ⟨_, _, rfl, HSZ.out, hS.2.2.2.2.2.2.2.2.2.2.2.2.1, hS.2.2.2.2.2.2.2.2.2.2.2.2.2.1⟩ (by assumption) HL.out).mono ?_; clear hS; rintro e w' ⟨rfl, hb⟩))
    have HT' : FinC w bl bx nm wk (.slice p1 ms.length p2) (.slice p3 rs.length p4) (.slice u1 ms.length u2) (.slice u3 rs.length u4) ms rs w' := by assumption
    have HU := Lib.hid HT'.2.2.2.2.2.2.2.2.2.2.2.2.2.2
    clear HT' HS
    go_wp2_with fail
    go_ret
    exact ⟨rfl, HU.out⟩
end Go.Proofs.Ytbkhejideffflaa

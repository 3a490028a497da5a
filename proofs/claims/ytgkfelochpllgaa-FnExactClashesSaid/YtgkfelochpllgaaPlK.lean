/-
  The clearance of two sites: spec.l09Clear, impl.Site.clearanceTo, Plate.hasSite.
-/
import Derived.Test.YtgkfelochpllgaaPlJ
import Derived.Test.YtgkfelochpllgaaRtC
namespace Go.Proofs.Ytgkfelochpllgaa
open Go.RowKit

/-- What stands while two sites of a plate are read. -/
def ClH (W0 : World) (bx g k l : Nat) (u : Value) (n1 : ByteArray) (x1 y1 wh1 st1 : Int) (n2 : ByteArray) (x2 y2 wh2 st2 : Int) (w' : World) : Prop :=
  w'.cell? ⟨bx, 4, none⟩ = some u ∧ w'.cell? ⟨g, k * 5, none⟩ = some (.string n1) ∧ w'.cell? ⟨g, k * 5 + 1, none⟩ = some (.int .i64 x1) ∧ w'.cell? ⟨g, k * 5 + 2, none⟩ = some (.int .i64 y1) ∧ w'.cell? ⟨g, k * 5 + 3, none⟩ = some (.int .i64 wh1) ∧ w'.cell? ⟨g, k * 5 + 4, none⟩ = some (.int .i64 st1) ∧ w'.cell? ⟨g, l * 5, none⟩ = some (.string n2) ∧ w'.cell? ⟨g, l * 5 + 1, none⟩ = some (.int .i64 x2) ∧ w'.cell? ⟨g, l * 5 + 2, none⟩ = some (.int .i64 y2) ∧ w'.cell? ⟨g, l * 5 + 3, none⟩ = some (.int .i64 wh2) ∧ w'.cell? ⟨g, l * 5 + 4, none⟩ = some (.int .i64 st2) ∧ bx < w'.heap.size ∧ g < w'.heap.size ∧ Below W0.heap.size W0 w'
theorem ClH.keep {W0 : World} {bx g k l : Nat} {u : Value} {n1 : ByteArray} {x1 y1 wh1 st1 : Int} {n2 : ByteArray} {x2 y2 wh2 st2 : Int} {w' w2 : World} (hb : Below w'.heap.size w' w2) (h : ClH W0 bx g k l u n1 x1 y1 wh1 st1 n2 x2 y2 wh2 st2 w') : ClH W0 bx g k l u n1 x1 y1 wh1 st1 n2 x2 y2 wh2 st2 w2 := by
  obtain ⟨b0, c0, c1, c2, c3, c4, d0, d1, d2, d3, d4, e1, e2, e3⟩ := h
  exact ⟨(hb.cell (p := ⟨bx, 4, none⟩) e1).trans b0, (hb.cell (p := ⟨g, k * 5, none⟩) e2).trans c0, (hb.cell (p := ⟨g, k * 5 + 1, none⟩) e2).trans c1, (hb.cell (p := ⟨g, k * 5 + 2, none⟩) e2).trans c2, (hb.cell (p := ⟨g, k * 5 + 3, none⟩) e2).trans c3, (hb.cell (p := ⟨g, k * 5 + 4, none⟩) e2).trans c4, (hb.cell (p := ⟨g, l * 5, none⟩) e2).trans d0, (hb.cell (p := ⟨g, l * 5 + 1, none⟩) e2).trans d1, (hb.cell (p := ⟨g, l * 5 + 2, none⟩) e2).trans d2, (hb.cell (p := ⟨g, l * 5 + 3, none⟩) e2).trans d3, (hb.cell (p := ⟨g, l * 5 + 4, none⟩) e2).trans d4, Nat.lt_of_lt_of_le e1 hb.size, Nat.lt_of_lt_of_le e2 hb.size, bT e3 hb⟩
theorem ClH.drew {W0 : World} {bx g k l : Nat} {u : Value} {n1 : ByteArray} {x1 y1 wh1 st1 : Int} {n2 : ByteArray} {x2 y2 wh2 st2 : Int} {w' : World} (h : ClH W0 bx g k l u n1 x1 y1 wh1 st1 n2 x2 y2 wh2 st2 w') : ClH W0 bx g k l u n1 x1 y1 wh1 st1 n2 x2 y2 wh2 st2 w'.drew := h.keep (bR _).drew
/-- The numbers of two sites of a valid plate. -/
theorem cl_bd {W H M G : Int} {ss : List Sit} (h : okPl W H M G ss = true) {k : Nat} (hk : k < ss.length) : (0 ≤ (siAt ss k).x ∧ (siAt ss k).x ≤ 10000) ∧ (0 ≤ (siAt ss k).y ∧ (siAt ss k).y ≤ 10000) ∧ (1 ≤ (siAt ss k).wh ∧ (siAt ss k).wh ≤ 10000) ∧ (1 ≤ (siAt ss k).st ∧ (siAt ss k).st ≤ 1000) := by
  obtain ⟨h1, h2, _⟩ := okPl_parts h
  obtain ⟨_, s1, s2, s3, s4⟩ := siB_bd (okPl_site h hk)
  omega
def IntBelC (n : Int) (w : World) (e : Ending) (w' : World) : Prop := e = .returned (.int .i64 n) ∧ Below w.heap.size w w'
def clN (x1 y1 wh1 x2 y2 st2 : Int) : Int := rt (d2 x1 y1 x2 y2) - wh1 - st2
theorem clS_eq (s t : Sit) : clS s t = clN s.x s.y s.wh t.x t.y t.st := rfl
theorem clN_bd {x1 y1 wh1 x2 y2 st2 : Int} (h1 : 0 ≤ x1 ∧ x1 ≤ 10000) (h2 : 0 ≤ y1 ∧ y1 ≤ 10000) (h3 : 1 ≤ wh1 ∧ wh1 ≤ 10000) (h4 : 0 ≤ x2 ∧ x2 ≤ 10000) (h5 : 0 ≤ y2 ∧ y2 ≤ 10000) (h6 : 1 ≤ st2 ∧ st2 ≤ 1000) :
    (0 ≤ d2 x1 y1 x2 y2 ∧ d2 x1 y1 x2 y2 ≤ 200000000) ∧ (0 ≤ rt (d2 x1 y1 x2 y2) ∧ rt (d2 x1 y1 x2 y2) ≤ 100000) ∧ -20000 ≤ clN x1 y1 wh1 x2 y2 st2 ∧ clN x1 y1 wh1 x2 y2 st2 ≤ 100000 := by
  have hd := d2_bd h1 h2 h4 h5
  have r0 := (rt_is hd.1).1
  have r1 := rt_le (n := d2 x1 y1 x2 y2) (m := 100000) hd.1 (by omega) (by omega)
  unfold clN
  omega
set_option maxRecDepth 100000 in
set_option maxHeartbeats 8000000 in
theorem l09Clear_any (W H M G : Int) (ss : List Sit) (v : Value) (k l : Nat) (w : World) (ha : SlSi w v ss) (hok : okPl W H M G ss = true) (hk : k < ss.length) (hl : l < ss.length) :
    Calls Try.prog 53 #[.agg #[.int .i64 W, .int .i64 H, .int .i64 M, .int .i64 G, v], .int .i64 k, .int .i64 l] w (IntBelC (clS (siAt ss k) (siAt ss l)) w) := by
  obtain ⟨h0, ao, cap, rfl, hcp, hc⟩ := ha
  have k1 := cl_bd hok hk
  have k2 := cl_bd hok hl
  have h20 := (okPl_parts hok).2.2.2.2.1
  rw [clS_eq]
  obtain ⟨g, rfl, hg, hc⟩ := hc (by omega)
  obtain ⟨c0, c1, c2, c3, c4, _⟩ := hc k hk
  obtain ⟨d0, d1, d2', d3, d4, _⟩ := hc l hl
  clear hc hok
  have X := Lib.hid (BoxL.new w [.int .i64 W, .int .i64 H, .int .i64 M, .int .i64 G, (.slice (some ⟨g, 0, none⟩) ss.length cap)] 49)
  have HS0 : ClH w w.heap.size g k l (.slice (some ⟨g, 0, none⟩) ss.length cap) (siAt ss k).nm (siAt ss k).x (siAt ss k).y (siAt ss k).wh (siAt ss k).st (siAt ss l).nm (siAt ss l).x (siAt ss l).y (siAt ss l).wh (siAt ss l).st (w.alloc (.cells #[.int .i64 W, .int .i64 H, .int .i64 M, .int .i64 G, (.slice (some ⟨g, 0, none⟩) ss.length cap)] 49)) := by
    have hb : Below w.heap.size w (w.alloc (.cells #[.int .i64 W, .int .i64 H, .int .i64 M, .int .i64 G, (.slice (some ⟨g, 0, none⟩) ss.length cap)] 49)) := bA (bR w) _
    exact ⟨X.out.c5.2.2.2.2.1, (hb.cell (p := ⟨g, k * 5, none⟩) hg).trans c0, (hb.cell (p := ⟨g, k * 5 + 1, none⟩) hg).trans c1, (hb.cell (p := ⟨g, k * 5 + 2, none⟩) hg).trans c2, (hb.cell (p := ⟨g, k * 5 + 3, none⟩) hg).trans c3, (hb.cell (p := ⟨g, k * 5 + 4, none⟩) hg).trans c4,
      (hb.cell (p := ⟨g, l * 5, none⟩) hg).trans d0, (hb.cell (p := ⟨g, l * 5 + 1, none⟩) hg).trans d1, (hb.cell (p := ⟨g, l * 5 + 2, none⟩) hg).trans d2', (hb.cell (p := ⟨g, l * 5 + 3, none⟩) hg).trans d3, (hb.cell (p := ⟨g, l * 5 + 4, none⟩) hg).trans d4, X.out.lt, Nat.lt_of_lt_of_le hg hb.size, hb⟩
  clear c0 c1 c2 c3 c4 d0 d1 d2' d3 d4 X
  generalize (siAt ss k).nm = n1 at *
  generalize (siAt ss k).x = x1 at *
  generalize (siAt ss k).y = y1 at *
  generalize (siAt ss k).wh = wh1 at *
  generalize (siAt ss k).st = st1 at *
  generalize (siAt ss l).nm = n2 at *
  generalize (siAt ss l).x = x2 at *
  generalize (siAt ss l).y = y2 at *
  generalize (siAt ss l).wh = wh2 at *
  generalize (siAt ss l).st = st2 at *
  obtain ⟨⟨a1, a2⟩, ⟨a3, a4⟩, ⟨a5, a6⟩, ⟨a7, a8⟩⟩ := k1
  obtain ⟨⟨b1, b2⟩, ⟨b3, b4⟩, ⟨b5, b6⟩, ⟨b7, b8⟩⟩ := k2
  obtain ⟨⟨q1, q2⟩, ⟨q3, q4⟩, q5, q6⟩ := clN_bd ⟨a1, a2⟩ ⟨a3, a4⟩ ⟨a5, a6⟩ ⟨b1, b2⟩ ⟨b3, b4⟩ ⟨b7, b8⟩
  have HD := Lib.hid (l09Square_any x1 y1 x2 y2 · ⟨a1, a2⟩ ⟨a3, a4⟩ ⟨b1, b2⟩ ⟨b3, b4⟩)
  have HN := Lib.hid (show rt (d2 x1 y1 x2 y2) - wh1 - st2 = clN x1 y1 wh1 x2 y2 st2 from rfl)
  have HR := Lib.hid (fun W => l09Root_any (d2 x1 y1 x2 y2) W q1 (by omega))
  generalize d2 x1 y1 x2 y2 = d at *
  generalize rt d = r at *
  have g1 : IntKind.i64.wrap (r - wh1) = r - wh1 := IntWalk.i64_in _ (by omega)
  have g2 : IntKind.i64.wrap (r - wh1 - st2) = r - wh1 - st2 := IntWalk.i64_in _ (by omega)
  go_enter Try.func53, Try.ntmps53
  go_wp2_with fail
  generalize w.alloc (.cells #[.int .i64 W, .int .i64 H, .int .i64 M, .int .i64 G, (.slice (some ⟨g, 0, none⟩) ss.length cap)] 49) = W1 at *
  generalize hbx : w.heap.size = bx at HS0 ⊢
  have HBX := Lib.hid hbx
  clear hbx
  go_region_held3 (fun w' => w'.cell? ⟨bx, 4, none⟩ = some (.slice (some ⟨g, 0, none⟩) ss.length cap) ∧ w'.cell? ⟨g, k * 5, none⟩ = some (.string n1) ∧ w'.cell? ⟨g, k * 5 + 1, none⟩ = some (.int .i64 x1) ∧ w'.cell? ⟨g, k * 5 + 2, none⟩ = some (.int .i64 y1) ∧ w'.cell? ⟨g, k * 5 + 3, none⟩ = some (.int .i64 wh1) ∧ w'.cell? ⟨g, k * 5 + 4, none⟩ = some (.int .i64 st1) ∧ w'.cell? ⟨g, l * 5, none⟩ = some (.string n2) ∧ w'.cell? ⟨g, l * 5 + 1, none⟩ = some (.int .i64 x2) ∧ w'.cell? ⟨g, l * 5 + 2, none⟩ = some (.int .i64 y2) ∧ w'.cell? ⟨g, l * 5 + 3, none⟩ = some (.int .i64 wh2) ∧ w'.cell? ⟨g, l * 5 + 4, none⟩ = some (.int .i64 st2) ∧ bx < w'.heap.size ∧ g < w'.heap.size ∧ Below w.heap.size w w') (first | exact HS0.drew | assumption | exact ClH.keep hb (by first | assumption | exact HS0.drew))
    (first
      | (go_at_call 82; refine (HD.out _).mono ?_; rintro e w' ⟨rfl, hb⟩)
      | (go_at_call 81; refine (HR.out _).mono ?_; rintro e w' ⟨rfl, rfl⟩))
  have HT : ClH w bx g k l (.slice (some ⟨g, 0, none⟩) ss.length cap) n1 x1 y1 wh1 st1 n2 x2 y2 wh2 st2 w' := by assumption
  have HU := Lib.hid HT.2.2.2.2.2.2.2.2.2.2.2.2.2
  clear hb HT HS0
  go_wp2_with fail
  go_ret
  exact ⟨ret_int HN.out, HU.out⟩
/-- Two sites in the boxes of a call. -/
def ClV (W0 : World) (b1 b2 : Nat) (n1 : ByteArray) (x1 y1 wh1 st1 : Int) (n2 : ByteArray) (x2 y2 wh2 st2 : Int) (w' : World) : Prop :=
  w'.cell? ⟨b1, 0, none⟩ = some (.string n1) ∧ w'.cell? ⟨b1, 1, none⟩ = some (.int .i64 x1) ∧ w'.cell? ⟨b1, 2, none⟩ = some (.int .i64 y1) ∧ w'.cell? ⟨b1, 3, none⟩ = some (.int .i64 wh1) ∧ w'.cell? ⟨b1, 4, none⟩ = some (.int .i64 st1) ∧ w'.cell? ⟨b2, 0, none⟩ = some (.string n2) ∧ w'.cell? ⟨b2, 1, none⟩ = some (.int .i64 x2) ∧ w'.cell? ⟨b2, 2, none⟩ = some (.int .i64 y2) ∧ w'.cell? ⟨b2, 3, none⟩ = some (.int .i64 wh2) ∧ w'.cell? ⟨b2, 4, none⟩ = some (.int .i64 st2) ∧ b1 < w'.heap.size ∧ b2 < w'.heap.size ∧ Below W0.heap.size W0 w'
theorem ClV.keep {W0 : World} {b1 b2 : Nat} {n1 : ByteArray} {x1 y1 wh1 st1 : Int} {n2 : ByteArray} {x2 y2 wh2 st2 : Int} {w' w2 : World} (hb : Below w'.heap.size w' w2) (h : ClV W0 b1 b2 n1 x1 y1 wh1 st1 n2 x2 y2 wh2 st2 w') : ClV W0 b1 b2 n1 x1 y1 wh1 st1 n2 x2 y2 wh2 st2 w2 := by
  obtain ⟨c0, c1, c2, c3, c4, d0, d1, d2, d3, d4, e1, e2, e3⟩ := h
  exact ⟨(hb.cell (p := ⟨b1, 0, none⟩) e1).trans c0, (hb.cell (p := ⟨b1, 1, none⟩) e1).trans c1, (hb.cell (p := ⟨b1, 2, none⟩) e1).trans c2, (hb.cell (p := ⟨b1, 3, none⟩) e1).trans c3, (hb.cell (p := ⟨b1, 4, none⟩) e1).trans c4, (hb.cell (p := ⟨b2, 0, none⟩) e2).trans d0, (hb.cell (p := ⟨b2, 1, none⟩) e2).trans d1, (hb.cell (p := ⟨b2, 2, none⟩) e2).trans d2, (hb.cell (p := ⟨b2, 3, none⟩) e2).trans d3, (hb.cell (p := ⟨b2, 4, none⟩) e2).trans d4, Nat.lt_of_lt_of_le e1 hb.size, Nat.lt_of_lt_of_le e2 hb.size, bT e3 hb⟩
theorem ClV.drew {W0 : World} {b1 b2 : Nat} {n1 : ByteArray} {x1 y1 wh1 st1 : Int} {n2 : ByteArray} {x2 y2 wh2 st2 : Int} {w' : World} (h : ClV W0 b1 b2 n1 x1 y1 wh1 st1 n2 x2 y2 wh2 st2 w') : ClV W0 b1 b2 n1 x1 y1 wh1 st1 n2 x2 y2 wh2 st2 w'.drew := h.keep (bR _).drew
theorem ClV.of {W0 w' : World} {b1 b2 : Nat} {n1 : ByteArray} {x1 y1 wh1 st1 : Int} {n2 : ByteArray} {x2 y2 wh2 st2 : Int} (h1 : BoxL w' b1 [.string n1, .int .i64 x1, .int .i64 y1, .int .i64 wh1, .int .i64 st1]) (h2 : BoxL w' b2 [.string n2, .int .i64 x2, .int .i64 y2, .int .i64 wh2, .int .i64 st2]) (h3 : Below W0.heap.size W0 w') : ClV W0 b1 b2 n1 x1 y1 wh1 st1 n2 x2 y2 wh2 st2 w' := by
  obtain ⟨c0, c1, c2, c3, c4, c5⟩ := h1.c5
  obtain ⟨d0, d1, d2, d3, d4, d5⟩ := h2.c5
  exact ⟨c0, c1, c2, c3, c4, d0, d1, d2, d3, d4, c5, d5, h3⟩
set_option maxRecDepth 100000 in
set_option maxHeartbeats 8000000 in
theorem clearanceTo_any (n1 : ByteArray) (x1 y1 wh1 st1 : Int) (n2 : ByteArray) (x2 y2 wh2 st2 : Int) (w : World) (h1 : 0 ≤ x1 ∧ x1 ≤ 10000) (h2 : 0 ≤ y1 ∧ y1 ≤ 10000) (h3 : 1 ≤ wh1 ∧ wh1 ≤ 10000) (h4 : 0 ≤ x2 ∧ x2 ≤ 10000) (h5 : 0 ≤ y2 ∧ y2 ≤ 10000) (h6 : 1 ≤ st2 ∧ st2 ≤ 1000) :
    Calls Try.prog 56 #[.agg #[.string n1, .int .i64 x1, .int .i64 y1, .int .i64 wh1, .int .i64 st1], .agg #[.string n2, .int .i64 x2, .int .i64 y2, .int .i64 wh2, .int .i64 st2]] w (IntBelC (clN x1 y1 wh1 x2 y2 st2) w) := by
  obtain ⟨⟨q1, q2⟩, ⟨q3, q4⟩, q5, q6⟩ := clN_bd h1 h2 h3 h4 h5 h6
  have HD := Lib.hid (squaredTo_any x1 y1 x2 y2 · h1 h2 h4 h5)
  have HN := Lib.hid (show rt (d2 x1 y1 x2 y2) - wh1 - st2 = clN x1 y1 wh1 x2 y2 st2 from rfl)
  have HR := Lib.hid (fun W => rootOf_any (d2 x1 y1 x2 y2) W q1 (by omega))
  generalize d2 x1 y1 x2 y2 = d at *
  generalize rt d = r at *
  have g1 : IntKind.i64.wrap (r - wh1) = r - wh1 := IntWalk.i64_in _ (by omega)
  have g2 : IntKind.i64.wrap (r - wh1 - st2) = r - wh1 - st2 := IntWalk.i64_in _ (by omega)
  have HS0 : ClV w w.heap.size (w.heap.size + 1) n1 x1 y1 wh1 st1 n2 x2 y2 wh2 st2 ((w.alloc (.cells #[.string n1, .int .i64 x1, .int .i64 y1, .int .i64 wh1, .int .i64 st1] 90)).alloc (.cells #[.string n2, .int .i64 x2, .int .i64 y2, .int .i64 wh2, .int .i64 st2] 90)) :=
    ClV.of ((BoxL.new w [.string n1, .int .i64 x1, .int .i64 y1, .int .i64 wh1, .int .i64 st1] 90).alloc _) (BoxL.at_ (vs := [.string n2, .int .i64 x2, .int .i64 y2, .int .i64 wh2, .int .i64 st2]) (by simp)) (bA (bA (bR _) _) _)
  go_enter Try.func56, Try.ntmps56
  go_wp2_with fail
  generalize (w.alloc (.cells #[.string n1, .int .i64 x1, .int .i64 y1, .int .i64 wh1, .int .i64 st1] 90)).alloc (.cells #[.string n2, .int .i64 x2, .int .i64 y2, .int .i64 wh2, .int .i64 st2] 90) = W1 at *
  generalize w.heap.size + 1 = b2 at *
  generalize hbx : w.heap.size = b1 at HS0 ⊢
  have HBX := Lib.hid hbx
  clear hbx
  go_region_held3 (fun w' => w'.cell? ⟨b1, 0, none⟩ = some (.string n1) ∧ w'.cell? ⟨b1, 1, none⟩ = some (.int .i64 x1) ∧ w'.cell? ⟨b1, 2, none⟩ = some (.int .i64 y1) ∧ w'.cell? ⟨b1, 3, none⟩ = some (.int .i64 wh1) ∧ w'.cell? ⟨b1, 4, none⟩ = some (.int .i64 st1) ∧ w'.cell? ⟨b2, 0, none⟩ = some (.string n2) ∧ w'.cell? ⟨b2, 1, none⟩ = some (.int .i64 x2) ∧ w'.cell? ⟨b2, 2, none⟩ = some (.int .i64 y2) ∧ w'.cell? ⟨b2, 3, none⟩ = some (.int .i64 wh2) ∧ w'.cell? ⟨b2, 4, none⟩ = some (.int .i64 st2) ∧ b1 < w'.heap.size ∧ b2 < w'.heap.size ∧ Below w.heap.size w w') (first | exact HS0.drew | assumption | exact ClV.keep hb (by first | assumption | exact HS0.drew))
    (first
      | (go_at_call 89; refine (HD.out _).mono ?_; rintro e w' ⟨rfl, hb⟩)
      | (go_at_call 88; refine (HR.out _).mono ?_; rintro e w' ⟨rfl, rfl⟩))
  have HT : ClV w b1 b2 n1 x1 y1 wh1 st1 n2 x2 y2 wh2 st2 w' := by assumption
  have HU := Lib.hid HT.2.2.2.2.2.2.2.2.2.2.2.2
  clear hb HT HS0
  go_wp2_with fail
  go_ret
  exact ⟨ret_int HN.out, HU.out⟩
end Go.Proofs.Ytgkfelochpllgaa

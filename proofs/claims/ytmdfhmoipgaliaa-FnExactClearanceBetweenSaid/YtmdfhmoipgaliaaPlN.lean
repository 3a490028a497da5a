/-
  ClearanceBetween: the program's side.
-/
import Derived.Test.YtmdfhmoipgaliaaPlL
namespace Go.Proofs.Ytmdfhmoipgaliaa
open Go.RowKit

set_option maxRecDepth 100000 in
set_option maxHeartbeats 8000000 in
theorem ClearanceBetweenI_any (p : Pl4) (ss : List Sit) (v : Value) (a b : Int) (w : World) (ha : SlSi w v ss) (ha1 : -9223372036854775808 ≤ a) (ha2 : a ≤ 9223372036854775807) (hb1 : -9223372036854775808 ≤ b) (hb2 : b ≤ 9223372036854775807) :
    Calls Try.prog 34 #[plV p v, .int .i64 a, .int .i64 b] w (TwoB (cbF p.W p.H p.M p.G ss a b) w) := by
  obtain ⟨W, H, M, G⟩ := p
  obtain ⟨h0, ao, cap, rfl, hcp, hc⟩ := ha
  unfold plV
  simp only
  have X := Lib.hid (BoxL.new w [.int .i64 W, .int .i64 H, .int .i64 M, .int .i64 G, .slice ao ss.length cap] 45)
  have L0 := Lib.hid (bA (bR w) (.cells #[.int .i64 W, .int .i64 H, .int .i64 M, .int .i64 G, .slice ao ss.length cap] 45))
  have HA := Lib.hid (SlSi.keep (show SlSi w (.slice ao ss.length cap) ss from ⟨h0, ao, cap, rfl, hcp, hc⟩) L0.out)
  have HV := Lib.hid (fun W' (h : SlSi W' (.slice ao ss.length cap) ss) => ValidPlateI_any ⟨W, H, M, G⟩ ss (.slice ao ss.length cap) W' h)
  unfold plV at HV
  simp only at HV
  clear hc hcp
  cases hok : okPl W H M G ss
  · rw [cb_1 hok]
    rw [hok] at HV
    go_enter Try.func34, Try.ntmps34
    go_wp2_with fail
    refine (HV.out _ HA.out).mono ?_
    rintro e w1 ⟨rfl, hb⟩
    go_wp2_with fail
    go_ret2
    exact ⟨rfl, bT L0.out hb⟩
  rw [hok] at HV
  have h20 := (okPl_parts hok).2.2.2.2.1
  have HH := Lib.hid (fun W' (h : SlSi W' (.slice ao ss.length cap) ss) (a : Int) (h1 : -9223372036854775808 ≤ a) (h2 : a ≤ 9223372036854775807) => hasSite_any W H M G ss (.slice ao ss.length cap) a W' h h1 h2)
  cases q1 : inB a 0 ((ss.length : Int) - 1)
  · rw [cb_2 hok (.inl q1)]
    go_enter Try.func34, Try.ntmps34
    go_wp2_with fail
    refine (HV.out _ HA.out).mono ?_
    rintro e w1 ⟨rfl, hb⟩
    have L1 := Lib.hid (bT L0.out hb)
    have H1 := Lib.hid (HA.out.keep hb)
    have X1 := Lib.hid (X.out.keep hb)
    obtain ⟨x0, x1, x2, x3, x4, x5⟩ := (X.out.keep hb).c5
    clear hb
    go_wp2_with fail
    refine (HH.out _ H1.out a ha1 ha2).mono ?_
    rw [q1]
    rintro e w2 ⟨rfl, hb⟩
    go_wp2_with fail
    go_ret2
    exact ⟨rfl, bT L1.out hb⟩
  cases q2 : inB b 0 ((ss.length : Int) - 1)
  · rw [cb_2 hok (.inr (.inl q2))]
    go_enter Try.func34, Try.ntmps34
    go_wp2_with fail
    refine (HV.out _ HA.out).mono ?_
    rintro e w1 ⟨rfl, hb⟩
    have L1 := Lib.hid (bT L0.out hb)
    have H1 := Lib.hid (HA.out.keep hb)
    have X1 := Lib.hid (X.out.keep hb)
    obtain ⟨x0, x1, x2, x3, x4, x5⟩ := (X.out.keep hb).c5
    clear hb
    go_wp2_with fail
    refine (HH.out _ H1.out a ha1 ha2).mono ?_
    rw [q1]
    rintro e w2 ⟨rfl, hb⟩
    have L2 := Lib.hid (bT L1.out hb)
    have H2 := Lib.hid (H1.out.keep hb)
    clear x0 x1 x2 x3 x4 x5
    obtain ⟨x0, x1, x2, x3, x4, x5⟩ := (X1.out.keep hb).c5
    clear hb
    go_wp2_with fail
    refine (HH.out _ H2.out b hb1 hb2).mono ?_
    rw [q2]
    rintro e w3 ⟨rfl, hb⟩
    go_wp2_with fail
    go_ret2
    exact ⟨rfl, bT L2.out hb⟩
  by_cases q3 : a = b
  · rw [cb_2 hok (.inr (.inr q3))]
    subst q3
    go_enter Try.func34, Try.ntmps34
    go_wp2_with fail
    refine (HV.out _ HA.out).mono ?_
    rintro e w1 ⟨rfl, hb⟩
    have L1 := Lib.hid (bT L0.out hb)
    have H1 := Lib.hid (HA.out.keep hb)
    have X1 := Lib.hid (X.out.keep hb)
    obtain ⟨x0, x1, x2, x3, x4, x5⟩ := (X.out.keep hb).c5
    clear hb
    go_wp2_with fail
    refine (HH.out _ H1.out a ha1 ha2).mono ?_
    rw [q1]
    rintro e w2 ⟨rfl, hb⟩
    have L2 := Lib.hid (bT L1.out hb)
    have H2 := Lib.hid (H1.out.keep hb)
    clear x0 x1 x2 x3 x4 x5
    obtain ⟨x0, x1, x2, x3, x4, x5⟩ := (X1.out.keep hb).c5
    clear hb
    go_wp2_with fail
    refine (HH.out _ H2.out a hb1 hb2).mono ?_
    rw [q2]
    rintro e w3 ⟨rfl, hb⟩
    go_wp2_with fail
    go_ret2
    exact ⟨rfl, bT L2.out hb⟩
  have q3' : (a == b) = false := by simpa using q3
  obtain ⟨k, rfl, hk⟩ := hasI_nat q1
  obtain ⟨l, rfl, hl⟩ := hasI_nat q2
  rw [cb_3 hok hk hl q3]
  have k1 := cl_bd hok hk
  have k2 := cl_bd hok hl
  rw [clS_eq]
  go_enter Try.func34, Try.ntmps34
  go_wp2_with fail
  refine (HV.out _ HA.out).mono ?_
  rintro e w1 ⟨rfl, hb⟩
  have L1 := Lib.hid (bT L0.out hb)
  have H1 := Lib.hid (HA.out.keep hb)
  have X1 := Lib.hid (X.out.keep hb)
  clear hb
  obtain ⟨x0, x1, x2, x3, x4, x5⟩ := X1.out.c5
  go_wp2_with fail
  refine (HH.out _ H1.out k ha1 ha2).mono ?_
  rw [q1]
  rintro e w2 ⟨rfl, hb⟩
  have L2 := Lib.hid (bT L1.out hb)
  have H2 := Lib.hid (H1.out.keep hb)
  have X2 := Lib.hid (X1.out.keep hb)
  clear hb x0 x1 x2 x3 x4 x5
  obtain ⟨x0, x1, x2, x3, x4, x5⟩ := X2.out.c5
  go_wp2_with fail
  refine (HH.out _ H2.out l hb1 hb2).mono ?_
  rw [q2]
  rintro e w3 ⟨rfl, hb⟩
  have L3 := Lib.hid (bT L2.out hb)
  have H3 := Lib.hid (H2.out.keep hb)
  have X3 := Lib.hid (X2.out.keep hb)
  clear hb x0 x1 x2 x3 x4 x5
  obtain ⟨_, ao', cap', e', _, hc⟩ := H3.out
  injection e' with e1 e2 e3
  subst e1 e3
  obtain ⟨g, rfl, hg, hc⟩ := hc (by omega)
  obtain ⟨c0, c1, c2, c3, c4, _⟩ := hc k hk
  obtain ⟨d0, d1, d2', d3, d4, _⟩ := hc l hl
  have HS0 : ClH w w.heap.size g k l (.slice (some ⟨g, 0, none⟩) ss.length cap) (siAt ss k).nm (siAt ss k).x (siAt ss k).y (siAt ss k).wh (siAt ss k).st (siAt ss l).nm (siAt ss l).x (siAt ss l).y (siAt ss l).wh (siAt ss l).st w3 :=
    ⟨X3.out.c5.2.2.2.2.1, c0, c1, c2, c3, c4, d0, d1, d2', d3, d4, X3.out.lt, hg, L3.out⟩
  clear hc c0 c1 c2 c3 c4 d0 d1 d2' d3 d4 X X1 X2 X3 L0 L1 L2 L3 H1 H2 H3 HA HH HV
  generalize (siAt ss k).nm = n1 at *
  generalize (siAt ss k).x = x1 at *
  generalize (siAt ss k).y = y1 at *
  generalize (siAt ss k).wh = wh1 at *
  generalize (siAt ss k).st = st1 at *
  generalize (siAt ss l).nm = n2 at *
  generalize (siAt ss l).x = x2 at *
  generalize (siAt ss l).y = y2 at *
  generalize (siAt ss l).wh = wh2 at *
  generalize (siAt ss l).st = st2 at *
  obtain ⟨⟨a1, a2⟩, ⟨a3, a4⟩, ⟨a5, a6⟩, ⟨a7, a8⟩⟩ := k1
  obtain ⟨⟨b1, b2⟩, ⟨b3, b4⟩, ⟨b5, b6⟩, ⟨b7, b8⟩⟩ := k2
  have HC := Lib.hid (fun W' => clearanceTo_any n1 x1 y1 wh1 st1 n2 x2 y2 wh2 st2 W' ⟨a1, a2⟩ ⟨a3, a4⟩ ⟨a5, a6⟩ ⟨b1, b2⟩ ⟨b3, b4⟩ ⟨b7, b8⟩)
  have hx4 := HS0.1
  go_upto_region 5 with fail
  generalize hbx : w.heap.size = bx at HS0 hx4 ⊢
  have HBX := Lib.hid hbx
  clear hbx
  go_region_held3 (fun w' => w'.cell? ⟨bx, 4, none⟩ = some (.slice (some ⟨g, 0, none⟩) ss.length cap) ∧ w'.cell? ⟨g, k * 5, none⟩ = some (.string n1) ∧ w'.cell? ⟨g, k * 5 + 1, none⟩ = some (.int .i64 x1) ∧ w'.cell? ⟨g, k * 5 + 2, none⟩ = some (.int .i64 y1) ∧ w'.cell? ⟨g, k * 5 + 3, none⟩ = some (.int .i64 wh1) ∧ w'.cell? ⟨g, k * 5 + 4, none⟩ = some (.int .i64 st1) ∧ w'.cell? ⟨g, l * 5, none⟩ = some (.string n2) ∧ w'.cell? ⟨g, l * 5 + 1, none⟩ = some (.int .i64 x2) ∧ w'.cell? ⟨g, l * 5 + 2, none⟩ = some (.int .i64 y2) ∧ w'.cell? ⟨g, l * 5 + 3, none⟩ = some (.int .i64 wh2) ∧ w'.cell? ⟨g, l * 5 + 4, none⟩ = some (.int .i64 st2) ∧ bx < w'.heap.size ∧ g < w'.heap.size ∧ Below w.heap.size w w') (first | exact HS0.drew | assumption | exact ClH.keep hb (by first | assumption | exact HS0.drew))
    (first
      | (go_at_call 65; refine (HC.out _).mono ?_; rintro e w' ⟨rfl, hb⟩))
  have HT : ClH w bx g k l (.slice (some ⟨g, 0, none⟩) ss.length cap) n1 x1 y1 wh1 st1 n2 x2 y2 wh2 st2 w' := by assumption
  have HU := Lib.hid HT.2.2.2.2.2.2.2.2.2.2.2.2.2
  clear hb HT HS0
  go_wp2_with fail
  go_ret2
  exact ⟨rfl, HU.out⟩
end Go.Proofs.Ytmdfhmoipgaliaa

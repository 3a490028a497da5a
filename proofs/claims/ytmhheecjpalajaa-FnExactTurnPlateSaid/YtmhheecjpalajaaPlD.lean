/-
  The model's conversions of plates: laws.toPlate, eqSiteS, eqPlate.
-/
import Derived.Test.YtmhheecjpalajaaPlC
namespace Go.Proofs.Ytmhheecjpalajaa
open Go.RowKit

/-- What toPlate returns. -/
def ToPlRet (w : World) (p : Pl4) (ss : List Sit) (e : Ending) (w' : World) : Prop := ∃ v, e = .returned (plV p v) ∧ OwSi w.heap.size w' v ss ∧ Below w.heap.size w w'
set_option maxRecDepth 100000 in
set_option maxHeartbeats 4000000 in
theorem toPlate_any (v : Value) (p : Pl4) (ss : List Sit) (w : World) (h : IsPt w v p ss) (hl : ss.length ≤ 1048576) :
    Calls Try.prog 9 #[v] w (ToPlRet w p ss) := by
  obtain ⟨a, len, cap, rfl, hA⟩ := h
  obtain ⟨W, H, M, G⟩ := p
  unfold plV
  have A2 := Lib.hid ((BoxL.at_ (w := w.alloc (.cells #[.int .i64 W, .int .i64 H, .int .i64 M, .int .i64 G, .slice a len cap] 24)) (b := w.heap.size + 1) (vs := [.int .i64 0, .int .i64 0, .int .i64 0, .int .i64 0, .slice none 0 0]) (T := 28) (by simp)).alloc (.cells #[.int .i64 W, .int .i64 H, .int .i64 M, .int .i64 G, .slice none 0 0] 28))
  have A3 := Lib.hid (BoxL.at_ (w := (w.alloc (.cells #[.int .i64 W, .int .i64 H, .int .i64 M, .int .i64 G, .slice a len cap] 24)).alloc (.cells #[.int .i64 0, .int .i64 0, .int .i64 0, .int .i64 0, .slice none 0 0] 28)) (b := w.heap.size + 1 + 1) (vs := [.int .i64 W, .int .i64 H, .int .i64 M, .int .i64 G, .slice none 0 0]) (T := 28) (by simp))
  have L0 := Lib.hid (bA (bA (bA (bR w) (.cells #[.int .i64 W, .int .i64 H, .int .i64 M, .int .i64 G, .slice a len cap] 24)) (.cells #[.int .i64 0, .int .i64 0, .int .i64 0, .int .i64 0, .slice none 0 0] 28)) (.cells #[.int .i64 W, .int .i64 H, .int .i64 M, .int .i64 G, .slice none 0 0] 28))
  have HA := Lib.hid (hA.keep L0.out)
  clear hA
  go_enter Try.func9, Try.ntmps9
  go_wp2_with fail
  generalize ((w.alloc (.cells #[.int .i64 W, .int .i64 H, .int .i64 M, .int .i64 G, .slice a len cap] 24)).alloc (.cells #[.int .i64 0, .int .i64 0, .int .i64 0, .int .i64 0, .slice none 0 0] 28)).alloc (.cells #[.int .i64 W, .int .i64 H, .int .i64 M, .int .i64 G, .slice none 0 0] 28) = W0 at *
  refine (toSiteS_any a len cap ss _ HA.out hl).mono ?_
  rintro e w1 ⟨rfl, hu, hb⟩
  have L1 := Lib.hid (bT L0.out hb)
  obtain ⟨z0, z1, z2, z3, z4, z5⟩ := (A2.out.keep hb).c5
  obtain ⟨y0, y1, y2, y3, y4⟩ := (A2.out.keep hb).f5
  obtain ⟨u0, u1, u2, u3, u4, u5⟩ := (A3.out.keep hb).c5
  obtain ⟨v0, v1, v2, v3, v4⟩ := (A3.out.keep hb).f5
  have hlt := A3.out.lt
  have P1 := Lib.hid hu
  clear hb hu A2 A3 L0 HA
  generalize W0.heap.size = g at *
  generalize hb3 : w.heap.size + 1 + 1 = b3 at *
  generalize hb2 : w.heap.size + 1 = b2 at *
  have hn23 : ¬ b2 = b3 := by omega
  have hn32 : ¬ b3 = b2 := by omega
  have hl2 : w.heap.size ≤ b2 := by omega
  have hl3 : w.heap.size ≤ b3 := by omega
  have hg2 : b2 < g := by omega
  have hg3 : b3 < g := hlt
  have hg : w.heap.size ≤ g := by omega
  have PF := Lib.hid ((((((P1.out.other (b := b3) (o := 4) (x := .slice (some ⟨g, 0, none⟩) ss.length ss.length) hg3).other (b := b2) (o := 0) (x := .int .i64 W) hg2).other (b := b2) (o := 1) (x := .int .i64 H) hg2).other (b := b2) (o := 2) (x := .int .i64 M) hg2).other (b := b2) (o := 3) (x := .int .i64 G) hg2).other (b := b2) (o := 4) (x := .slice (some ⟨g, 0, none⟩) ss.length ss.length) hg2)
  go_wp2_with fail
  refine bodyPost_ret (v := .agg #[.int .i64 W, .int .i64 H, .int .i64 M, .int .i64 G, .slice (some ⟨g, 0, none⟩) ss.length ss.length]) ?_ rfl ⟨_, rfl, PF.out.low hg, ((((((L1.out.setCell hl3 _).setCell hl2 _).setCell hl2 _).setCell hl2 _).setCell hl2 _).setCell hl2 _)⟩
  simp [results, Try.results9, go_sem, z0, z1, z2, z3, z4]
def EqHS (w : World) (g g2 i : Nat) (nm : ByteArray) (x y wh st : Int) (w' : World) : Prop :=
  w'.cell? ⟨g, i, none⟩ = some (.string nm) ∧ w'.cell? ⟨g, i + 1, none⟩ = some (.int .i64 x) ∧ w'.cell? ⟨g, i + 2, none⟩ = some (.int .i64 y) ∧ w'.cell? ⟨g, i + 3, none⟩ = some (.int .i64 wh) ∧ w'.cell? ⟨g, i + 4, none⟩ = some (.int .i64 st) ∧
  w'.cell? ⟨g2, i, none⟩ = some (.string nm) ∧ w'.cell? ⟨g2, i + 1, none⟩ = some (.int .i64 x) ∧ w'.cell? ⟨g2, i + 2, none⟩ = some (.int .i64 y) ∧ w'.cell? ⟨g2, i + 3, none⟩ = some (.int .i64 wh) ∧ w'.cell? ⟨g2, i + 4, none⟩ = some (.int .i64 st) ∧ g < w'.heap.size ∧ g2 < w'.heap.size ∧ Below w.heap.size w w'
theorem EqHS.keep {w : World} {g g2 i : Nat} {nm : ByteArray} {x y wh st : Int} {w' w2 : World} (hb : Below w'.heap.size w' w2) (h : EqHS w g g2 i nm x y wh st w') : EqHS w g g2 i nm x y wh st w2 := by
  obtain ⟨c0, c1, c2, c3, c4, d0, d1, d2, d3, d4, e1, e2, e3⟩ := h
  exact ⟨(hb.cell (p := ⟨g, i, none⟩) e1).trans c0, (hb.cell (p := ⟨g, i + 1, none⟩) e1).trans c1, (hb.cell (p := ⟨g, i + 2, none⟩) e1).trans c2, (hb.cell (p := ⟨g, i + 3, none⟩) e1).trans c3, (hb.cell (p := ⟨g, i + 4, none⟩) e1).trans c4,
    (hb.cell (p := ⟨g2, i, none⟩) e2).trans d0, (hb.cell (p := ⟨g2, i + 1, none⟩) e2).trans d1, (hb.cell (p := ⟨g2, i + 2, none⟩) e2).trans d2, (hb.cell (p := ⟨g2, i + 3, none⟩) e2).trans d3, (hb.cell (p := ⟨g2, i + 4, none⟩) e2).trans d4, Nat.lt_of_lt_of_le e1 hb.size, Nat.lt_of_lt_of_le e2 hb.size, bT e3 hb⟩
theorem EqHS.drew {w : World} {g g2 i : Nat} {nm : ByteArray} {x y wh st : Int} {w' : World} (h : EqHS w g g2 i nm x y wh st w') : EqHS w g g2 i nm x y wh st w'.drew := h.keep (bR _).drew
set_option maxHeartbeats 2000000 in
theorem eqSiteS_same (ss : List Sit) (va vb : Value) (w : World) (ha : SlSi w va ss) (hb : SlSi w vb ss) :
    Calls Try.prog 29 #[va, vb] w (BoolBel true w) := by
  obtain ⟨hmax, ao, cap, rfl, _, ha⟩ := ha
  obtain ⟨_, bo, bcap, rfl, _, hb⟩ := hb
  have HA := Lib.hid ha
  have HB := Lib.hid hb
  clear ha hb
  have hne : ((ss.length : Int) != (ss.length : Int)) = false := by simp
  go_enter Try.func29, Try.ntmps29
  go_wp2_with fail
  go_loopw [5] (fun i wr => ∃ (k : Nat), k ≤ ss.length ∧ i = .int .i64 k ∧ Below w.heap.size w wr) (fun i _ => ss.length - (intOf i).toNat)
  case atStart => exact ⟨0, by omega, rfl, bR _⟩
  case round =>
    obtain ⟨k, hk, rfl, hbw⟩ := hrel
    by_cases hlt : k < ss.length
    · obtain ⟨g, rfl, hg, hc⟩ := HA.out (by omega)
      obtain ⟨g2, rfl, hg2, hc2⟩ := HB.out (by omega)
      obtain ⟨c0, c1, c2, c3, c4, _⟩ := (hc.keep hg hbw) k hlt
      obtain ⟨d0, d1, d2, d3, d4, _⟩ := (hc2.keep hg2 hbw) k hlt
      have hs := hbw.size
      have hg' : g < wr.heap.size := by omega
      have hg2' : g2 < wr.heap.size := by omega
      have HBW := Lib.hid hbw
      clear hc hc2 HA HB hbw
      generalize (siAt ss k).nm = nm at *
      generalize (siAt ss k).x = x at *
      generalize (siAt ss k).y = y at *
      generalize (siAt ss k).wh = wh at *
      generalize (siAt ss k).st = st at *
      have HS : EqHS w g g2 (k * 5) nm x y wh st wr := ⟨c0, c1, c2, c3, c4, d0, d1, d2, d3, d4, hg', hg2', HBW.out⟩
      go_wp2_with fail
      go_region_held3 (fun w' => w'.cell? ⟨g, k * 5, none⟩ = some (.string nm) ∧ w'.cell? ⟨g, k * 5 + 1, none⟩ = some (.int .i64 x) ∧ w'.cell? ⟨g, k * 5 + 2, none⟩ = some (.int .i64 y) ∧ w'.cell? ⟨g, k * 5 + 3, none⟩ = some (.int .i64 wh) ∧ w'.cell? ⟨g, k * 5 + 4, none⟩ = some (.int .i64 st) ∧
          w'.cell? ⟨g2, k * 5, none⟩ = some (.string nm) ∧ w'.cell? ⟨g2, k * 5 + 1, none⟩ = some (.int .i64 x) ∧ w'.cell? ⟨g2, k * 5 + 2, none⟩ = some (.int .i64 y) ∧ w'.cell? ⟨g2, k * 5 + 3, none⟩ = some (.int .i64 wh) ∧ w'.cell? ⟨g2, k * 5 + 4, none⟩ = some (.int .i64 st) ∧ g < w'.heap.size ∧ g2 < w'.heap.size ∧ Below w.heap.size w w') (first | exact HS.drew | exact EqHS.keep hb (by assumption))
        ((go_at_call 52; refine (eqSite_same _ _ _ _ _ _).mono ?_; rintro e w' ⟨rfl, hb⟩))
      have HT : EqHS w g g2 (k * 5) nm x y wh st w' := by assumption
      have HU := Lib.hid HT.2.2.2.2.2.2.2.2.2.2.2.2
      clear hb HT HS
      go_wp2_with fail
      go_roundw
      case rel => exact ⟨k + 1, by omega, by go_num, HU.out⟩
      case measure => simp [intOf]; omega
    · go_wp2_with fail
      go_ret
      exact ⟨rfl, hbw⟩
set_option maxHeartbeats 1000000 in
theorem eqPlate_same (p : Pl4) (ss : List Sit) (u v : Value) (w : World) (ha : SlSi w u ss) (hb : SlSi w v ss) :
    Calls Try.prog 11 #[plV p u, plV p v] w (BoolBel true w) := by
  obtain ⟨_, a0, n0, rfl, _⟩ := id ha
  obtain ⟨_, a1, n1, rfl, _⟩ := id hb
  obtain ⟨W, H, M, G⟩ := p
  unfold plV
  have h0 : (W != W) = false := by simp
  have h1 : (H != H) = false := by simp
  have h2 : (M != M) = false := by simp
  have h3 : (G != G) = false := by simp
  have L0 := Lib.hid (bA (bA (bR w) (.cells #[.int .i64 W, .int .i64 H, .int .i64 M, .int .i64 G, .slice a0 ss.length n0] 28)) (.cells #[.int .i64 W, .int .i64 H, .int .i64 M, .int .i64 G, .slice a1 ss.length n1] 28))
  have HA := Lib.hid (ha.keep L0.out)
  have HB := Lib.hid (hb.keep L0.out)
  clear ha hb
  go_enter Try.func11, Try.ntmps11
  go_wp2_with fail
  refine (eqSiteS_same ss _ _ _ HA.out HB.out).mono ?_
  rintro e w1 ⟨rfl, hb⟩
  have L1 := Lib.hid (bT L0.out hb)
  clear hb
  go_wp2_with fail
  go_ret
  exact ⟨rfl, L1.out⟩
end Go.Proofs.Ytmhheecjpalajaa

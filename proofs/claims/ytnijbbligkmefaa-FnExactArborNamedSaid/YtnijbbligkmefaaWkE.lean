/-
  The model's conversions of works: laws.toWorks; laws.eqArbor, eqArborS, eqMesh, eqMeshS, eqWorks.
-/
import Derived.Test.YtnijbbligkmefaaWkD
namespace Go.Proofs.Ytnijbbligkmefaa
open Go.RowKit

/-- What toWorks returns. -/
def ToWRet (w : World) (rs : List Arb) (ms : List Msh) (e : Ending) (w' : World) : Prop := ∃ u v, e = .returned (.agg #[u, v]) ∧ SlAB w.heap.size w' u rs ∧ SlMB w.heap.size w' v ms ∧ Below w.heap.size w w'
set_option maxRecDepth 100000 in
set_option maxHeartbeats 4000000 in
theorem toWorks_any (v : Value) (rs : List Arb) (ms : List Msh) (w : World) (h : IsWk w v rs ms) (hl : WkLim rs ms) :
    Calls Try.prog 13 #[v] w (ToWRet w rs ms) := by
  obtain ⟨a, len, cap, a', len', cap', rfl, hA, hM⟩ := h
  obtain ⟨hl1, hl2, hl3⟩ := hl
  have A1 := Lib.hid (((BoxU.new w (.slice a len cap) (.slice a' len' cap') 25).alloc (.cells #[.slice none 0 0, .slice none 0 0] 31)).alloc (.cells #[.slice none 0 0, .slice none 0 0] 31))
  have A2 := Lib.hid ((BoxU.at_ (w := w.alloc (.cells #[.slice a len cap, .slice a' len' cap'] 25)) (b := w.heap.size + 1) (u := .slice none 0 0) (v := .slice none 0 0) (T := 31) (by simp)).alloc (.cells #[.slice none 0 0, .slice none 0 0] 31))
  have A3 := Lib.hid (BoxU.at_ (w := (w.alloc (.cells #[.slice a len cap, .slice a' len' cap'] 25)).alloc (.cells #[.slice none 0 0, .slice none 0 0] 31)) (b := w.heap.size + 1 + 1) (u := .slice none 0 0) (v := .slice none 0 0) (T := 31) (by simp))
  have L0 := Lib.hid (bA (bA (bA (bR w) (.cells #[.slice a len cap, .slice a' len' cap'] 25)) (.cells #[.slice none 0 0, .slice none 0 0] 31)) (.cells #[.slice none 0 0, .slice none 0 0] 31))
  have HA := Lib.hid (hA.keep L0.out)
  have HM := Lib.hid (hM.keep L0.out)
  have HMk := Lib.hid (fun W' (hb : Below w.heap.size w W') => hM.keep hb)
  have l3 := A3.out.lt
  have hle2 : w.heap.size < w.heap.size + 1 := by omega
  have hle3 : w.heap.size + 1 < w.heap.size + 1 + 1 := by omega
  clear hA hM
  go_enter Try.func13, Try.ntmps13
  go_wp2_with fail
  generalize ((w.alloc (.cells #[.slice a len cap, .slice a' len' cap'] 25)).alloc (.cells #[.slice none 0 0, .slice none 0 0] 31)).alloc (.cells #[.slice none 0 0, .slice none 0 0] 31) = W at *
  generalize w.heap.size + 1 + 1 = b3 at *
  generalize w.heap.size + 1 = b2 at *
  refine (toArborS_any a len cap rs _ HA.out hl1 hl2).mono ?_
  rintro e w1 ⟨u, rfl, hu, hb⟩
  obtain ⟨_, ao, uc, rfl, _⟩ := id hu
  have B1 := Lib.hid (A1.out.keep hb)
  have B2 := Lib.hid (A2.out.keep hb)
  have B3 := Lib.hid (A3.out.keep hb)
  have L1 := Lib.hid (bT L0.out hb)
  have P1 := Lib.hid hu
  have hg1 := hb.size
  clear hb hu A1 A2 A3 HA HM L0
  generalize W.heap.size = g at *
  have C1 := Lib.hid (B1.out.other (b' := b3) (o := 0) (x := .slice ao rs.length uc) (by omega))
  have C2 := Lib.hid (B2.out.other (b' := b3) (o := 0) (x := .slice ao rs.length uc) (by omega))
  have C3 := Lib.hid (B3.out.set0 (.slice ao rs.length uc))
  have P2 := Lib.hid (P1.out.other (b := b3) (o := 0) (x := .slice ao rs.length uc) (by omega))
  have L2 := Lib.hid (bsetW (b := b3) (o := 0) (v := .slice ao rs.length uc) L1.out (by omega))
  have HM2 := Lib.hid (HMk.out _ L2.out)
  have hg2 : g ≤ (w1.setCell ⟨b3, 0, none⟩ (.slice ao rs.length uc)).heap.size := by simpa [World.setCell] using hg1
  obtain ⟨x0, x1, x2, x3, x4⟩ := B3.out
  obtain ⟨y0, y1, y2, y3, y4⟩ := C1.out
  go_wp2_with fail
  clear x0 x1 x2 x3 x4 y0 y1 y2 y3 y4 B1 B2 B3 P1 L1 C1 hg1
  generalize w1.setCell ⟨b3, 0, none⟩ (.slice ao rs.length uc) = W2 at *
  refine (toMeshS_any a' len' cap' ms _ HM2.out hl3).mono ?_
  rintro e w3 ⟨v, rfl, hv, hb⟩
  obtain ⟨_, bo, vc, rfl, _⟩ := id hv
  have D2 := Lib.hid (C2.out.keep hb)
  have D3 := Lib.hid (C3.out.keep hb)
  have P3 := Lib.hid (P2.out.keep hb)
  have Q3 := Lib.hid (hv.low hg2)
  have L3 := Lib.hid (bT L2.out hb)
  clear hb hv C2 C3 P2 L2 HM2 hg2
  have E3 := Lib.hid (D3.out.set1 (.slice bo ms.length vc))
  have E2 := Lib.hid (D2.out.other (b' := b3) (o := 1) (x := .slice bo ms.length vc) (by omega))
  have F2 := Lib.hid ((E2.out.set0 (.slice ao rs.length uc)).set1 (.slice bo ms.length vc))
  have P5 := Lib.hid ((((P3.out.other (b := b3) (o := 1) (x := .slice bo ms.length vc) (by omega)).other (b := b2) (o := 0) (x := .slice ao rs.length uc) (by omega)).other (b := b2) (o := 1) (x := .slice bo ms.length vc) (by omega)).low (B' := w.heap.size) (by omega))
  have Q5 := Lib.hid ((((Q3.out.other (b := b3) (o := 1) (x := .slice bo ms.length vc) (by omega)).other (b := b2) (o := 0) (x := .slice ao rs.length uc) (by omega)).other (b := b2) (o := 1) (x := .slice bo ms.length vc) (by omega)).low (B' := w.heap.size) (by omega))
  have L5 := Lib.hid (bsetW (b := b2) (o := 1) (v := .slice bo ms.length vc) (bsetW (b := b2) (o := 0) (v := .slice ao rs.length uc) (bsetW (b := b3) (o := 1) (v := .slice bo ms.length vc) L3.out (by omega)) (by omega)) (by omega))
  obtain ⟨x0, x1, x2, x3, x4⟩ := D3.out
  obtain ⟨y0, y1, y2, y3, y4⟩ := E3.out
  obtain ⟨v0, v1, v2, v3, v4⟩ := E2.out
  obtain ⟨z0, z1, z2, z3, z4⟩ := F2.out
  go_wp2_with fail
  refine bodyPost_ret (v := .agg #[.slice ao rs.length uc, .slice bo ms.length vc]) ?_ rfl ⟨_, _, rfl, P5.out, Q5.out, L5.out⟩
  simp [results, Try.results13, go_sem, z0, z1]
/-! ### Equal works -/
set_option maxHeartbeats 1000000 in
theorem eqArbor_same (s : ByteArray) (ts : List Int) (u v : Value) (w : World) (hu : Sl64 w u ts) (hv : Sl64 w v ts) (hmax : ts.length ≤ 1048576) :
    Calls Try.prog 22 #[.agg #[.string s, u], .agg #[.string s, v]] w (BoolBel true w) := by
  have L0 := Lib.hid (bA (bA (bR w) (.cells #[.string s, u] 42)) (.cells #[.string s, v] 42))
  have HU := Lib.hid (hu.keep L0.out)
  have HV := Lib.hid (hv.keep L0.out)
  clear hu hv
  go_enter Try.func22, Try.ntmps22
  go_wp2_with fail
  refine (eq64_same ts u v _ HU.out HV.out (by omega)).mono ?_
  rintro e w1 ⟨rfl, n, rfl⟩
  go_wp2_with fail
  go_ret
  exact ⟨rfl, bD L0.out _⟩
theorem eqMesh_same (x0 x1 x2 x3 : Int) (w : World) :
    Calls Try.prog 86 #[.agg #[.int .i64 x0, .int .i64 x1, .int .i64 x2, .int .i64 x3], .agg #[.int .i64 x0, .int .i64 x1, .int .i64 x2, .int .i64 x3]] w (BoolBel true w) := by
  have h0 : (x0 != x0) = false := by simp
  have h1 : (x1 != x1) = false := by simp
  have h2 : (x2 != x2) = false := by simp
  have h3 : (x3 != x3) = false := by simp
  go_enter Try.func86, Try.ntmps86
  go_wp2_with fail
  go_ret
  exact ⟨rfl, bA (bA (bR _) _) _⟩
/-- What stands in a round. -/
def EqHA (w : World) (g g2 i : Nat) (s : ByteArray) (u v : Value) (ts : List Int) (w' : World) : Prop :=
  w'.cell? ⟨g, i, none⟩ = some (.string s) ∧ w'.cell? ⟨g, i + 1, none⟩ = some u ∧ w'.cell? ⟨g2, i, none⟩ = some (.string s) ∧ w'.cell? ⟨g2, i + 1, none⟩ = some v ∧ g < w'.heap.size ∧ g2 < w'.heap.size ∧ Sl64 w' u ts ∧ Sl64 w' v ts ∧ Below w.heap.size w w'
theorem EqHA.drew {w : World} {g g2 i : Nat} {s : ByteArray} {u v : Value} {ts : List Int} {w' : World} (h : EqHA w g g2 i s u v ts w') : EqHA w g g2 i s u v ts w'.drew :=
  ⟨h.1, h.2.1, h.2.2.1, h.2.2.2.1, h.2.2.2.2.1, h.2.2.2.2.2.1, h.2.2.2.2.2.2.1, h.2.2.2.2.2.2.2.1, h.2.2.2.2.2.2.2.2.drew⟩
theorem EqHA.keep {w : World} {g g2 i : Nat} {s : ByteArray} {u v : Value} {ts : List Int} {w' w2 : World} (hb : Below w'.heap.size w' w2) (h : EqHA w g g2 i s u v ts w') : EqHA w g g2 i s u v ts w2 := by
  obtain ⟨c0, c1, c2, c3, c4, c5, c6, c7, c8⟩ := h
  exact ⟨(hb.cell (p := ⟨g, i, none⟩) c4).trans c0, (hb.cell (p := ⟨g, i + 1, none⟩) c4).trans c1, (hb.cell (p := ⟨g2, i, none⟩) c5).trans c2, (hb.cell (p := ⟨g2, i + 1, none⟩) c5).trans c3, Nat.lt_of_lt_of_le c4 hb.size, Nat.lt_of_lt_of_le c5 hb.size, c6.keep hb, c7.keep hb, bT c8 hb⟩
set_option maxHeartbeats 2000000 in
theorem eqArborS_same (rs : List Arb) (va vb : Value) (w : World) (ha : SlA w va rs) (hb : SlA w vb rs) :
    Calls Try.prog 54 #[va, vb] w (BoolBel true w) := by
  obtain ⟨hmax, ao, cap, rfl, _, ha⟩ := ha
  obtain ⟨_, bo, bcap, rfl, _, hb⟩ := hb
  have HA := Lib.hid ha
  have HB := Lib.hid hb
  clear ha hb
  have hne : ((rs.length : Int) != (rs.length : Int)) = false := by simp
  go_enter Try.func54, Try.ntmps54
  go_wp2_with fail
  go_loopw [5] (fun i wr => ∃ (k : Nat), k ≤ rs.length ∧ i = .int .i64 k ∧ Below w.heap.size w wr) (fun i _ => rs.length - (intOf i).toNat)
  case atStart => exact ⟨0, by omega, rfl, bR _⟩
  case round =>
    obtain ⟨k, hk, rfl, hbw⟩ := hrel
    by_cases hlt : k < rs.length
    · obtain ⟨g, rfl, hg, hc⟩ := HA.out (by omega)
      obtain ⟨g2, rfl, hg2, hc2⟩ := HB.out (by omega)
      obtain ⟨c0, _, hts, u, c1, hu⟩ := (hc.keep hg hbw) k hlt
      obtain ⟨d0, _, _, v, d1, hv⟩ := (hc2.keep hg2 hbw) k hlt
      have hs := hbw.size
      have hg' : g < wr.heap.size := by omega
      have hg2' : g2 < wr.heap.size := by omega
      have HBW := Lib.hid hbw
      clear hc hc2 HA HB hbw
      generalize (arAt rs k).1 = s at *
      generalize (arAt rs k).2 = ts at *
      have HS : EqHA w g g2 (k * 2) s u v ts wr := ⟨c0, c1, d0, d1, hg', hg2', hu, hv, HBW.out⟩
      clear hu hv
      go_wp2_with fail
      go_region_held3 (fun w' => w'.cell? ⟨g, k * 2, none⟩ = some (.string s) ∧ w'.cell? ⟨g, k * 2 + 1, none⟩ = some u ∧ w'.cell? ⟨g2, k * 2, none⟩ = some (.string s) ∧ w'.cell? ⟨g2, k * 2 + 1, none⟩ = some v ∧ g < w'.heap.size ∧ g2 < w'.heap.size ∧ Sl64 w' u ts ∧ Sl64 w' v ts ∧ Below w.heap.size w w') (first | exact HS.drew | exact EqHA.keep hb (by assumption))
        ((go_at_call 22; refine (eqArbor_same _ ts _ _ _ (by first | assumption | exact HS.drew.2.2.2.2.2.2.1) (by first | assumption | exact HS.drew.2.2.2.2.2.2.2.1) hts).mono ?_; rintro e w' ⟨rfl, hb⟩))
      have HT : EqHA w g g2 (k * 2) s u v ts w' := by assumption
      have HU := Lib.hid HT.2.2.2.2.2.2.2.2
      clear hb HT HS
      go_wp2_with fail
      go_roundw
      case rel => exact ⟨k + 1, by omega, by go_num, HU.out⟩
      case measure => simp [intOf]; omega
    · go_wp2_with fail
      go_ret
      exact ⟨rfl, hbw⟩
def EqHM (w : World) (g g2 i : Nat) (x0 x1 x2 x3 : Int) (w' : World) : Prop :=
  w'.cell? ⟨g, i, none⟩ = some (.int .i64 x0) ∧ w'.cell? ⟨g, i + 1, none⟩ = some (.int .i64 x1) ∧ w'.cell? ⟨g, i + 2, none⟩ = some (.int .i64 x2) ∧ w'.cell? ⟨g, i + 3, none⟩ = some (.int .i64 x3) ∧
  w'.cell? ⟨g2, i, none⟩ = some (.int .i64 x0) ∧ w'.cell? ⟨g2, i + 1, none⟩ = some (.int .i64 x1) ∧ w'.cell? ⟨g2, i + 2, none⟩ = some (.int .i64 x2) ∧ w'.cell? ⟨g2, i + 3, none⟩ = some (.int .i64 x3) ∧ g < w'.heap.size ∧ g2 < w'.heap.size ∧ Below w.heap.size w w'
theorem EqHM.drew {w : World} {g g2 i : Nat} {x0 x1 x2 x3 : Int} {w' : World} (h : EqHM w g g2 i x0 x1 x2 x3 w') : EqHM w g g2 i x0 x1 x2 x3 w'.drew := by
  obtain ⟨c0, c1, c2, c3, c4, c5, c6, c7, c8, c9, c10⟩ := h
  exact ⟨c0, c1, c2, c3, c4, c5, c6, c7, c8, c9, c10.drew⟩
theorem EqHM.keep {w : World} {g g2 i : Nat} {x0 x1 x2 x3 : Int} {w' w2 : World} (hb : Below w'.heap.size w' w2) (h : EqHM w g g2 i x0 x1 x2 x3 w') : EqHM w g g2 i x0 x1 x2 x3 w2 := by
  obtain ⟨c0, c1, c2, c3, c4, c5, c6, c7, c8, c9, c10⟩ := h
  exact ⟨(hb.cell (p := ⟨g, i, none⟩) c8).trans c0, (hb.cell (p := ⟨g, i + 1, none⟩) c8).trans c1, (hb.cell (p := ⟨g, i + 2, none⟩) c8).trans c2, (hb.cell (p := ⟨g, i + 3, none⟩) c8).trans c3,
    (hb.cell (p := ⟨g2, i, none⟩) c9).trans c4, (hb.cell (p := ⟨g2, i + 1, none⟩) c9).trans c5, (hb.cell (p := ⟨g2, i + 2, none⟩) c9).trans c6, (hb.cell (p := ⟨g2, i + 3, none⟩) c9).trans c7, Nat.lt_of_lt_of_le c8 hb.size, Nat.lt_of_lt_of_le c9 hb.size, bT c10 hb⟩
set_option maxHeartbeats 2000000 in
theorem eqMeshS_same (ms : List Msh) (va vb : Value) (w : World) (ha : SlM w va ms) (hb : SlM w vb ms) :
    Calls Try.prog 55 #[va, vb] w (BoolBel true w) := by
  obtain ⟨hmax, ao, cap, rfl, _, ha⟩ := ha
  obtain ⟨_, bo, bcap, rfl, _, hb⟩ := hb
  have HA := Lib.hid ha
  have HB := Lib.hid hb
  clear ha hb
  have hne : ((ms.length : Int) != (ms.length : Int)) = false := by simp
  go_enter Try.func55, Try.ntmps55
  go_wp2_with fail
  go_loopw [5] (fun i wr => ∃ (k : Nat), k ≤ ms.length ∧ i = .int .i64 k ∧ Below w.heap.size w wr) (fun i _ => ms.length - (intOf i).toNat)
  case atStart => exact ⟨0, by omega, rfl, bR _⟩
  case round =>
    obtain ⟨k, hk, rfl, hbw⟩ := hrel
    by_cases hlt : k < ms.length
    · obtain ⟨g, rfl, hg, hc⟩ := HA.out (by omega)
      obtain ⟨g2, rfl, hg2, hc2⟩ := HB.out (by omega)
      obtain ⟨c0, c1, c2, c3⟩ := (hc.keep hg hbw) k hlt
      obtain ⟨d0, d1, d2, d3⟩ := (hc2.keep hg2 hbw) k hlt
      have hs := hbw.size
      have hg' : g < wr.heap.size := by omega
      have hg2' : g2 < wr.heap.size := by omega
      have HBW := Lib.hid hbw
      clear hc hc2 HA HB hbw
      generalize (msAt ms k).1 = x0 at *
      generalize (msAt ms k).2.1 = x1 at *
      generalize (msAt ms k).2.2.1 = x2 at *
      generalize (msAt ms k).2.2.2 = x3 at *
      have HS : EqHM w g g2 (k * 4) x0 x1 x2 x3 wr := ⟨c0, c1, c2, c3, d0, d1, d2, d3, hg', hg2', HBW.out⟩
      go_wp2_with fail
      go_region_held3 (fun w' => w'.cell? ⟨g, k * 4, none⟩ = some (.int .i64 x0) ∧ w'.cell? ⟨g, k * 4 + 1, none⟩ = some (.int .i64 x1) ∧ w'.cell? ⟨g, k * 4 + 2, none⟩ = some (.int .i64 x2) ∧ w'.cell? ⟨g, k * 4 + 3, none⟩ = some (.int .i64 x3) ∧
          w'.cell? ⟨g2, k * 4, none⟩ = some (.int .i64 x0) ∧ w'.cell? ⟨g2, k * 4 + 1, none⟩ = some (.int .i64 x1) ∧ w'.cell? ⟨g2, k * 4 + 2, none⟩ = some (.int .i64 x2) ∧ w'.cell? ⟨g2, k * 4 + 3, none⟩ = some (.int .i64 x3) ∧ g < w'.heap.size ∧ g2 < w'.heap.size ∧ Below w.heap.size w w') (first | exact HS.drew | exact EqHM.keep hb (by assumption))
        ((go_at_call 86; refine (eqMesh_same _ _ _ _ _).mono ?_; rintro e w' ⟨rfl, hb⟩))
      have HT : EqHM w g g2 (k * 4) x0 x1 x2 x3 w' := by assumption
      have HU := Lib.hid HT.2.2.2.2.2.2.2.2.2.2
      clear hb HT HS
      go_wp2_with fail
      go_roundw
      case rel => exact ⟨k + 1, by omega, by go_num, HU.out⟩
      case measure => simp [intOf]; omega
    · go_wp2_with fail
      go_ret
      exact ⟨rfl, hbw⟩
set_option maxHeartbeats 1000000 in
theorem eqWorks_same (rs : List Arb) (ms : List Msh) (u v u' v' : Value) (w : World) (ha : SlA w u rs) (hm : SlM w v ms) (ha' : SlA w u' rs) (hm' : SlM w v' ms) :
    Calls Try.prog 15 #[.agg #[u, v], .agg #[u', v']] w (BoolBel true w) := by
  obtain ⟨_, a0, n0, rfl, _⟩ := id ha
  obtain ⟨_, a1, n1, rfl, _⟩ := id hm
  obtain ⟨_, a2, n2, rfl, _⟩ := id ha'
  obtain ⟨_, a3, n3, rfl, _⟩ := id hm'
  have A1 := Lib.hid ((BoxU.new w (.slice a0 rs.length n0) (.slice a1 ms.length n1) 31).alloc (.cells #[.slice a2 rs.length n2, .slice a3 ms.length n3] 31))
  have A2 := Lib.hid (BoxU.at_ (w := w.alloc (.cells #[.slice a0 rs.length n0, .slice a1 ms.length n1] 31)) (b := w.heap.size + 1) (u := .slice a2 rs.length n2) (v := .slice a3 ms.length n3) (T := 31) (by simp))
  have L0 := Lib.hid (bA (bA (bR w) (.cells #[.slice a0 rs.length n0, .slice a1 ms.length n1] 31)) (.cells #[.slice a2 rs.length n2, .slice a3 ms.length n3] 31))
  have HA := Lib.hid (ha.keep L0.out)
  have HM := Lib.hid (hm.keep L0.out)
  have HA' := Lib.hid (ha'.keep L0.out)
  have HM' := Lib.hid (hm'.keep L0.out)
  clear ha hm ha' hm'
  go_enter Try.func15, Try.ntmps15
  go_wp2_with fail
  generalize (w.alloc (.cells #[.slice a0 rs.length n0, .slice a1 ms.length n1] 31)).alloc (.cells #[.slice a2 rs.length n2, .slice a3 ms.length n3] 31) = W at *
  refine (eqArborS_same rs _ _ _ HA.out HA'.out).mono ?_
  rintro e w1 ⟨rfl, hb⟩
  have L1 := Lib.hid (bT L0.out hb)
  have HM1 := Lib.hid (HM.out.keep hb)
  have HM2 := Lib.hid (HM'.out.keep hb)
  obtain ⟨x0, x1, _, _, x4⟩ := A1.out.keep hb
  obtain ⟨y0, y1, _, _, y4⟩ := A2.out.keep hb
  clear hb
  go_wp2_with fail
  refine (eqMeshS_same ms _ _ _ HM1.out HM2.out).mono ?_
  rintro e w2 ⟨rfl, hb⟩
  have L2 := Lib.hid (bT L1.out hb)
  clear hb
  go_wp2_with fail
  go_ret
  exact ⟨rfl, L2.out⟩
end Go.Proofs.Ytnijbbligkmefaa

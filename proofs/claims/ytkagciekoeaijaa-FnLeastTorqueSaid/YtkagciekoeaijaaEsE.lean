/-
  Draws of torques, counts and states.
-/
import Derived.Test.YtkagciekoeaijaaEsD
namespace Go.Proofs.Ytkagciekoeaijaa
open Go.RowKit

/-- A drawn number. -/
def NuDraw (lo hi : Int) (w : World) (p : Nat) (a : Option Addr) (len cap d : Nat) (en : Ending) (w' : World) : Prop := ∃ q : Int, (lo ≤ q ∧ q ≤ hi) ∧ en = .returned (.int .i64 q) ∧ DS w p a len cap d w'
set_option maxHeartbeats 2000000 in
theorem l11DrawTorque_any (w : World) (p : Nat) (a : Option Addr) (len cap c : Nat) (h : SrcAt w p a len cap c) (hc : c ≤ 600000) :
    Calls Try.prog 33 #[.pointer (some ⟨p, 0, none⟩)] w (NuDraw (-1) 1001 w p a len cap (c + 10)) := by
  have D0 := Lib.hid (DS.new h)
  clear h
  go_enter Try.func33, Try.ntmps33
  go_wp2_with fail
  refine (oneQ_any _ p a len cap c 12 D0.out.src (by omega) (by omega) (by omega)).mono ?_
  rintro en w1 ⟨q, rfl, s1, g1⟩
  have D1 := Lib.hid (D0.out.step s1 g1)
  clear s1 g1 D0
  cases q
  · go_wp2_with fail
    refine (pick_any _ p a len cap _ 701 D1.out.src (by omega) (by omega) (by omega)).mono ?_
    rintro en w2 ⟨v, v0, v1, rfl, s1, g1⟩
    have D2 := Lib.hid (D1.out.step s1 g1)
    clear s1 g1 D1
    go_wp2_with fail
    go_ret
    exact ⟨_, by omega, rfl, D2.out.mono (by omega)⟩
  · go_wp2_with fail
    refine (among_any _ p a len cap _ _ 5 (-1) 1001 (D1.out.alloc _).src (by omega) (by omega) (by omega) (by have := D1.out.src.lt; omega) (by simp) ?hnu).mono ?_
    case hnu =>
      intro i hi
      match i, hi with
      | 0, _ => exact ⟨_, by simp [go_sem]; rfl, by omega, by omega⟩
      | 1, _ => exact ⟨_, by simp [go_sem]; rfl, by omega, by omega⟩
      | 2, _ => exact ⟨_, by simp [go_sem]; rfl, by omega, by omega⟩
      | 3, _ => exact ⟨_, by simp [go_sem]; rfl, by omega, by omega⟩
      | 4, _ => exact ⟨_, by simp [go_sem]; rfl, by omega, by omega⟩
    rintro en w2 ⟨v, v0, v1, rfl, s1, g1⟩
    have D2 := Lib.hid ((D1.out.alloc _).step s1 g1)
    clear s1 g1 D1
    go_wp2_with fail
    go_ret
    exact ⟨_, by omega, rfl, D2.out.mono (by omega)⟩
set_option maxHeartbeats 2000000 in
theorem l11DrawCount_any (w : World) (p : Nat) (a : Option Addr) (len cap c : Nat) (h : SrcAt w p a len cap c) (hc : c ≤ 600000) :
    Calls Try.prog 51 #[.pointer (some ⟨p, 0, none⟩)] w (NuDraw (-1) 2001 w p a len cap (c + 10)) := by
  have D0 := Lib.hid (DS.new h)
  clear h
  go_enter Try.func51, Try.ntmps51
  go_wp2_with fail
  refine (oneQ_any _ p a len cap c 20 D0.out.src (by omega) (by omega) (by omega)).mono ?_
  rintro en w1 ⟨q, rfl, s1, g1⟩
  have D1 := Lib.hid (D0.out.step s1 g1)
  clear s1 g1 D0
  cases q
  · go_wp2_with fail
    refine (pick_any _ p a len cap _ 40 D1.out.src (by omega) (by omega) (by omega)).mono ?_
    rintro en w2 ⟨v, v0, v1, rfl, s1, g1⟩
    have D2 := Lib.hid (D1.out.step s1 g1)
    clear s1 g1 D1
    go_wp2_with fail
    go_ret
    exact ⟨_, by omega, rfl, D2.out.mono (by omega)⟩
  · go_wp2_with fail
    refine (among_any _ p a len cap _ _ 4 (-1) 2001 (D1.out.alloc _).src (by omega) (by omega) (by omega) (by have := D1.out.src.lt; omega) (by simp) ?hnu).mono ?_
    case hnu =>
      intro i hi
      match i, hi with
      | 0, _ => exact ⟨_, by simp [go_sem]; rfl, by omega, by omega⟩
      | 1, _ => exact ⟨_, by simp [go_sem]; rfl, by omega, by omega⟩
      | 2, _ => exact ⟨_, by simp [go_sem]; rfl, by omega, by omega⟩
      | 3, _ => exact ⟨_, by simp [go_sem]; rfl, by omega, by omega⟩
    rintro en w2 ⟨v, v0, v1, rfl, s1, g1⟩
    have D2 := Lib.hid ((D1.out.alloc _).step s1 g1)
    clear s1 g1 D1
    go_wp2_with fail
    go_ret
    exact ⟨_, by omega, rfl, D2.out.mono (by omega)⟩
/-- The box of a drawn escapement, cell by cell. -/
def EsC (w : World) (b : Nat) (t u i l m : Int) (w' : World) : Prop :=
  w'.cell? ⟨b, 0, none⟩ = some (.int .i64 t) ∧ w'.cell? ⟨b, 1, none⟩ = some (.int .i64 u) ∧ w'.cell? ⟨b, 2, none⟩ = some (.int .i64 i) ∧ w'.cell? ⟨b, 3, none⟩ = some (.int .i64 l) ∧ w'.cell? ⟨b, 4, none⟩ = some (.int .i64 m) ∧ b < w'.heap.size ∧ Below w.heap.size w w'
theorem EsC.of {w : World} {b : Nat} {t u i l m : Int} {w' : World} (h : BoxL w' b [.int .i64 t, .int .i64 u, .int .i64 i, .int .i64 l, .int .i64 m]) (hb : Below w.heap.size w w') : EsC w b t u i l m w' := by
  obtain ⟨c0, c1, c2, c3, c4, c5⟩ := h.c5
  exact ⟨c0, c1, c2, c3, c4, c5, hb⟩
theorem EsC.keep {w : World} {b : Nat} {t u i l m : Int} {w' w2 : World} (hb : Below w'.heap.size w' w2) (H : EsC w b t u i l m w') : EsC w b t u i l m w2 := by
  obtain ⟨c0, c1, c2, c3, c4, e0, e1⟩ := H
  exact ⟨(hb.cell (p := ⟨b, 0, none⟩) e0).trans c0, (hb.cell (p := ⟨b, 1, none⟩) e0).trans c1, (hb.cell (p := ⟨b, 2, none⟩) e0).trans c2, (hb.cell (p := ⟨b, 3, none⟩) e0).trans c3, (hb.cell (p := ⟨b, 4, none⟩) e0).trans c4, Nat.lt_of_lt_of_le e0 hb.size, bT e1 hb⟩
theorem EsC.drew {w : World} {b : Nat} {t u i l m : Int} {w' : World} (H : EsC w b t u i l m w') : EsC w b t u i l m w'.drew := H.keep (bR _).drew
theorem EsC.bel {w : World} {b : Nat} {t u i l m : Int} {w' : World} (H : EsC w b t u i l m w') : Below w.heap.size w w' := H.2.2.2.2.2.2
theorem grownE_bel {w x y : World} {p : Nat} (h : Below w.heap.size w x) (g : x.grownBy y (some p)) (hp : w.heap.size ≤ p) : Below w.heap.size w y :=
  ⟨g.os.trans h.os, g.tape.trans h.tape, g.output.trans h.output, Nat.le_trans h.size g.size, fun k hk => (g.block k (Nat.lt_of_lt_of_le hk h.size) (fun e => by injection e with e; omega)).trans (h.block k hk)⟩
theorem EsC.grown {w : World} {b p : Nat} {t u i l m : Int} {w' w2 : World} (H : EsC w b t u i l m w') (g : w'.grownBy w2 (some p)) (hn : b ≠ p) (hp : w.heap.size ≤ p) : EsC w b t u i l m w2 := by
  obtain ⟨c0, c1, c2, c3, c4, e0, e1⟩ := H
  exact ⟨((gcell g).1 b 0 e0 hn).trans c0, ((gcell g).1 b 1 e0 hn).trans c1, ((gcell g).1 b 2 e0 hn).trans c2, ((gcell g).1 b 3 e0 hn).trans c3, ((gcell g).1 b 4 e0 hn).trans c4, Nat.lt_of_lt_of_le e0 g.size, grownE_bel e1 g hp⟩
theorem EsC.set1 {w : World} {b r o : Nat} {t u i l m : Int} {w' : World} {v : Value} (H : EsC w b t u i l m w') (hn : b ≠ r) (hr : w.heap.size ≤ r) : EsC w b t u i l m (w'.setCell ⟨r, o, none⟩ v) := by
  obtain ⟨c0, c1, c2, c3, c4, e0, e1⟩ := H
  have e : ∀ k, (w'.setCell ⟨r, o, none⟩ v).cell? ⟨b, k, none⟩ = w'.cell? ⟨b, k, none⟩ := fun k => World.cell?_of_block (Below.heap_setCell _ _ _ _ hn)
  exact ⟨(e 0).trans c0, (e 1).trans c1, (e 2).trans c2, (e 3).trans c3, (e 4).trans c4, by simpa [World.setCell] using e0, e1.setCell hr _⟩
theorem EsC.set5 {w : World} {b r : Nat} {t u i l m : Int} {w' : World} {v0 v1 v2 v3 v4 : Value} (H : EsC w b t u i l m w') (hn : b ≠ r) (hr : w.heap.size ≤ r) : EsC w b t u i l m (((((w'.setCell ⟨r, 0, none⟩ v0).setCell ⟨r, 1, none⟩ v1).setCell ⟨r, 2, none⟩ v2).setCell ⟨r, 3, none⟩ v3).setCell ⟨r, 4, none⟩ v4) :=
  ((((H.set1 hn hr).set1 hn hr).set1 hn hr).set1 hn hr).set1 hn hr
theorem DS.bel {w : World} {p : Nat} {a : Option Addr} {len cap c : Nat} {w' : World} (h : DS w p a len cap c w') {w0 : World} (hb : Below w0.heap.size w0 w) (hp : w0.heap.size ≤ p) : Below w0.heap.size w0 w' := grownE_bel hb h.gr hp
theorem BoxL.setD {w : World} {b i : Nat} {vs : List Value} {v u : Value} (h : BoxL w b vs) (hi : vs[i]? = some u) : BoxL (w.setCell ⟨b, i, none⟩ v) b (vs.set i v) := by
  have hl : i < vs.length := by
    by_cases hl : i < vs.length
    · exact hl
    · rw [List.getElem?_eq_none (by omega)] at hi; cases hi
  have c0 := h.c i u hi
  refine ⟨fun j y e => ?_, fun j y e => ?_, by simpa [World.setCell] using h.lt⟩
  · by_cases hj : j = i
    · subst hj
      rw [List.getElem?_set_self hl] at e
      cases e
      simp [go_sem, c0]
    · rw [List.getElem?_set_ne (Ne.symm hj)] at e
      have := h.c j y e
      simp [go_sem, this]
  · by_cases hj : j = i
    · subst hj
      have := h.f j u hi
      simp [go_sem, this]
    · rw [List.getElem?_set_ne (Ne.symm hj)] at e
      have := h.f j y e
      simp [go_sem, this]
theorem BoxL.set5E {w : World} {b : Nat} {x0 x1 x2 x3 x4 v0 v1 v2 v3 v4 : Value} (h : BoxL w b [x0, x1, x2, x3, x4]) : BoxL (((((w.setCell ⟨b, 0, none⟩ v0).setCell ⟨b, 1, none⟩ v1).setCell ⟨b, 2, none⟩ v2).setCell ⟨b, 3, none⟩ v3).setCell ⟨b, 4, none⟩ v4) b [v0, v1, v2, v3, v4] :=
  BoxL.setD (i := 4) (v := v4) (BoxL.setD (i := 3) (v := v3) (BoxL.setD (i := 2) (v := v2) (BoxL.setD (i := 1) (v := v1) (BoxL.setD (i := 0) (v := v0) h rfl) rfl) rfl) rfl) rfl
theorem bset5E {w w' : World} {b : Nat} {v0 v1 v2 v3 v4 : Value} (h : Below w.heap.size w w') (hn : w.heap.size ≤ b) : Below w.heap.size w (((((w'.setCell ⟨b, 0, none⟩ v0).setCell ⟨b, 1, none⟩ v1).setCell ⟨b, 2, none⟩ v2).setCell ⟨b, 3, none⟩ v3).setCell ⟨b, 4, none⟩ v4) :=
  bsetS (bsetS (bsetS (bsetS (bsetS h hn) hn) hn) hn) hn
/-- A drawn escapement and a number. -/
def EsqDraw (lo hi : Int) (w : World) (en : Ending) (w' : World) : Prop := ∃ t u i l m q : Int, (-1 ≤ m ∧ m ≤ 150000) ∧ (lo ≤ q ∧ q ≤ hi) ∧ en = .returned (.tuple #[.agg #[.int .i64 t, .int .i64 u, .int .i64 i, .int .i64 l, .int .i64 m], .int .i64 q]) ∧ Below w.heap.size w w'
set_option maxRecDepth 100000 in
set_option maxHeartbeats 1000000 in
theorem DrawSteadyEnergy_any (w : World) (a : Option Addr) (len cap : Nat) (zs : List Int) (h : IsRow .u8 w a len cap zs) :
    Calls Try.prog 15 #[.slice a len cap] w (EsqDraw (-1) 1001 w) := by
  have A0 := Lib.hid (h.keep (bA (bR w) (.cells #[.int .i64 0, .int .i64 0, .int .i64 0, .int .i64 0, .int .i64 0] 25)))
  have L0 := Lib.hid (bA (bR w) (.cells #[.int .i64 0, .int .i64 0, .int .i64 0, .int .i64 0, .int .i64 0] 25))
  have Q0 := Lib.hid (BoxL.new w [.int .i64 0, .int .i64 0, .int .i64 0, .int .i64 0, .int .i64 0] 25)
  have hw : (w.alloc (.cells #[.int .i64 0, .int .i64 0, .int .i64 0, .int .i64 0, .int .i64 0] 25)).heap.size = w.heap.size + 1 := by simp
  clear h
  go_enter Try.func15, Try.ntmps15
  go_wp2_with fail
  generalize w.alloc (.cells #[.int .i64 0, .int .i64 0, .int .i64 0, .int .i64 0, .int .i64 0] 25) = W0 at *
  refine (l00From_any W0 a len cap zs A0.out).mono ?_
  rintro en w1 ⟨rfl, s1, hb⟩
  have S1 := Lib.hid s1
  have L1 := Lib.hid (bT L0.out hb)
  have Q1 := Lib.hid (Q0.out.keep hb)
  clear s1 hb A0 L0 Q0
  generalize hpp : W0.heap.size = p at S1 ⊢
  have hwp : w.heap.size ≤ p := by omega
  have hwn : w.heap.size ≠ p := by omega
  go_wp2_with fail
  refine (l11Bent_any _ p a len cap 0 S1.out (by omega)).mono ?_
  rintro en w2 ⟨t, u, i, l, m, ht, hu, hi, hl, hm, rfl, d2⟩
  have L2 := Lib.hid (grownE_bel L1.out d2.gr hwp)
  have Q2 := Lib.hid (Q1.out.grownA d2.gr hwn)
  have S2 := Lib.hid d2.src
  have HM := Lib.hid hm
  clear d2 L1 Q1 S1 ht hu hi hl hm
  have hp2 := S2.out.lt
  have Q3 := Lib.hid (Q2.out.alloc (.cells #[.int .i64 t, .int .i64 u, .int .i64 i, .int .i64 l, .int .i64 m] 25))
  have S3 := Lib.hid ((S2.out.keep (bA (bR w2) (.cells #[.int .i64 t, .int .i64 u, .int .i64 i, .int .i64 l, .int .i64 m] 25))).keep (bR _).drew)
  have h3 : EsC w w2.heap.size t u i l m (w2.alloc (.cells #[.int .i64 t, .int .i64 u, .int .i64 i, .int .i64 l, .int .i64 m] 25)) := EsC.of (BoxL.new w2 [.int .i64 t, .int .i64 u, .int .i64 i, .int .i64 l, .int .i64 m] 25) (bA L2.out _)
  have hnp : w2.heap.size ≠ p := by omega
  have hnr : w2.heap.size ≠ w.heap.size := by have := Q2.out.lt; omega
  have X3 := Lib.hid (BoxL.keep (BoxL.new w2 [.int .i64 t, .int .i64 u, .int .i64 i, .int .i64 l, .int .i64 m] 25) (bR _).drew)
  have Q4 := Lib.hid (BoxL.keep Q3.out (bR _).drew)
  have L3 := Lib.hid (bA L2.out (.cells #[.int .i64 t, .int .i64 u, .int .i64 i, .int .i64 l, .int .i64 m] 25)).drew
  clear L2 Q2 S2 h3 Q3
  obtain ⟨c0, c1, c2, c3, c4, c5⟩ := X3.out.c5
  go_upto_region 3 with fail
  generalize w2.alloc (.cells #[.int .i64 t, .int .i64 u, .int .i64 i, .int .i64 l, .int .i64 m] 25) = W2 at *
  generalize w2.heap.size = b5 at *
  go_cut [3] (fun s3 wx => ∃ q : Int, s3 = .int .i64 q ∧ (-1 ≤ q ∧ q ≤ 1001) ∧ BoxL wx w.heap.size [.int .i64 t, .int .i64 u, .int .i64 i, .int .i64 l, .int .i64 m] ∧ Below w.heap.size w wx)
  case first =>
    go_region_with (go_at_call 33; refine (l11DrawTorque_any _ p a len cap _ (by exact S3.out) (by omega)).mono ?_; rintro en w4 ⟨q, hq, rfl, ds⟩; have Z1 := Lib.hid (BoxL.grownA Q4.out ds.gr hwn); obtain ⟨z0, z1, z2, z3, z4, z5⟩ := Z1.out.c5; obtain ⟨y0, y1, y2, y3, y4⟩ := Z1.out.f5; have X4 := Lib.hid (BoxL.grownA X3.out ds.gr hnp); clear c0 c1 c2 c3 c4 c5; obtain ⟨c0, c1, c2, c3, c4, c5⟩ := X4.out.c5; have L4 := Lib.hid (grownE_bel L3.out ds.gr hwp); have HQ := Lib.hid hq; clear ds hq)
    all_goals (go_wp2_with fail; go_meet; exact ⟨q, rfl, HQ.out, BoxL.set5E Z1.out, bset5E L4.out (Nat.le_refl _)⟩)
  case rest =>
    obtain ⟨q, rfl, hq, hX, hL⟩ := hcut
    have L5 := Lib.hid hL
    have HQ := Lib.hid hq
    obtain ⟨z0, z1, z2, z3, z4, z5⟩ := hX.c5
    clear hL hX hq X3 Q4 c0 c1 c2 c3 c4 c5 S3 L3
    generalize wc = w5 at *
    go_wp2_with fail
    exact bodyPost_ret (v := .tuple #[.agg #[.int .i64 t, .int .i64 u, .int .i64 i, .int .i64 l, .int .i64 m], .int .i64 q]) (by simp [results, Try.results15, go_sem, z0, z1, z2, z3, z4]) rfl ⟨t, u, i, l, m, q, HM.out, HQ.out, rfl, L5.out⟩
end Go.Proofs.Ytkagciekoeaijaa

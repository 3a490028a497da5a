/-
  A ratio that is drawn is valid: the contracts of spec.l02Draw, spec.l00From, spec.A2Ratios.
-/
import Derived.Test.YtclefibjmnabbaaMk
import Derived.Test.YtclefibjmnabbaaPick
namespace Go.Proofs.Ytclefibjmnabbaa
open Go.RowKit

theorem low_small {n d : Int} (h1 : -1000000000 ≤ n) (h2 : n ≤ 1000000000) (h3 : 1 ≤ d) (h4 : d ≤ 1000000000) : lowOk n d = true ∧ okR (mkN n d) (lowD n d) = true := by
  have hg : 0 < Int.gcd n d := Int.gcd_pos_of_ne_zero_right n (by omega)
  have hc : Nat.Coprime (n.natAbs / Int.gcd n d) (d.natAbs / Int.gcd n d) := Nat.coprime_div_gcd_div_gcd hg
  have eN : lowN n d = ((n.natAbs / Int.gcd n d : Nat) : Int) := by unfold lowN; rw [Int.natCast_ediv]
  have eD : lowD n d = ((d.natAbs / Int.gcd n d : Nat) : Int) := by unfold lowD; rw [Int.natCast_ediv]
  have bN : n.natAbs / Int.gcd n d ≤ n.natAbs := Nat.div_le_self _ _
  have bD' : d.natAbs / Int.gcd n d ≤ d.natAbs := Nat.div_le_self _ _
  have pD : 0 < d.natAbs / Int.gcd n d := Nat.div_pos (Nat.le_of_dvd (by omega) (Nat.gcd_dvd_right _ _)) hg
  have cN : (mkN n d).natAbs = n.natAbs / Int.gcd n d := by
    unfold mkN; rw [eN]; generalize n.natAbs / Int.gcd n d = m; split <;> omega
  refine ⟨by simp only [lowOk, eN, eD]; simp; omega, ?_⟩
  rw [okR_true]
  refine ⟨by omega, by omega, by omega, by omega, ?_⟩
  show Nat.gcd (mkN n d).natAbs (lowD n d).natAbs = 1
  rw [cN, eD, Int.natAbs_natCast]
  exact hc

/-- A valid ratio is returned; only the source's block is written. -/
def DrawPost (w : World) (p : Nat) (a : Option Addr) (len cap c : Nat) (e : Ending) (w' : World) : Prop :=
  ∃ n d : Int, okR n d = true ∧ e = .returned (.agg #[.int .i64 n, .int .i64 d]) ∧ SrcAt w' p a len cap (c + 10) ∧ w.grownBy w' (some p)

theorem gOfBelow {w w' : World} (p : Nat) (h : Below w.heap.size w w') : w.grownBy w' (some p) := ⟨h.os, h.tape, h.output, h.size, fun k hk _ => h.block k hk⟩
theorem SrcAt.keep {w w' : World} {p : Nat} {a : Option Addr} {len cap c : Nat} (h : SrcAt w p a len cap c) (hb : Below w.heap.size w w') : SrcAt w' p a len cap c := by
  obtain ⟨n, hn, e1⟩ := h.c1
  obtain ⟨s, e2⟩ := h.c2
  refine ⟨(hb.cell (p := ⟨p, 0, none⟩) h.lt).trans h.c0, ⟨n, hn, (hb.cell (p := ⟨p, 1, none⟩) h.lt).trans e1⟩, ⟨s, (hb.cell (p := ⟨p, 2, none⟩) h.lt).trans e2⟩, (hb.frozen (p := ⟨p, 1, none⟩) h.lt).trans h.f1, (hb.frozen (p := ⟨p, 2, none⟩) h.lt).trans h.f2, Nat.lt_of_lt_of_le h.lt hb.size, ?_, h.len0⟩
  intro i hi
  obtain ⟨xb, xo, z, hx, hxp, hcz, z0, z1⟩ := h.row i hi
  have hlt : xb < w.heap.size := by
    by_cases hb' : xb < w.heap.size
    · exact hb'
    · exfalso
      have : w.heap[xb]? = none := by simp; omega
      simp [World.cell?, this] at hcz
  exact ⟨xb, xo, z, hx, hxp, (hb.cell (p := ⟨xb, xo + i, none⟩) hlt).trans hcz, z0, z1⟩

theorem gcell {W w1 : World} {p : Nat} (g : W.grownBy w1 (some p)) : (∀ b o, b < W.heap.size → b ≠ p → w1.cell? ⟨b, o, none⟩ = W.cell? ⟨b, o, none⟩) ∧ (∀ b o, b < W.heap.size → b ≠ p → w1.frozen? ⟨b, o, none⟩ = W.frozen? ⟨b, o, none⟩) :=
  ⟨fun b _ h hn => World.cell?_of_block (g.block b h (fun e => hn (Option.some.inj e))), fun b _ h hn => World.frozen?_of_block (g.block b h (fun e => hn (Option.some.inj e)))⟩
theorem gSet {a b : World} {p r o : Nat} {v : Value} (g : a.grownBy b (some p)) (h : a.heap.size ≤ r) : a.grownBy (b.setCell ⟨r, o, none⟩ v) (some p) :=
  ⟨g.os, g.tape, g.output, by simpa [World.setCell] using g.size, fun k hk hn => (Below.heap_setCell _ _ _ _ (by simp; omega)).trans (g.block k hk hn)⟩
theorem gAlloc {a b : World} {p : Nat} (g : a.grownBy b (some p)) (o : Obj) : a.grownBy (b.alloc o) (some p) :=
  ⟨g.os, g.tape, g.output, by have := g.size; simp; omega, fun k hk hn => (Below.heap_alloc _ _ _ (Nat.lt_of_lt_of_le hk g.size)).trans (g.block k hk hn)⟩
theorem gBelow {a b c : World} {p : Nat} (g : a.grownBy b (some p)) (h : Below b.heap.size b c) : a.grownBy c (some p) :=
  ⟨h.os.trans g.os, h.tape.trans g.tape, h.output.trans g.output, Nat.le_trans g.size h.size, fun k hk hn => (h.block k (Nat.lt_of_lt_of_le hk g.size)).trans (g.block k hk hn)⟩
/-- From a world whose first new block is the base on: the source was there before. -/
theorem gFrom {w b : World} {p : Nat} {o : Obj} (g : (w.alloc o).grownBy b (some p)) : w.grownBy b (some p) :=
  ⟨g.os, g.tape, g.output, by have := g.size; simp at this; omega, fun k hk hn => (g.block k (by simp; omega) hn).trans (Below.heap_alloc _ _ _ hk)⟩
theorem SrcAt.set {w : World} {p : Nat} {a : Option Addr} {len cap c r o : Nat} {v : Value} (h : SrcAt w p a len cap c) (hr : r ≠ p) (hnew : 0 < len → ∀ xb xo, a = some ⟨xb, xo, none⟩ → xb ≠ r) : SrcAt (w.setCell ⟨r, o, none⟩ v) p a len cap c := by
  have hk : ∀ b o', b ≠ r → (w.setCell ⟨r, o, none⟩ v).cell? ⟨b, o', none⟩ = w.cell? ⟨b, o', none⟩ := fun _ _ hb => World.cell?_of_block (Below.heap_setCell _ _ _ _ hb)
  have hkf : ∀ b o', b ≠ r → (w.setCell ⟨r, o, none⟩ v).frozen? ⟨b, o', none⟩ = w.frozen? ⟨b, o', none⟩ := fun _ _ hb => World.frozen?_of_block (Below.heap_setCell _ _ _ _ hb)
  obtain ⟨n, hn, e1⟩ := h.c1
  obtain ⟨s, e2⟩ := h.c2
  refine ⟨(hk _ _ (Ne.symm hr)).trans h.c0, ⟨n, hn, (hk _ _ (Ne.symm hr)).trans e1⟩, ⟨s, (hk _ _ (Ne.symm hr)).trans e2⟩, (hkf _ _ (Ne.symm hr)).trans h.f1, (hkf _ _ (Ne.symm hr)).trans h.f2, by simpa [World.setCell] using h.lt, ?_, h.len0⟩
  intro i hi
  obtain ⟨xb, xo, z, hx, hxp, hcz, z0, z1⟩ := h.row i hi
  exact ⟨xb, xo, z, hx, hxp, (hk _ _ (hnew (by omega) xb xo hx)).trans hcz, z0, z1⟩
/-- The slice of a source lies below a block that is newer than it. -/
theorem SrcAt.old {w : World} {p : Nat} {a : Option Addr} {len cap c r : Nat} (h : SrcAt w p a len cap c) (hl : 0 < len) (hr : w.heap.size ≤ r) : ∀ xb xo, a = some ⟨xb, xo, none⟩ → xb ≠ r := by
  intro xb xo e
  obtain ⟨xb', xo', z, hx, hxp, hcz, z0, z1⟩ := h.row 0 hl
  rw [e] at hx
  cases hx
  have hlt : xb < w.heap.size := by
    by_cases hb' : xb < w.heap.size
    · exact hb'
    · exfalso
      have : w.heap[xb]? = none := by simp; omega
      simp [World.cell?, this] at hcz
  omega

set_option maxHeartbeats 1000000 in
theorem l02Draw_any (w : World) (p : Nat) (a : Option Addr) (len cap c : Nat) (h : SrcAt w p a len cap c) (hc : c ≤ 800000) :
    Calls Try.prog 83 #[.pointer (some ⟨p, 0, none⟩)] w (DrawPost w p a len cap c) := by
  have hlt := h.lt
  have HH := Lib.hid h
  clear h
  go_enter Try.func83, Try.ntmps83
  go_wp2_with fail
  refine (pick_any _ p a len cap c 100 (HH.out.keep (bA (bR _) _)) (by omega) (by omega) (by omega)).mono ?_
  rintro e w1 ⟨v, v0, v1, rfl, s1, g1⟩
  have S1 := Lib.hid s1
  clear s1
  go_wp2_with fail
  refine (pick_any _ p a len cap _ 30 S1.out (by omega) (by omega) (by omega)).mono ?_
  rintro e w2 ⟨u, u0, u1, rfl, s2, g2⟩
  have S2 := Lib.hid s2
  clear s2
  go_wp2_with fail
  refine (pick_any _ p a len cap _ 8 S2.out (by omega) (by omega) (by omega)).mono ?_
  rintro e w3 ⟨x, x0, x1, rfl, s3, g3⟩
  have S3 := Lib.hid s3
  clear s3
  have hRp : w.heap.size ≠ p := by omega
  have HOLD := Lib.hid (fun hl => HH.out.old hl (Nat.le_refl w.heap.size))
  have G3 := Lib.hid (gTrans (gTrans g1 g2) g3)
  have hR3 : w.heap.size < w3.heap.size := by have := G3.out.size; simp at this; omega
  obtain ⟨hc3, hf3⟩ := gcell G3.out
  have n0 : w3.cell? ⟨w.heap.size, 0, none⟩ = some (.int .i64 0) := by rw [hc3 _ _ (by simp) hRp]; simp [go_sem]
  have n1 : w3.cell? ⟨w.heap.size, 1, none⟩ = some (.int .i64 0) := by rw [hc3 _ _ (by simp) hRp]; simp [go_sem]
  have q0 : w3.frozen? ⟨w.heap.size, 0, none⟩ = false := by rw [hf3 _ _ (by simp) hRp]; simp [go_sem]
  have q1 : w3.frozen? ⟨w.heap.size, 1, none⟩ = false := by rw [hf3 _ _ (by simp) hRp]; simp [go_sem]
  clear hc3 hf3 g1 g2 g3 HH S1 S2
  by_cases hx0 : x = 0
  · subst hx0
    go_wp2_with fail
    refine (among_any _ p a len cap _ _ 6 (-1000000000) (1000000000) (S3.out.keep (bA (bR _) _)) (by omega) (by omega) (by omega) (by have := S3.out.lt; omega) (by simp) ?hnu).mono ?_
    case hnu =>
      intro i hi
      match i, hi with
      | 0, _ => exact ⟨_, by simp [go_sem]; rfl, by omega, by omega⟩
      | 1, _ => exact ⟨_, by simp [go_sem]; rfl, by omega, by omega⟩
      | 2, _ => exact ⟨_, by simp [go_sem]; rfl, by omega, by omega⟩
      | 3, _ => exact ⟨_, by simp [go_sem]; rfl, by omega, by omega⟩
      | 4, _ => exact ⟨_, by simp [go_sem]; rfl, by omega, by omega⟩
      | 5, _ => exact ⟨_, by simp [go_sem]; rfl, by omega, by omega⟩
    rintro e w4 ⟨y, y0, y1, rfl, s4, g4⟩
    have S4 := Lib.hid s4
    clear s4
    have G4 := Lib.hid (gTrans (gAlloc G3.out _) g4)
    have hR4 : w.heap.size < w4.heap.size := by have := G4.out.size; simp at this; omega
    obtain ⟨hc4, hf4⟩ := gcell G4.out
    have o0 : w4.cell? ⟨w.heap.size, 0, none⟩ = some (.int .i64 0) := by rw [hc4 _ _ (by simp) hRp]; simp [go_sem]
    have o1 : w4.cell? ⟨w.heap.size, 1, none⟩ = some (.int .i64 0) := by rw [hc4 _ _ (by simp) hRp]; simp [go_sem]
    have p0 : w4.frozen? ⟨w.heap.size, 0, none⟩ = false := by rw [hf4 _ _ (by simp) hRp]; simp [go_sem]
    have p1 : w4.frozen? ⟨w.heap.size, 1, none⟩ = false := by rw [hf4 _ _ (by simp) hRp]; simp [go_sem]
    clear hc4 hf4 g4
    go_wp2_with fail
    obtain ⟨k1, k2⟩ := low_small (n := y) (d := 1 + u) (by omega) (by omega) (by omega) (by omega)
    have HK := Lib.hid (mk_yes k1)
    have HO := Lib.hid k2
    clear k1 k2
    refine (l02Make_any _ _ _ (by omega) (by omega) (by omega) (by omega) (by omega)).mono ?_
    rintro e w5 ⟨rfl, hb5⟩
    have hR : w.heap.size < w4.heap.size := hR4
    have hR5 : w.heap.size < w5.heap.size := bsize hb5 hR
    obtain ⟨hc5, hf5⟩ := bcell hb5
    have m0 : w5.cell? ⟨w.heap.size, 0, none⟩ = some (.int .i64 0) := by rw [hc5 _ _ hR]; exact o0
    have m1 : w5.cell? ⟨w.heap.size, 1, none⟩ = some (.int .i64 0) := by rw [hc5 _ _ hR]; exact o1
    have f0 : w5.frozen? ⟨w.heap.size, 0, none⟩ = false := by rw [hf5 _ _ hR]; exact p0
    have f1 : w5.frozen? ⟨w.heap.size, 1, none⟩ = false := by rw [hf5 _ _ hR]; exact p1
    have S5 := Lib.hid (S4.out.keep hb5)
    have G5 := Lib.hid (gBelow G4.out hb5)
    clear hc5 hf5
    go_wp2_with fail
    refine bodyPost_ret (v := .agg #[.int .i64 (mkA (y) (1 + u)), .int .i64 (mkB (y) (1 + u))]) ?_ rfl ⟨_, _, by rw [HK.out.1, HK.out.2]; exact HO.out, rfl, (((S5.out.set hRp HOLD.out).set hRp HOLD.out).keep (bA (bR _) _)).mono (by omega), gAlloc (gSet (gSet (gFrom G5.out) (Nat.le_refl _)) (Nat.le_refl _)) _⟩
    simp [results, Try.results83, go_sem, World.cell?_alloc_past, hR5, m0, m1]
  · by_cases hx1 : x = 1
    · subst hx1
      go_wp2_with fail
      refine (among_any _ p a len cap _ _ 4 (1) (1000000000) (S3.out.keep (bA (bR _) _)) (by omega) (by omega) (by omega) (by have := S3.out.lt; omega) (by simp) ?hnu).mono ?_
      case hnu =>
        intro i hi
        match i, hi with
        | 0, _ => exact ⟨_, by simp [go_sem]; rfl, by omega, by omega⟩
        | 1, _ => exact ⟨_, by simp [go_sem]; rfl, by omega, by omega⟩
        | 2, _ => exact ⟨_, by simp [go_sem]; rfl, by omega, by omega⟩
        | 3, _ => exact ⟨_, by simp [go_sem]; rfl, by omega, by omega⟩
      rintro e w4 ⟨y, y0, y1, rfl, s4, g4⟩
      have S4 := Lib.hid s4
      clear s4
      have G4 := Lib.hid (gTrans (gAlloc G3.out _) g4)
      have hR4 : w.heap.size < w4.heap.size := by have := G4.out.size; simp at this; omega
      obtain ⟨hc4, hf4⟩ := gcell G4.out
      have o0 : w4.cell? ⟨w.heap.size, 0, none⟩ = some (.int .i64 0) := by rw [hc4 _ _ (by simp) hRp]; simp [go_sem]
      have o1 : w4.cell? ⟨w.heap.size, 1, none⟩ = some (.int .i64 0) := by rw [hc4 _ _ (by simp) hRp]; simp [go_sem]
      have p0 : w4.frozen? ⟨w.heap.size, 0, none⟩ = false := by rw [hf4 _ _ (by simp) hRp]; simp [go_sem]
      have p1 : w4.frozen? ⟨w.heap.size, 1, none⟩ = false := by rw [hf4 _ _ (by simp) hRp]; simp [go_sem]
      clear hc4 hf4 g4
      go_wp2_with fail
      obtain ⟨k1, k2⟩ := low_small (n := v - 40) (d := y) (by omega) (by omega) (by omega) (by omega)
      have HK := Lib.hid (mk_yes k1)
      have HO := Lib.hid k2
      clear k1 k2
      refine (l02Make_any _ _ _ (by omega) (by omega) (by omega) (by omega) (by omega)).mono ?_
      rintro e w5 ⟨rfl, hb5⟩
      have hR : w.heap.size < w4.heap.size := hR4
      have hR5 : w.heap.size < w5.heap.size := bsize hb5 hR
      obtain ⟨hc5, hf5⟩ := bcell hb5
      have m0 : w5.cell? ⟨w.heap.size, 0, none⟩ = some (.int .i64 0) := by rw [hc5 _ _ hR]; exact o0
      have m1 : w5.cell? ⟨w.heap.size, 1, none⟩ = some (.int .i64 0) := by rw [hc5 _ _ hR]; exact o1
      have f0 : w5.frozen? ⟨w.heap.size, 0, none⟩ = false := by rw [hf5 _ _ hR]; exact p0
      have f1 : w5.frozen? ⟨w.heap.size, 1, none⟩ = false := by rw [hf5 _ _ hR]; exact p1
      have S5 := Lib.hid (S4.out.keep hb5)
      have G5 := Lib.hid (gBelow G4.out hb5)
      clear hc5 hf5
      go_wp2_with fail
      refine bodyPost_ret (v := .agg #[.int .i64 (mkA (v - 40) (y)), .int .i64 (mkB (v - 40) (y))]) ?_ rfl ⟨_, _, by rw [HK.out.1, HK.out.2]; exact HO.out, rfl, (((S5.out.set hRp HOLD.out).set hRp HOLD.out).keep (bA (bR _) _)).mono (by omega), gAlloc (gSet (gSet (gFrom G5.out) (Nat.le_refl _)) (Nat.le_refl _)) _⟩
      simp [results, Try.results83, go_sem, World.cell?_alloc_past, hR5, m0, m1]
    · have hxa : (x == 0) = false := by simpa using hx0
      have hxb : (x == 1) = false := by simpa using hx1
      go_wp2_with fail
      obtain ⟨k1, k2⟩ := low_small (n := v - 40) (d := 1 + u) (by omega) (by omega) (by omega) (by omega)
      have HK := Lib.hid (mk_yes k1)
      have HO := Lib.hid k2
      clear k1 k2
      refine (l02Make_any _ _ _ (by omega) (by omega) (by omega) (by omega) (by omega)).mono ?_
      rintro e w5 ⟨rfl, hb5⟩
      have hR : w.heap.size < w3.heap.size := hR3
      have hR5 : w.heap.size < w5.heap.size := bsize hb5 hR
      obtain ⟨hc5, hf5⟩ := bcell hb5
      have m0 : w5.cell? ⟨w.heap.size, 0, none⟩ = some (.int .i64 0) := by rw [hc5 _ _ hR]; exact n0
      have m1 : w5.cell? ⟨w.heap.size, 1, none⟩ = some (.int .i64 0) := by rw [hc5 _ _ hR]; exact n1
      have f0 : w5.frozen? ⟨w.heap.size, 0, none⟩ = false := by rw [hf5 _ _ hR]; exact q0
      have f1 : w5.frozen? ⟨w.heap.size, 1, none⟩ = false := by rw [hf5 _ _ hR]; exact q1
      have S5 := Lib.hid (S3.out.keep hb5)
      have G5 := Lib.hid (gBelow G3.out hb5)
      clear hc5 hf5
      go_wp2_with fail
      refine bodyPost_ret (v := .agg #[.int .i64 (mkA (v - 40) (1 + u)), .int .i64 (mkB (v - 40) (1 + u))]) ?_ rfl ⟨_, _, by rw [HK.out.1, HK.out.2]; exact HO.out, rfl, (((S5.out.set hRp HOLD.out).set hRp HOLD.out).keep (bA (bR _) _)).mono (by omega), gAlloc (gSet (gSet (gFrom G5.out) (Nat.le_refl _)) (Nat.le_refl _)) _⟩
      simp [results, Try.results83, go_sem, World.cell?_alloc_past, hR5, m0, m1]
end Go.Proofs.Ytclefibjmnabbaa

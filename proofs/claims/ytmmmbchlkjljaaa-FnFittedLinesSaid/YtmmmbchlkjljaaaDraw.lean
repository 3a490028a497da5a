/-
  A ratio that is drawn is valid: the contracts of spec.l02Draw, spec.l00From, spec.A2Ratios.
-/
import Derived.Test.YtmmmbchlkjljaaaMk
import Derived.Test.YtmmmbchlkjljaaaPick
namespace Go.Proofs.Ytmmmbchlkjljaaa
open Go.RowKit

theorem low_small {n d : Int} (h1 : -1000000000 ≤ n) (h2 : n ≤ 1000000000) (h3 : 1 ≤ d) (h4 : d ≤ 1000000000) : lowOk n d = true ∧ okR (mkN n d) (lowD n d) = true := by
  have hg : 0 < Int.gcd n d := Int.gcd_pos_of_ne_zero_right n (by omega)
  have hc : Nat.Coprime (n.natAbs / Int.gcd n d) (d.natAbs / Int.gcd n d) := Nat.coprime_div_gcd_div_gcd hg
  have eN : lowN n d = ((n.natAbs / Int.gcd n d : Nat) : Int) := by unfold lowN; rw [Int.natCast_ediv]
  have eD : lowD n d = ((d.natAbs / Int.gcd n d : Nat) : Int) := by unfold lowD; rw [Int.natCast_ediv]
  have bN : n.natAbs / Int.gcd n d ≤ n.natAbs := Nat.div_le_self _ _
  have bD' : d.natAbs / Int.gcd n d ≤ d.natAbs := Nat.div_le_self _ _
  have pD : 0 < d.natAbs / Int.gcd n d := Nat.div_pos (Nat.le_of_dvd (by omega) (Nat.gcd_dvd_right _ _)) hg
  have cN : (mkN n d).natAbs = n.natAbs / Int.gcd n d := by
    unfold mkN; rw [eN]; generalize n.natAbs / Int.gcd n d = m; split <;> omega
  refine ⟨by simp only [lowOk, eN, eD]; simp; omega, ?_⟩
  rw [okR_true]
  refine ⟨by omega, by omega, by omega, by omega, ?_⟩
  show Nat.gcd (mkN n d).natAbs (lowD n d).natAbs = 1
  rw [cN, eD, Int.natAbs_natCast]
  exact hc

/-- A valid ratio is returned; only the source's block is written. -/
def DrawPost (w : World) (p : Nat) (a : Option Addr) (len cap c : Nat) (e : Ending) (w' : World) : Prop :=
  ∃ n d : Int, okR n d = true ∧ e = .returned (.agg #[.int .i64 n, .int .i64 d]) ∧ SrcAt w' p a len cap (c + 10) ∧ w.grownBy w' (some p)

theorem gOfBelow {w w' : World} (p : Nat) (h : Below w.heap.size w w') : w.grownBy w' (some p) := ⟨h.os, h.tape, h.output, h.size, fun k hk _ => h.block k hk⟩
theorem SrcAt.keep {w w' : World} {p : Nat} {a : Option Addr} {len cap c : Nat} (h : SrcAt w p a len cap c) (hb : Below w.heap.size w w') : SrcAt w' p a len cap c := by
  obtain ⟨n, hn, e1⟩ := h.c1
  obtain ⟨s, e2⟩ := h.c2
  refine ⟨(hb.cell (p := ⟨p, 0, none⟩) h.lt).trans h.c0, ⟨n, hn, (hb.cell (p := ⟨p, 1, none⟩) h.lt).trans e1⟩, ⟨s, (hb.cell (p := ⟨p, 2, none⟩) h.lt).trans e2⟩, (hb.frozen (p := ⟨p, 1, none⟩) h.lt).trans h.f1, (hb.frozen (p := ⟨p, 2, none⟩) h.lt).trans h.f2, Nat.lt_of_lt_of_le h.lt hb.size, ?_, h.len0⟩
  intro i hi
  obtain ⟨xb, xo, z, hx, hxp, hcz, z0, z1⟩ := h.row i hi
  have hlt : xb < w.heap.size := by
    by_cases hb' : xb < w.heap.size
    · exact hb'
    · exfalso
      have : w.heap[xb]? = none := by simp; omega
      simp [World.cell?, this] at hcz
  exact ⟨xb, xo, z, hx, hxp, (hb.cell (p := ⟨xb, xo + i, none⟩) hlt).trans hcz, z0, z1⟩

theorem gcell {W w1 : World} {p : Nat} (g : W.grownBy w1 (some p)) : (∀ b o, b < W.heap.size → b ≠ p → w1.cell? ⟨b, o, none⟩ = W.cell? ⟨b, o, none⟩) ∧ (∀ b o, b < W.heap.size → b ≠ p → w1.frozen? ⟨b, o, none⟩ = W.frozen? ⟨b, o, none⟩) :=
  ⟨fun b _ h hn => World.cell?_of_block (g.block b h (fun e => hn (Option.some.inj e))), fun b _ h hn => World.frozen?_of_block (g.block b h (fun e => hn (Option.some.inj e)))⟩
theorem gSet {a b : World} {p r o : Nat} {v : Value} (g : a.grownBy b (some p)) (h : a.heap.size ≤ r) : a.grownBy (b.setCell ⟨r, o, none⟩ v) (some p) :=
  ⟨g.os, g.tape, g.output, by simpa [World.setCell] using g.size, fun k hk hn => (Below.heap_setCell _ _ _ _ (by simp; omega)).trans (g.block k hk hn)⟩
theorem gAlloc {a b : World} {p : Nat} (g : a.grownBy b (some p)) (o : Obj) : a.grownBy (b.alloc o) (some p) :=
  ⟨g.os, g.tape, g.output, by have := g.size; simp; omega, fun k hk hn => (Below.heap_alloc _ _ _ (Nat.lt_of_lt_of_le hk g.size)).trans (g.block k hk hn)⟩
theorem gBelow {a b c : World} {p : Nat} (g : a.grownBy b (some p)) (h : Below b.heap.size b c) : a.grownBy c (some p) :=
  ⟨h.os.trans g.os, h.tape.trans g.tape, h.output.trans g.output, Nat.le_trans g.size h.size, fun k hk hn => (h.block k (Nat.lt_of_lt_of_le hk g.size)).trans (g.block k hk hn)⟩
/-- From a world whose first new block is the base on: the source was there before. -/
theorem gFrom {w b : World} {p : Nat} {o : Obj} (g : (w.alloc o).grownBy b (some p)) : w.grownBy b (some p) :=
  ⟨g.os, g.tape, g.output, by have := g.size; simp at this; omega, fun k hk hn => (g.block k (by simp; omega) hn).trans (Below.heap_alloc _ _ _ hk)⟩
theorem SrcAt.set {w : World} {p : Nat} {a : Option Addr} {len cap c r o : Nat} {v : Value} (h : SrcAt w p a len cap c) (hr : r ≠ p) (hnew : 0 < len → ∀ xb xo, a = some ⟨xb, xo, none⟩ → xb ≠ r) : SrcAt (w.setCell ⟨r, o, none⟩ v) p a len cap c := by
  have hk : ∀ b o', b ≠ r → (w.setCell ⟨r, o, none⟩ v).cell? ⟨b, o', none⟩ = w.cell? ⟨b, o', none⟩ := fun _ _ hb => World.cell?_of_block (Below.heap_setCell _ _ _ _ hb)
  have hkf : ∀ b o', b ≠ r → (w.setCell ⟨r, o, none⟩ v).frozen? ⟨b, o', none⟩ = w.frozen? ⟨b, o', none⟩ := fun _ _ hb => World.frozen?_of_block (Below.heap_setCell _ _ _ _ hb)
  obtain ⟨n, hn, e1⟩ := h.c1
  obtain ⟨s, e2⟩ := h.c2
  refine ⟨(hk _ _ (Ne.symm hr)).trans h.c0, ⟨n, hn, (hk _ _ (Ne.symm hr)).trans e1⟩, ⟨s, (hk _ _ (Ne.symm hr)).trans e2⟩, (hkf _ _ (Ne.symm hr)).trans h.f1, (hkf _ _ (Ne.symm hr)).trans h.f2, by simpa [World.setCell] using h.lt, ?_, h.len0⟩
  intro i hi
  obtain ⟨xb, xo, z, hx, hxp, hcz, z0, z1⟩ := h.row i hi
  exact ⟨xb, xo, z, hx, hxp, (hk _ _ (hnew (by omega) xb xo hx)).trans hcz, z0, z1⟩
/-- The slice of a source lies below a block that is newer than it. -/
theorem SrcAt.old {w : World} {p : Nat} {a : Option Addr} {len cap c r : Nat} (h : SrcAt w p a len cap c) (hl : 0 < len) (hr : w.heap.size ≤ r) : ∀ xb xo, a = some ⟨xb, xo, none⟩ → xb ≠ r := by
  intro xb xo e
  obtain ⟨xb', xo', z, hx, hxp, hcz, z0, z1⟩ := h.row 0 hl
  rw [e] at hx
  cases hx
  have hlt : xb < w.heap.size := by
    by_cases hb' : xb < w.heap.size
    · exact hb'
    · exfalso
      have : w.heap[xb]? = none := by simp; omega
      simp [World.cell?, this] at hcz
  omega

end Go.Proofs.Ytmmmbchlkjljaaa

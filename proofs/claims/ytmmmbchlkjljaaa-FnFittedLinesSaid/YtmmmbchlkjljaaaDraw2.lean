/-
  The contracts of spec.l00From and spec.A2Ratios.
-/
import Derived.Test.YtmmmbchlkjljaaaDraw
import Derived.OpenShut
import Derived.RegionTactic
import Derived.Deep.RegionWith
namespace Go.Proofs.Ytmmmbchlkjljaaa
open Go.RowKit

theorem u8_bd {n : Int} (h : (Lit.int .u8 n).wf = true) : 0 ≤ n ∧ n ≤ 255 := by simpa [Lit.wf, IntKind.min, IntKind.max, IntKind.signed, IntKind.bits] using h

/-- A slice of bytes that came in, as a source reads it. -/
theorem row_of {w : World} {a : Option Addr} {len cap : Nat} {zs : List Int} (h : IsRow .u8 w a len cap zs) : (len ≤ cap ∧ cap ≤ maxLen) ∧
    ∀ i, i < len → ∃ xb xo : Nat, ∃ z : Int, a = some ⟨xb, xo, none⟩ ∧ xb < w.heap.size ∧ w.cell? ⟨xb, xo + i, none⟩ = some (.int .u8 z) ∧ 0 ≤ z ∧ z ≤ 255 := by
  rcases h with ⟨rfl, rfl, rfl, rfl⟩ | ⟨x, rfl, hl, hm, hz, hcell, hwf⟩
  · exact ⟨⟨Nat.le_refl _, Nat.zero_le _⟩, fun i hi => absurd hi (Nat.not_lt_zero _)⟩
  · refine ⟨⟨hl, hm⟩, fun i hi => ?_⟩
    obtain ⟨b, off, rfl, hc⟩ := ints_at hcell (by omega)
    have hi' : i < zs.length := by omega
    have hcz := hc i hi'
    have hlt : b < w.heap.size := by
      by_cases hb' : b < w.heap.size
      · exact hb'
      · exfalso
        have : w.heap[b]? = none := by simp; omega
        simp [World.cell?, this] at hcz
    have hmem : zs.getD i 0 ∈ zs := by rw [List.getD_eq_getElem?_getD, List.getElem?_eq_getElem hi']; exact List.getElem_mem hi'
    exact ⟨b, off, zs.getD i 0, rfl, hlt, hcz, (u8_bd (hwf _ hmem)).1, (u8_bd (hwf _ hmem)).2⟩

def FromPost (w : World) (a : Option Addr) (len cap : Nat) (e : Ending) (w' : World) : Prop :=
  e = .returned (.pointer (some ⟨w.heap.size, 0, none⟩)) ∧ SrcAt w' w.heap.size a len cap 0 ∧ Below w.heap.size w w'

theorem l00From_any (w : World) (a : Option Addr) (len cap : Nat) (zs : List Int) (h : IsRow .u8 w a len cap zs) :
    Calls Try.prog 65 #[.slice a len cap] w (FromPost w a len cap) := by
  have HR := Lib.hid (row_of h)
  clear h
  go_enter Try.func65, Try.ntmps65
  go_wp2_with fail
  go_ret
  refine ⟨rfl, ⟨by simp [go_sem], ⟨0, Nat.le_refl _, by simp [go_sem]⟩, ⟨0, by simp [go_sem]⟩, by simp [go_sem], by simp [go_sem], by simp, ?_, HR.out.1⟩, bA (bR _) _⟩
  intro i hi
  obtain ⟨xb, xo, z, hx, hlt, hcz, z0, z1⟩ := HR.out.2 i hi
  exact ⟨xb, xo, z, hx, by omega, ((bA (bR w) _).cell (p := ⟨xb, xo + i, none⟩) hlt).trans hcz, z0, z1⟩

theorem lt_cell {w : World} {b o : Nat} {v : Value} (h : w.cell? ⟨b, o, none⟩ = some v) : b < w.heap.size := by
  by_cases hb : b < w.heap.size
  · exact hb
  · exfalso
    have : w.heap[b]? = none := by simp; omega
    simp [World.cell?, this] at h
/-- A cell through a step that writes block p alone. -/
theorem gkeep {x y : World} {p b o : Nat} {v : Value} (g : x.grownBy y (some p)) (hb : b ≠ p) (h : x.cell? ⟨b, o, none⟩ = some v) : y.cell? ⟨b, o, none⟩ = some v := ((gcell g).1 b o (lt_cell h) hb).trans h
theorem gfrozen {x y : World} {p b o : Nat} (g : x.grownBy y (some p)) (hb : b ≠ p) (hl : b < x.heap.size) (h : x.frozen? ⟨b, o, none⟩ = false) : y.frozen? ⟨b, o, none⟩ = false := ((gcell g).2 b o hl hb).trans h
def TwoPost (w : World) (e : Ending) (w' : World) : Prop :=
  ∃ n d p q : Int, okR n d = true ∧ okR p q = true ∧ e = .returned (.tuple #[.agg #[.int .i64 n, .int .i64 d], .agg #[.int .i64 p, .int .i64 q]]) ∧ Below w.heap.size w w'

theorem IsRow.keep {k : IntKind} {w w' : World} {a : Option Addr} {len cap : Nat} {zs : List Int} (h : IsRow k w a len cap zs) (hb : Below w.heap.size w w') : IsRow k w' a len cap zs := by
  rcases h with h | ⟨x, hx, hl, hm, hz, hcell, hwf⟩
  · exact .inl h
  · refine .inr ⟨x, hx, hl, hm, hz, fun i hi => ?_, hwf⟩
    have hcz := hcell i hi
    have hlt : (x.add i).block < w.heap.size := by
      by_cases hb' : (x.add i).block < w.heap.size
      · exact hb'
      · exfalso
        have : w.heap[(x.add i).block]? = none := by simp; omega
        simp [World.cell?, this] at hcz
    exact (hb.cell hlt).trans hcz

def AtPost (w : World) (m : Int) (e : Ending) (w' : World) : Prop := ∃ v : Int, 0 ≤ v ∧ v ≤ m ∧ e = .returned (.int .i64 v) ∧ w = w'
end Go.Proofs.Ytmmmbchlkjljaaa

/-
  The contracts of l00Src.pick and l00Src.among.
-/
import Derived.Test.YtlgbkkbaiamapaaSrc
namespace Go.Proofs.Ytlgbkkbaiamapaa
open Go.RowKit

theorem gTrans {a b c : World} {p : Nat} (h : a.grownBy b (some p)) (k : b.grownBy c (some p)) : a.grownBy c (some p) :=
  ⟨k.os.trans h.os, k.tape.trans h.tape, k.output.trans h.output, Nat.le_trans h.size k.size, fun i hi hne => (k.block i (Nat.lt_of_lt_of_le hi h.size) hne).trans (h.block i hi hne)⟩
theorem gRefl (w : World) (p : Nat) : w.grownBy w (some p) := ⟨rfl, rfl, rfl, Nat.le_refl _, fun _ _ _ => rfl⟩
theorem SrcAt.mono {w : World} {p : Nat} {a : Option Addr} {len cap c c' : Nat} (h : SrcAt w p a len cap c) (hc : c ≤ c') : SrcAt w p a len cap c' := by
  obtain ⟨n, hn, e⟩ := h.c1
  exact ⟨h.c0, ⟨n, by omega, e⟩, h.c2, h.f1, h.f2, h.lt, h.row, h.len0⟩
/-- What is drawn lies from lo to hi. -/
def PickPost (w : World) (p : Nat) (a : Option Addr) (len cap c : Nat) (lo hi : Int) (e : Ending) (w' : World) : Prop :=
  ∃ v : Int, lo ≤ v ∧ v ≤ hi ∧ e = .returned (.int .i64 v) ∧ SrcAt w' p a len cap (c + 2) ∧ w.grownBy w' (some p)

/-- A list of numbers from lo to hi lies in a block of its own. -/
def Nums (w : World) (L k : Nat) (lo hi : Int) : Prop := ∀ i, i < k → ∃ z : Int, w.cell? ⟨L, i, none⟩ = some (.int .i64 z) ∧ lo ≤ z ∧ z ≤ hi
theorem Nums.keep {w w' : World} {L k p : Nat} {lo hi : Int} (h : Nums w L k lo hi) (hL : L ≠ p) (hl : L < w.heap.size) (g : w.grownBy w' (some p)) : Nums w' L k lo hi := by
  intro i hi'
  obtain ⟨z, hz, b⟩ := h i hi'
  exact ⟨z, (World.cell?_of_block (g.block L hl (fun e => hL (Option.some.inj e)))).trans hz, b⟩

end Go.Proofs.Ytlgbkkbaiamapaa

/-
  The contracts of l00Src.pick and l00Src.among.
-/
import Derived.Test.YtmmmbchlkjljaaaSrc
namespace Go.Proofs.Ytmmmbchlkjljaaa
open Go.RowKit

theorem gTrans {a b c : World} {p : Nat} (h : a.grownBy b (some p)) (k : b.grownBy c (some p)) : a.grownBy c (some p) :=
  ⟨k.os.trans h.os, k.tape.trans h.tape, k.output.trans h.output, Nat.le_trans h.size k.size, fun i hi hne => (k.block i (Nat.lt_of_lt_of_le hi h.size) hne).trans (h.block i hi hne)⟩
theorem gRefl (w : World) (p : Nat) : w.grownBy w (some p) := ⟨rfl, rfl, rfl, Nat.le_refl _, fun _ _ _ => rfl⟩
theorem SrcAt.mono {w : World} {p : Nat} {a : Option Addr} {len cap c c' : Nat} (h : SrcAt w p a len cap c) (hc : c ≤ c') : SrcAt w p a len cap c' := by
  obtain ⟨n, hn, e⟩ := h.c1
  exact ⟨h.c0, ⟨n, by omega, e⟩, h.c2, h.f1, h.f2, h.lt, h.row, h.len0⟩
/-- What is drawn lies from lo to hi. -/
def PickPost (w : World) (p : Nat) (a : Option Addr) (len cap c : Nat) (lo hi : Int) (e : Ending) (w' : World) : Prop :=
  ∃ v : Int, lo ≤ v ∧ v ≤ hi ∧ e = .returned (.int .i64 v) ∧ SrcAt w' p a len cap (c + 2) ∧ w.grownBy w' (some p)

set_option maxHeartbeats 400000 in
theorem pick_any (w : World) (p : Nat) (a : Option Addr) (len cap c : Nat) (n : Int) (h : SrcAt w p a len cap c) (hc : c ≤ 900000) (h1 : 1 ≤ n) (h2 : n ≤ 1000000) :
    Calls Try.prog 73 #[.pointer (some ⟨p, 0, none⟩), .int .i64 n] w (PickPost w p a len cap c 0 (n - 1)) := by
  have HH := Lib.hid h
  clear h
  by_cases c1 : n ≤ 1
  · go_enter Try.func73, Try.ntmps73
    go_wp2_with fail
    go_ret
    exact ⟨0, by omega, by omega, rfl, HH.out.mono (by omega), gRefl _ _⟩
  · have hz : (n == 0) = false := by simp; omega
    by_cases c2 : 200 < n
    · go_enter Try.func73, Try.ntmps73
      go_wp2_with fail
      refine (srcNext_any _ p a len cap c HH.out (by omega)).mono ?_
      rintro e w1 ⟨v, v0, v1, rfl, s1, g1⟩
      have S1 := Lib.hid s1
      clear s1
      go_wp2_with fail
      refine (srcNext_any _ p a len cap (c + 1) S1.out (by omega)).mono ?_
      rintro e w2 ⟨u, u0, u1, rfl, s2, g2⟩
      have S2 := Lib.hid s2
      clear s2
      have m0 := Int.emod_nonneg (v * 256 + u) (show n ≠ 0 by omega)
      have m1 := Int.emod_lt_of_pos (v * 256 + u) (show 0 < n by omega)
      go_wp2_with fail
      go_ret
      exact ⟨_, m0, by omega, rfl, S2.out, gTrans g1 g2⟩
    · go_enter Try.func73, Try.ntmps73
      go_wp2_with fail
      refine (srcNext_any _ p a len cap c HH.out (by omega)).mono ?_
      rintro e w1 ⟨v, v0, v1, rfl, s1, g1⟩
      have S1 := Lib.hid s1
      clear s1
      have m0 := Int.emod_nonneg v (show n ≠ 0 by omega)
      have m1 := Int.emod_lt_of_pos v (show 0 < n by omega)
      go_wp2_with fail
      go_ret
      exact ⟨_, m0, by omega, rfl, S1.out.mono (by omega), g1⟩

/-- A list of numbers from lo to hi lies in a block of its own. -/
def Nums (w : World) (L k : Nat) (lo hi : Int) : Prop := ∀ i, i < k → ∃ z : Int, w.cell? ⟨L, i, none⟩ = some (.int .i64 z) ∧ lo ≤ z ∧ z ≤ hi
theorem Nums.keep {w w' : World} {L k p : Nat} {lo hi : Int} (h : Nums w L k lo hi) (hL : L ≠ p) (hl : L < w.heap.size) (g : w.grownBy w' (some p)) : Nums w' L k lo hi := by
  intro i hi'
  obtain ⟨z, hz, b⟩ := h i hi'
  exact ⟨z, (World.cell?_of_block (g.block L hl (fun e => hL (Option.some.inj e)))).trans hz, b⟩

set_option maxHeartbeats 400000 in
theorem among_any (w : World) (p : Nat) (a : Option Addr) (len cap c : Nat) (L k : Nat) (lo hi : Int) (h : SrcAt w p a len cap c) (hc : c ≤ 900000) (hk1 : 1 ≤ k) (hk2 : k ≤ 1000) (hL : L ≠ p) (hl : L < w.heap.size) (hn : Nums w L k lo hi) :
    Calls Try.prog 75 #[.pointer (some ⟨p, 0, none⟩), .slice (some ⟨L, 0, none⟩) k k] w (PickPost w p a len cap c lo hi) := by
  have HH := Lib.hid h
  have HN := Lib.hid hn
  clear h hn
  go_enter Try.func75, Try.ntmps75
  go_wp2_with fail
  refine (pick_any _ p a len cap c (k : Int) HH.out (by omega) (by omega) (by omega)).mono ?_
  rintro e w1 ⟨v, v0, v1, rfl, s1, g1⟩
  have S1 := Lib.hid s1
  clear s1
  obtain ⟨i, rfl⟩ := Int.eq_ofNat_of_zero_le v0
  obtain ⟨z, hz, z0, z1⟩ := HN.out.keep hL hl g1 i (by omega)
  have hik : i < k := by omega
  go_wp2_with fail
  go_ret
  exact ⟨z, z0, z1, rfl, S1.out, g1⟩
end Go.Proofs.Ytmmmbchlkjljaaa

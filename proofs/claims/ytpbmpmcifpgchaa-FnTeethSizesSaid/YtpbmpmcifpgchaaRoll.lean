/-
  The dice of package laws: f6big, f6roll, f6dice.below: what is rolled lies in its range, and nothing but the dice's own block is written.
-/
import Derived.Test.YtpbmpmcifpgchaaPick
import Derived.Test.YtpbmpmcifpgchaaDraw2
namespace Go.Proofs.Ytpbmpmcifpgchaa
open Go.RowKit

theorem f6bigR_any (a : Option Addr) (len cap : Nat) (w : World) (_h : len ≤ 9223372036854775807) :
    Calls Try.prog 17 #[.slice a len cap] w fun e w' => e = .returned (.bool (decide (4096 < (len : Int)))) ∧ w = w' := by
  go_enter Try.func17, Try.ntmps17
  go_wp2_with fail
  go_ret
  exact ⟨rfl, rfl⟩
theorem src_set2 {w : World} {p : Nat} {a : Option Addr} {len cap c : Nat} (h : SrcAt w p a len cap c) (v : Int) :
    SrcAt (w.setCell ⟨p, 2, none⟩ (.int .u64 v)) p a len cap c ∧ w.grownBy (w.setCell ⟨p, 2, none⟩ (.int .u64 v)) (some p) := by
  obtain ⟨n1, hn1, e1⟩ := h.c1
  obtain ⟨s1, e2⟩ := h.c2
  have e0 := h.c0
  have g1 := h.f1
  have g2 := h.f2
  refine ⟨⟨?_, ⟨n1, hn1, ?_⟩, ⟨v, ?_⟩, ?_, ?_, ?_, ?_, h.len0⟩, ?_⟩
  · simp [go_sem, e0]
  · simp [go_sem, e1]
  · simp [go_sem, e2]
  · simp [go_sem, g1]
  · simp [go_sem, g2]
  · simp [World.setCell]; exact h.lt
  · intro i hi
    obtain ⟨xb, xo, z, hx, hxp, hcz, z0, z1⟩ := h.row i hi
    refine ⟨xb, xo, z, hx, hxp, ?_, z0, z1⟩
    rw [World.cell?_of_block (Below.heap_setCell _ _ _ _ hxp)]
    exact hcz
  · refine ⟨rfl, rfl, rfl, by simp [World.setCell], fun k hk hne => ?_⟩
    have hne' : k ≠ p := fun e => hne (by rw [e])
    exact Below.heap_setCell _ _ _ _ hne'
theorem src_set1 {w : World} {p : Nat} {a : Option Addr} {len cap c : Nat} (h : SrcAt w p a len cap c) (n : Nat) (hn : n ≤ c + 1) :
    SrcAt (w.setCell ⟨p, 1, none⟩ (.int .i64 n)) p a len cap (c + 1) ∧ w.grownBy (w.setCell ⟨p, 1, none⟩ (.int .i64 n)) (some p) := by
  obtain ⟨n1, hn1, e1⟩ := h.c1
  obtain ⟨s1, e2⟩ := h.c2
  have e0 := h.c0
  have g1 := h.f1
  have g2 := h.f2
  refine ⟨⟨?_, ⟨n, hn, ?_⟩, ⟨s1, ?_⟩, ?_, ?_, ?_, ?_, h.len0⟩, ?_⟩
  · simp [go_sem, e0]
  · simp [go_sem, e1]
  · simp [go_sem, e2]
  · simp [go_sem, g1]
  · simp [go_sem, g2]
  · simp [World.setCell]; exact h.lt
  · intro i hi
    obtain ⟨xb, xo, z, hx, hxp, hcz, z0, z1⟩ := h.row i hi
    refine ⟨xb, xo, z, hx, hxp, ?_, z0, z1⟩
    rw [World.cell?_of_block (Below.heap_setCell _ _ _ _ hxp)]
    exact hcz
  · refine ⟨rfl, rfl, rfl, by simp [World.setCell], fun k hk hne => ?_⟩
    have hne' : k ≠ p := fun e => hne (by rw [e])
    exact Below.heap_setCell _ _ _ _ hne'
/-- A step that writes a new block alone leaves what lay below. -/
theorem below_grown {w x y : World} {p : Nat} (h : Below w.heap.size w x) (g : x.grownBy y (some p)) (hp : w.heap.size ≤ p) : Below w.heap.size w y :=
  ⟨g.os.trans h.os, g.tape.trans h.tape, g.output.trans h.output, Nat.le_trans h.size g.size, fun k hk => (g.block k (Nat.lt_of_lt_of_le hk h.size) (fun e => by injection e with e; omega)).trans (h.block k hk)⟩
theorem and_bd (x : Int) (h0 : 0 ≤ x) (h1 : x < 18446744073709551616) : 0 ≤ bits BinOp.and IntKind.u64 x 16777215 ∧ bits BinOp.and IntKind.u64 x 16777215 ≤ 16777215 := by
  obtain ⟨y, rfl⟩ := Int.eq_ofNat_of_zero_le h0
  have e := bits_and_u64_nat y 16777215 (by omega) (by omega)
  have e' : bits BinOp.and IntKind.u64 (y : Int) 16777215 = ((y &&& 16777215 : Nat) : Int) := e
  rw [e']
  have h2 : y &&& 16777215 ≤ 16777215 := Nat.and_le_right
  omega
theorem u64_rng (t : Int) : 0 ≤ IntKind.u64.wrap t ∧ IntKind.u64.wrap t < 18446744073709551616 := by
  simp only [IntKind.wrap, IntKind.bits, IntKind.signed]; simp; omega
theorem roll_val {t z n : Int} (z0 : 0 ≤ z) (z1 : z ≤ 255) (hn : 1 ≤ n) : 0 ≤ (wrap64 (wrap64 (bits BinOp.and IntKind.u64 (IntKind.u64.wrap t / 8589934592) 16777215) + z)).tmod n ∧ (wrap64 (wrap64 (bits BinOp.and IntKind.u64 (IntKind.u64.wrap t / 8589934592) 16777215) + z)).tmod n ≤ n - 1 := by
  have r := u64_rng t
  have b := and_bd (IntKind.u64.wrap t / 8589934592) (by omega) (by omega)
  generalize bits BinOp.and IntKind.u64 (IntKind.u64.wrap t / 8589934592) 16777215 = x at *
  rw [IntWalk.wrap64_in x ⟨by omega, by omega⟩, IntWalk.wrap64_in (x + z) ⟨by omega, by omega⟩, Int.tmod_eq_emod_of_nonneg (by omega)]
  have := Int.emod_nonneg (x + z) (show n ≠ 0 by omega)
  have := Int.emod_lt_of_pos (x + z) (show 0 < n by omega)
  omega
theorem roll_val0 {t n : Int} (hn : 1 ≤ n) : 0 ≤ (wrap64 (bits BinOp.and IntKind.u64 (IntKind.u64.wrap t / 8589934592) 16777215)).tmod n ∧ (wrap64 (bits BinOp.and IntKind.u64 (IntKind.u64.wrap t / 8589934592) 16777215)).tmod n ≤ n - 1 := by
  have r := u64_rng t
  have b := and_bd (IntKind.u64.wrap t / 8589934592) (by omega) (by omega)
  generalize bits BinOp.and IntKind.u64 (IntKind.u64.wrap t / 8589934592) 16777215 = x at *
  rw [IntWalk.wrap64_in x ⟨by omega, by omega⟩, Int.tmod_eq_emod_of_nonneg (by omega)]
  have := Int.emod_nonneg x (show n ≠ 0 by omega)
  have := Int.emod_lt_of_pos x (show 0 < n by omega)
  omega
theorem bDD (w : World) (k : Nat) : Below w.heap.size w (w.drewN k) := bD (bR w) k
end Go.Proofs.Ytpbmpmcifpgchaa

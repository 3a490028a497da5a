/-
  The dice of package laws: f6big, f6roll, f6dice.below: what is rolled lies in its range, and nothing but the dice's own block is written.
-/
import Derived.Test.YtmmmbchlkjljaaaPick
import Derived.Test.YtmmmbchlkjljaaaDraw2
namespace Go.Proofs.Ytmmmbchlkjljaaa
open Go.RowKit

theorem f6bigR_any (a : Option Addr) (len cap : Nat) (w : World) (_h : len ≤ 9223372036854775807) :
    Calls Try.prog 24 #[.slice a len cap] w fun e w' => e = .returned (.bool (decide (4096 < (len : Int)))) ∧ w = w' := by
  go_enter Try.func24, Try.ntmps24
  go_wp2_with fail
  go_ret
  exact ⟨rfl, rfl⟩
theorem src_set2 {w : World} {p : Nat} {a : Option Addr} {len cap c : Nat} (h : SrcAt w p a len cap c) (v : Int) :
    SrcAt (w.setCell ⟨p, 2, none⟩ (.int .u64 v)) p a len cap c ∧ w.grownBy (w.setCell ⟨p, 2, none⟩ (.int .u64 v)) (some p) := by
  obtain ⟨n1, hn1, e1⟩ := h.c1
  obtain ⟨s1, e2⟩ := h.c2
  have e0 := h.c0
  have g1 := h.f1
  have g2 := h.f2
  refine ⟨⟨?_, ⟨n1, hn1, ?_⟩, ⟨v, ?_⟩, ?_, ?_, ?_, ?_, h.len0⟩, ?_⟩
  · simp [go_sem, e0]
  · simp [go_sem, e1]
  · simp [go_sem, e2]
  · simp [go_sem, g1]
  · simp [go_sem, g2]
  · simp [World.setCell]; exact h.lt
  · intro i hi
    obtain ⟨xb, xo, z, hx, hxp, hcz, z0, z1⟩ := h.row i hi
    refine ⟨xb, xo, z, hx, hxp, ?_, z0, z1⟩
    rw [World.cell?_of_block (Below.heap_setCell _ _ _ _ hxp)]
    exact hcz
  · refine ⟨rfl, rfl, rfl, by simp [World.setCell], fun k hk hne => ?_⟩
    have hne' : k ≠ p := fun e => hne (by rw [e])
    exact Below.heap_setCell _ _ _ _ hne'
theorem src_set1 {w : World} {p : Nat} {a : Option Addr} {len cap c : Nat} (h : SrcAt w p a len cap c) (n : Nat) (hn : n ≤ c + 1) :
    SrcAt (w.setCell ⟨p, 1, none⟩ (.int .i64 n)) p a len cap (c + 1) ∧ w.grownBy (w.setCell ⟨p, 1, none⟩ (.int .i64 n)) (some p) := by
  obtain ⟨n1, hn1, e1⟩ := h.c1
  obtain ⟨s1, e2⟩ := h.c2
  have e0 := h.c0
  have g1 := h.f1
  have g2 := h.f2
  refine ⟨⟨?_, ⟨n, hn, ?_⟩, ⟨s1, ?_⟩, ?_, ?_, ?_, ?_, h.len0⟩, ?_⟩
  · simp [go_sem, e0]
  · simp [go_sem, e1]
  · simp [go_sem, e2]
  · simp [go_sem, g1]
  · simp [go_sem, g2]
  · simp [World.setCell]; exact h.lt
  · intro i hi
    obtain ⟨xb, xo, z, hx, hxp, hcz, z0, z1⟩ := h.row i hi
    refine ⟨xb, xo, z, hx, hxp, ?_, z0, z1⟩
    rw [World.cell?_of_block (Below.heap_setCell _ _ _ _ hxp)]
    exact hcz
  · refine ⟨rfl, rfl, rfl, by simp [World.setCell], fun k hk hne => ?_⟩
    have hne' : k ≠ p := fun e => hne (by rw [e])
    exact Below.heap_setCell _ _ _ _ hne'
/-- A step that writes a new block alone leaves what lay below. -/
theorem below_grown {w x y : World} {p : Nat} (h : Below w.heap.size w x) (g : x.grownBy y (some p)) (hp : w.heap.size ≤ p) : Below w.heap.size w y :=
  ⟨g.os.trans h.os, g.tape.trans h.tape, g.output.trans h.output, Nat.le_trans h.size g.size, fun k hk => (g.block k (Nat.lt_of_lt_of_le hk h.size) (fun e => by injection e with e; omega)).trans (h.block k hk)⟩
set_option maxHeartbeats 2000000 in
theorem f6roll_any (w : World) (a : Option Addr) (len cap : Nat) (zs : List Int) (sd : Int) (h : IsRow .u8 w a len cap zs) :
    Calls Try.prog 31 #[.slice a len cap, .int .u64 sd] w (FromPost w a len cap) := by
  have HR := Lib.hid (row_of h)
  have l1 := (row_of h).1
  unfold maxLen at l1
  clear h
  go_enter Try.func31, Try.ntmps31
  go_wp2_with fail
  have X0 := Lib.hid (show SrcAt (w.alloc (.cells #[.slice a len cap, .int .i64 0, .int .u64 (IntKind.u64.wrap (IntKind.u64.wrap (sd * 7919) + (len : Int)))] 79)) w.heap.size a len cap 0 from
    ⟨by simp [go_sem], ⟨0, Nat.le_refl _, by simp [go_sem]⟩, ⟨_, by simp [go_sem]; rfl⟩, by simp [go_sem], by simp [go_sem], by simp, fun i hi => by
      obtain ⟨xb, xo, z, hx, hlt, hcz, z0, z1⟩ := HR.out.2 i hi
      exact ⟨xb, xo, z, hx, by omega, ((bA (bR w) _).cell (p := ⟨xb, xo + i, none⟩) hlt).trans hcz, z0, z1⟩, HR.out.1⟩)
  go_loopw [6] (fun i wr => ∃ k : Nat, k ≤ len ∧ i = .int .i64 k ∧ SrcAt wr w.heap.size a len cap 0 ∧ Below w.heap.size w wr) (fun i _ => len - (intOf i).toNat)
  case atStart => exact ⟨0, by omega, rfl, X0.out, bA (bR _) _⟩
  case round =>
    obtain ⟨k, hk, rfl, hs, hb⟩ := hrel
    have HS := Lib.hid hs
    have HB := Lib.hid hb
    by_cases hlt : k < len
    · obtain ⟨xb, xo, z, rfl, hxp, hcz, z0, z1⟩ := HS.out.row k hlt
      obtain ⟨s1, e2⟩ := HS.out.c2
      have g2 := HS.out.f2
      have hpl := HS.out.lt
      clear hs hb X0
      go_wp2_with fail
      go_region
      go_wp2_with fail
      refine ⟨⟨k + 1, by omega, by congr 1, ?_, ?_⟩, by simp [intOf]; omega⟩
      · exact (src_set2 HS.out _).1.keep (bR _).drew
      · exact bT (below_grown HB.out (src_set2 HS.out _).2 (Nat.le_refl _)) (bR _).drew
    · clear hs hb X0
      go_wp2_with fail
      go_ret
      exact ⟨rfl, HS.out, HB.out⟩
theorem and_bd (x : Int) (h0 : 0 ≤ x) (h1 : x < 18446744073709551616) : 0 ≤ bits BinOp.and IntKind.u64 x 16777215 ∧ bits BinOp.and IntKind.u64 x 16777215 ≤ 16777215 := by
  obtain ⟨y, rfl⟩ := Int.eq_ofNat_of_zero_le h0
  have e := bits_and_u64_nat y 16777215 (by omega) (by omega)
  have e' : bits BinOp.and IntKind.u64 (y : Int) 16777215 = ((y &&& 16777215 : Nat) : Int) := e
  rw [e']
  have h2 : y &&& 16777215 ≤ 16777215 := Nat.and_le_right
  omega
theorem u64_rng (t : Int) : 0 ≤ IntKind.u64.wrap t ∧ IntKind.u64.wrap t < 18446744073709551616 := by
  simp only [IntKind.wrap, IntKind.bits, IntKind.signed]; simp; omega
theorem roll_val {t z n : Int} (z0 : 0 ≤ z) (z1 : z ≤ 255) (hn : 1 ≤ n) : 0 ≤ (wrap64 (wrap64 (bits BinOp.and IntKind.u64 (IntKind.u64.wrap t / 8589934592) 16777215) + z)).tmod n ∧ (wrap64 (wrap64 (bits BinOp.and IntKind.u64 (IntKind.u64.wrap t / 8589934592) 16777215) + z)).tmod n ≤ n - 1 := by
  have r := u64_rng t
  have b := and_bd (IntKind.u64.wrap t / 8589934592) (by omega) (by omega)
  generalize bits BinOp.and IntKind.u64 (IntKind.u64.wrap t / 8589934592) 16777215 = x at *
  rw [IntWalk.wrap64_in x ⟨by omega, by omega⟩, IntWalk.wrap64_in (x + z) ⟨by omega, by omega⟩, Int.tmod_eq_emod_of_nonneg (by omega)]
  have := Int.emod_nonneg (x + z) (show n ≠ 0 by omega)
  have := Int.emod_lt_of_pos (x + z) (show 0 < n by omega)
  omega
theorem roll_val0 {t n : Int} (hn : 1 ≤ n) : 0 ≤ (wrap64 (bits BinOp.and IntKind.u64 (IntKind.u64.wrap t / 8589934592) 16777215)).tmod n ∧ (wrap64 (bits BinOp.and IntKind.u64 (IntKind.u64.wrap t / 8589934592) 16777215)).tmod n ≤ n - 1 := by
  have r := u64_rng t
  have b := and_bd (IntKind.u64.wrap t / 8589934592) (by omega) (by omega)
  generalize bits BinOp.and IntKind.u64 (IntKind.u64.wrap t / 8589934592) 16777215 = x at *
  rw [IntWalk.wrap64_in x ⟨by omega, by omega⟩, Int.tmod_eq_emod_of_nonneg (by omega)]
  have := Int.emod_nonneg x (show n ≠ 0 by omega)
  have := Int.emod_lt_of_pos x (show 0 < n by omega)
  omega
theorem bDD (w : World) (k : Nat) : Below w.heap.size w (w.drewN k) := bD (bR w) k
set_option maxHeartbeats 2000000 in
theorem below_any (w : World) (p : Nat) (a : Option Addr) (len cap c : Nat) (n : Int) (h : SrcAt w p a len cap c) (hc : c ≤ 900000) (h1 : 1 ≤ n) (h2 : n ≤ 9000000000000000000) :
    Calls Try.prog 32 #[.pointer (some ⟨p, 0, none⟩), .int .i64 n] w (PickPost w p a len cap c 0 (n - 1)) := by
  have HH := Lib.hid h
  obtain ⟨i, hi, e1⟩ := h.c1
  obtain ⟨s1, e2⟩ := h.c2
  have e0 := h.c0
  have g1 := h.f1
  have g2 := h.f2
  have hpl := h.lt
  clear h
  have hz : (n == 0) = false := by simp; omega
  by_cases hlt : i < len
  · obtain ⟨xb, xo, z, rfl, hxp, hcz, z0, z1⟩ := HH.out.row i hlt
    go_enter Try.func32, Try.ntmps32
    go_wp2_with fail
    go_quiet (fail)
    go_wp2_with fail
    go_quiet (fail)
    go_wp2_with fail
    go_ret
    rename_i nq1
    have S1 := (src_set2 HH.out (IntKind.u64.wrap (IntKind.u64.wrap (s1 * 6364136223846793005) + 1442695040888963407)))
    have S2 := S1.1.keep (bDD _ (nq1 + nq))
    have S3 := src_set1 S2 (i + 1) (by omega)
    exact ⟨_, (roll_val z0 z1 h1).1, (roll_val z0 z1 h1).2, rfl, S3.1.mono (by omega), gTrans (gBelow S1.2 (bDD _ _)) S3.2⟩
  · go_enter Try.func32, Try.ntmps32
    go_wp2_with fail
    go_quiet (fail)
    go_wp2_with fail
    go_ret
    have S1 := (src_set2 HH.out (IntKind.u64.wrap (IntKind.u64.wrap (s1 * 6364136223846793005) + 1442695040888963407)))
    have S2 := S1.1.keep (bDD _ nq)
    exact ⟨_, (roll_val0 h1).1, (roll_val0 h1).2, rfl, S2.mono (by omega), gBelow S1.2 (bDD _ _)⟩
end Go.Proofs.Ytmmmbchlkjljaaa

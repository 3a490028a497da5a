/-
  The source of choices of package spec: the contracts of l00From, l00Src.next, pick, among: what is drawn lies in its range, and nothing but the source's own block is written.
-/
import Derived.Test.YtmmmbchlkjljaaaRat
import Derived.Laws.Bits64b
namespace Go.Proofs.Ytmmmbchlkjljaaa
open Go.RowKit

/-- A slice of integers that came in: it is nil, or it leads to a row of 'cap' cells, the numbers zs. -/
def IsRow (k : IntKind) (w : World) (a : Option Addr) (len cap : Nat) (zs : List Int) : Prop :=
  (a = none ∧ len = 0 ∧ cap = 0 ∧ zs = []) ∨
  ∃ x, a = some x ∧ len ≤ cap ∧ cap ≤ maxLen ∧ zs.length = cap ∧ (∀ i, i < zs.length → w.cell? (x.add i) = some (.int k (zs.getD i 0))) ∧ ∀ n ∈ zs, (Lit.int k n).wf = true

/-- A source lies at block p: it reads the bytes of a slice that lies elsewhere, and has been read at most c times. -/
structure SrcAt (w : World) (p : Nat) (a : Option Addr) (len cap : Nat) (c : Nat) : Prop where
  c0 : w.cell? ⟨p, 0, none⟩ = some (.slice a len cap)
  c1 : ∃ n : Nat, n ≤ c ∧ w.cell? ⟨p, 1, none⟩ = some (.int .i64 n)
  c2 : ∃ s : Int, w.cell? ⟨p, 2, none⟩ = some (.int .u64 s)
  f1 : w.frozen? ⟨p, 1, none⟩ = false
  f2 : w.frozen? ⟨p, 2, none⟩ = false
  lt : p < w.heap.size
  row : ∀ i, i < len → ∃ xb xo : Nat, ∃ z : Int, a = some ⟨xb, xo, none⟩ ∧ xb ≠ p ∧ w.cell? ⟨xb, xo + i, none⟩ = some (.int .u8 z) ∧ 0 ≤ z ∧ z ≤ 255
  len0 : len ≤ cap ∧ cap ≤ maxLen

def NextPost (w : World) (p : Nat) (a : Option Addr) (len cap : Nat) (c : Nat) (m : Int) (e : Ending) (w' : World) : Prop :=
  ∃ v : Int, 0 ≤ v ∧ v ≤ m ∧ e = .returned (.int .i64 v) ∧ SrcAt w' p a len cap (c + 1) ∧ w.grownBy w' (some p)

theorem low_byte (t : Int) : 0 ≤ wrap64 (bits BinOp.and IntKind.u64 (IntKind.u64.wrap t / 1099511627776) 255) ∧ wrap64 (bits BinOp.and IntKind.u64 (IntKind.u64.wrap t / 1099511627776) 255) ≤ 255 := by
  have h : 0 ≤ IntKind.u64.wrap t / 1099511627776 ∧ IntKind.u64.wrap t / 1099511627776 < 18446744073709551616 := by
    simp only [IntKind.wrap, IntKind.bits, IntKind.signed]; simp; omega
  obtain ⟨h0, h1⟩ := h
  generalize IntKind.u64.wrap t / 1099511627776 = x at *
  obtain ⟨y, rfl⟩ := Int.eq_ofNat_of_zero_le h0
  have e := bits_and_u64_nat y 255 (by omega) (by omega)
  have e' : bits BinOp.and IntKind.u64 (y : Int) 255 = ((y &&& 255 : Nat) : Int) := e
  rw [e']
  have h2 : y &&& 255 ≤ 255 := Nat.and_le_right
  have h3 : wrap64 ((y &&& 255 : Nat) : Int) = ((y &&& 255 : Nat) : Int) := IntWalk.wrap64_in _ ⟨by omega, by omega⟩
  rw [h3]; omega
theorem src_step {w : World} {p : Nat} {a : Option Addr} {len cap c : Nat} (h : SrcAt w p a len cap c) {n : Nat} (hn : n ≤ c) (x y : Nat) (m v : Int) (hm : m = (n : Int) + 1) :
    SrcAt ((((w.drewN x).setCell ⟨p, 1, none⟩ (.int .i64 m)).setCell ⟨p, 2, none⟩ (.int .u64 v)).drewN y) p a len cap (c + 1) ∧
    w.grownBy ((((w.drewN x).setCell ⟨p, 1, none⟩ (.int .i64 m)).setCell ⟨p, 2, none⟩ (.int .u64 v)).drewN y) (some p) := by
  obtain ⟨n1, hn1, e1⟩ := h.c1
  obtain ⟨s1, e2⟩ := h.c2
  have e0 := h.c0
  have g1 := h.f1
  have g2 := h.f2
  refine ⟨⟨?_, ⟨n + 1, by omega, ?_⟩, ⟨v, ?_⟩, ?_, ?_, ?_, ?_, h.len0⟩, ?_⟩
  · simp [go_sem, e0]
  · rw [hm]; simp [go_sem, e1]
  · simp [go_sem, e2]
  · simp [go_sem, g1]
  · simp [go_sem, g2]
  · simp [World.setCell]; exact h.lt
  · intro i hi
    obtain ⟨xb, xo, z, hx, hxp, hcz, z0, z1⟩ := h.row i hi
    refine ⟨xb, xo, z, hx, hxp, ?_, z0, z1⟩
    rw [World.cell?_drewN, World.cell?_of_block (Below.heap_setCell _ _ _ _ hxp), World.cell?_of_block (Below.heap_setCell _ _ _ _ hxp)]
    exact hcz
  · refine ⟨rfl, rfl, rfl, by simp [World.setCell], fun k hk hne => ?_⟩
    have hne' : k ≠ p := fun e => hne (by rw [e])
    show (((w.drewN x).setCell ⟨p, 1, none⟩ (.int .i64 m)).setCell ⟨p, 2, none⟩ (.int .u64 v)).heap[k]? = w.heap[k]?
    rw [Below.heap_setCell _ _ _ _ hne', Below.heap_setCell _ _ _ _ hne']
    rfl

set_option maxHeartbeats 1000000 in
theorem srcNext_any (w : World) (p : Nat) (a : Option Addr) (len cap c : Nat) (h : SrcAt w p a len cap c) (hc : c ≤ 1000000) :
    Calls Try.prog 92 #[.pointer (some ⟨p, 0, none⟩)] w (NextPost w p a len cap c 255) := by
  obtain ⟨n, hn, hc1⟩ := h.c1
  obtain ⟨s, hc2⟩ := h.c2
  have hc0 := h.c0
  have hf1 := h.f1
  have hf2 := h.f2
  have hlt := h.lt
  obtain ⟨l1, l2⟩ := h.len0
  unfold maxLen at l2
  have HR := Lib.hid h.row
  have HH := Lib.hid h
  clear h
  by_cases hin : n < len
  · obtain ⟨xb, xo, z, hx, hxp, hcz, z0, z1⟩ := HR.out n hin
    subst hx
    have hin' : n + 1 ≤ len := hin
    go_enter Try.func92, Try.ntmps92
    go_wp2_with fail
    go_quiet (fail)
    go_wp2_with fail
    go_quiet (fail)
    go_wp2_with fail
    go_quiet (fail)
    go_wp2_with fail
    go_ret
    exact ⟨z, z0, z1, rfl, (src_step HH.out hn _ _ _ _ rfl).1, (src_step HH.out hn _ _ _ _ rfl).2⟩
  · have hin' : ¬ n + 1 ≤ len := by omega
    go_enter Try.func92, Try.ntmps92
    go_wp2_with fail
    go_quiet (fail)
    go_wp2_with fail
    go_quiet (fail)
    go_wp2_with fail
    go_ret
    exact ⟨_, (low_byte _).1, (low_byte _).2, rfl, (src_step HH.out hn _ _ _ _ rfl).1, (src_step HH.out hn _ _ _ _ rfl).2⟩
end Go.Proofs.Ytmmmbchlkjljaaa

/-
  The contract of spec.PathOf.
-/
import Derived.Test.YtcgennkddoajeaaDoorPoM
import Derived.Test.YtcgennkddoajeaaDoorPoB
import Derived.Test.YtcgennkddoajeaaDoorTermsS
import Derived.Test.YtcgennkddoajeaaDoorEq64
namespace Go.Proofs.YtcgennkddoajeaaDoor
open Go.RowKit

/-- What PathOf returns. -/
def pathL (n d : Int) : List Bool := runs true (terms n d)
def poC (n d : Int) : Int := if okR n d = true then (if n ≤ 0 then 2 else if 200 < (pathL n d).length then 5 else 0) else 1
def poT (n d : Int) : ByteArray := if okR n d = true ∧ 0 < n ∧ (pathL n d).length ≤ 200 then pth (pathL n d) else ⟨#[]⟩
theorem po_no {n d : Int} (h : okR n d = false) : poC n d = 1 ∧ poT n d = ⟨#[]⟩ := by simp [poC, poT, h]
theorem po_neg {n d : Int} (h : okR n d = true) (hn : n ≤ 0) : poC n d = 2 ∧ poT n d = ⟨#[]⟩ := by
  constructor
  · simp [poC, h, hn]
  · unfold poT; rw [if_neg (by omega)]
theorem po_full {n d : Int} (h : okR n d = true) (hn : 0 < n) (hl : 200 < (pathL n d).length) : poC n d = 5 ∧ poT n d = ⟨#[]⟩ := by
  constructor
  · unfold poC; rw [if_pos h, if_neg (by omega), if_pos hl]
  · unfold poT; rw [if_neg (by omega)]
theorem po_ok {n d : Int} (h : okR n d = true) (hn : 0 < n) (hl : (pathL n d).length ≤ 200) : poC n d = 0 ∧ poT n d = pth (pathL n d) := by
  constructor
  · unfold poC; rw [if_pos h, if_neg (by omega), if_neg (by omega)]
  · unfold poT; rw [if_pos ⟨h, hn, hl⟩]
theorem terms_le : ∀ (k : Nat) (x y : Int), y.toNat ≤ k → 0 ≤ x → x ≤ 1000000000 → y ≤ 1000000000 → ∀ t ∈ terms x y, 0 ≤ t ∧ t ≤ 1000000000
  | k, x, y, hk, hx, hx2, hy2, t, ht => by
    by_cases hy : 1 ≤ y
    · rw [terms_pos hy] at ht
      have m1 := Int.emod_nonneg x (show y ≠ 0 by omega)
      have m2 := Int.emod_lt_of_pos x (show 0 < y by omega)
      rcases List.mem_cons.1 ht with rfl | ht
      · exact ⟨Int.ediv_nonneg hx (by omega), Int.le_trans (Int.ediv_le_self y hx) hx2⟩
      · match k, hk with
        | 0, hk => omega
        | k + 1, hk => exact terms_le k y (x % y) (by omega) (by omega) hy2 (by omega) t ht
    · rw [terms_zero (by omega)] at ht; cases ht
theorem rowB_new (w : World) (t : TypeId) : (w.alloc (.cells #[] t)).ownsRow w.heap.size t 1 (.slice (some ⟨w.heap.size, 0, none⟩) 0 0) 0 [] :=
  ⟨rfl, .inr ⟨w.heap.size, 0, #[], rfl, Nat.le_refl _, (MapKept.heap_alloc w _).1, Nat.le_refl _, Nat.zero_le _, rfl, rfl⟩⟩
theorem belB_grown {B : Nat} {a b c : World} {row : Option Nat} (h : Below B a b) (g : b.grownBy c row) (hB : B ≤ b.heap.size) (hr : ∀ r, row = some r → B ≤ r) : Below B a c :=
  ⟨g.os.trans h.os, g.tape.trans h.tape, g.output.trans h.output, Nat.le_trans h.size g.size, fun k hk => (g.block k (Nat.lt_of_lt_of_le hk hB) (fun e => by have := hr k e.symm; omega)).trans (h.block k hk)⟩
theorem ownB_blk {W : World} {B : Nat} {t : TypeId} {sz n : Nat} {v : Value} {xs : List Value} (h : W.ownsRow B t sz v n xs) : ∀ r, v.ownBlock = some r → B ≤ r := by
  intro r e
  rcases h.2 with ⟨rfl, _⟩ | ⟨g, cap, cur, rfl, hB, hh, _⟩
  · cases e
  · cases e; exact hB
/-- What the loop over the terms carries. -/
def PoRel (W1 : World) (tl : List Int) (o i : Value) (wr : World) : Prop :=
  ∃ k : Nat, k ≤ tl.length ∧ i = .int .i64 k ∧ (flatR true (tl.take k)).length ≤ 200 ∧ wr.ownsRow W1.heap.size 5 1 o (flatR true (tl.take k)).length (cellsP (flatR true (tl.take k))) ∧ Below W1.heap.size W1 wr
/-- What the loop over one term carries. -/
def PjRel (W1 : World) (l : List Bool) (b : Bool) (tn : Nat) (o i : Value) (wr : World) : Prop :=
  ∃ j : Nat, j ≤ tn ∧ i = .int .i64 j ∧ wr.ownsRow W1.heap.size 5 1 o (l ++ List.replicate j b).length (cellsP (l ++ List.replicate j b)) ∧ Below W1.heap.size W1 wr
theorem own_slice {W : World} {B : Nat} {t : TypeId} {sz n : Nat} {v : Value} {xs : List Value} (h : W.ownsRow B t sz v n xs) : ∃ ao cap, v = .slice ao n cap := by
  rcases h.2 with ⟨rfl, h0⟩ | ⟨g, cap, cur, rfl, _⟩
  · exact ⟨none, 0, by rw [h0]⟩
  · exact ⟨_, _, rfl⟩
def numsP (l : List Bool) : List Int := l.map fun b => if b then 82 else 76
theorem nums_str (l : List Bool) : strOfNums (numsP l) = pth l := by
  unfold strOfNums numsP pth
  congr 1
  rw [List.map_map]
  congr 1
  apply List.map_congr_left
  intro b _
  cases b <;> rfl
theorem nums_at {l : List Bool} {i : Nat} (h : i < l.length) : (cellsP l)[i]? = some (.int .u8 ((numsP l).getD i 0)) := by
  unfold cellsP numsP
  rw [List.getElem?_map, List.getD_eq_getElem?_getD, List.getElem?_map, List.getElem?_eq_getElem h]
  rfl
theorem ret_pc {a b : ByteArray} {c e : Int} (h : a = b) (h2 : c = e) : Ending.returned (.tuple #[.string a, .int .i64 c]) = .returned (.tuple #[.string b, .int .i64 e]) := by rw [h, h2]
def PoRet (w : World) (n d : Int) (e : Ending) (w' : World) : Prop := e = .returned (.tuple #[.string (poT n d), .int .i64 (poC n d)]) ∧ Below w.heap.size w w'
end Go.Proofs.YtcgennkddoajeaaDoor

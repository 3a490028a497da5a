/-
  Decimal texts: the plain arithmetic, and the contract of spec.l01Dec.
-/
import Derived.Test.YtmhheecjpalajaaNum
import Derived.Lib.ItoaMem
import Derived.Laws.BytesArg
import Derived.OwnWalk
namespace Go.Proofs.Ytmhheecjpalajaa
open Go.RowKit

/-- The digits of a number from the left, none for 0. -/
def dl (u : Nat) : List UInt8 := if _h : u = 0 then [] else dl (u / 10) ++ [UInt8.ofNat (48 + u % 10)]
termination_by u
decreasing_by omega
theorem dl_zero : dl 0 = [] := by rw [dl]; simp
theorem dl_pos {u : Nat} (h : u ≠ 0) : dl u = dl (u / 10) ++ [UInt8.ofNat (48 + u % 10)] := by rw [dl, dif_neg h]
theorem dl_dec : ∀ (u : Nat), u ≠ 0 → dl u = Lib.decDigits u := by
  intro u
  induction u using Nat.strongRecOn with
  | _ u ih =>
    intro h
    rw [dl_pos h, Lib.decDigits]
    by_cases h10 : u < 10
    · rw [dif_pos h10, show u / 10 = 0 by omega, dl_zero, Nat.mod_eq_of_lt h10]; rfl
    · rw [dif_neg h10, ih (u / 10) (by omega) (by omega)]
theorem dl_nil {u : Nat} (h : dl u = []) : u = 0 := by
  by_cases h0 : u = 0
  · exact h0
  · rw [dl_pos h0] at h
    simp at h
theorem dl_len : ∀ (b u : Nat), u < 10 ^ b → (dl u).length ≤ b := by
  intro b
  induction b with
  | zero => intro u h; rw [show u = 0 by simpa using h, dl_zero]; simp
  | succ b ih =>
    intro u h
    by_cases h0 : u = 0
    · rw [h0, dl_zero]; simp
    · rw [dl_pos h0]
      have := ih (u / 10) (by rw [Nat.pow_succ] at h; omega)
      simp; omega
/-- A byte as a cell. -/
def by8 (c : UInt8) : Value := .int .u8 (c.toNat : Int)
theorem by8_digit {d : Int} {m : Nat} (h0 : d = ((m % 10 : Nat) : Int)) : by8 (UInt8.ofNat (48 + m % 10)) = .int .u8 (48 + d) := by
  unfold by8
  have : (UInt8.ofNat (48 + m % 10)).toNat = 48 + m % 10 := by rw [UInt8.toNat_ofNat']; omega
  rw [this, h0]; rfl

/-- What the loop of l01Dec keeps: the number that is left, and the digits that have been written. -/
def DecRel (w : World) (n : Int) (v kv : Value) (wr : World) : Prop :=
  ∃ (k : Int) (ds : List UInt8) (g cap : Nat), kv = .int .i64 k ∧ (n ≤ k ∧ k ≤ 0 ∨ 0 ≤ k ∧ k ≤ n) ∧ dl k.natAbs ++ ds = dl n.natAbs ∧ v = .slice (some ⟨g, 0, none⟩) ds.length cap ∧
    wr.ownsRow w.heap.size 5 1 v ds.length (ds.map by8) ∧ Below w.heap.size w wr
theorem info8 : (Try.prog.info? 5).map (fun i => (i.zero, i.size, i.bytes)) = some (some (.int .u8 0), 1, 1) := by kernel_rfl

theorem dec_start (w : World) (n : Int) : DecRel w n (.slice (some ⟨w.heap.size, 0, none⟩) 0 0) (.int .i64 n) (w.alloc (.cells #[] 5)) := by
  refine ⟨n, [], w.heap.size, 0, rfl, by omega, by simp, rfl, ⟨rfl, .inr ⟨w.heap.size, 0, #[], rfl, Nat.le_refl _, (MapKept.heap_alloc w _).1, Nat.le_refl _, Nat.zero_le _, rfl, rfl⟩⟩, (Below.refl _ _).alloc (Nat.le_refl _) _⟩
theorem dec_one (w wr : World) (hb : Below w.heap.size w wr) (c : Value) : (wr.alloc (.cells #[c] 5)).ownsRow w.heap.size 5 1 (.slice (some ⟨wr.heap.size, 0, none⟩) 1 1) 1 [c] :=
  ⟨rfl, .inr ⟨wr.heap.size, 1, #[c], rfl, hb.size, (MapKept.heap_alloc wr _).1, Nat.le_refl _, by unfold maxLen; omega, rfl, rfl⟩⟩

theorem dec_src {w wr : World} {g cap : Nat} {ds : List UInt8} (h : wr.ownsRow w.heap.size 5 1 (.slice (some ⟨g, 0, none⟩) ds.length cap) ds.length (ds.map by8)) (o : Obj) :
    ∀ (j : Nat) (u : Value), (ds.map by8)[j]? = some u → (wr.alloc o).cell? ((⟨g, 0, none⟩ : Addr).add j) = some u := by
  intro j u hj
  have hjl : j < ds.length := by
    rcases Nat.lt_or_ge j ds.length with h' | h'
    · exact h'
    · simp [List.getElem?_eq_none h'] at hj
  rw [Lib.add_plain, Nat.zero_add, (h.alloc o).cellAt j (by omega)]
  exact hj
theorem dec_src' {w wr : World} {g cap : Nat} {ds : List UInt8} (h : wr.ownsRow w.heap.size 5 1 (.slice (some ⟨g, 0, none⟩) ds.length cap) ds.length (ds.map by8)) (o : Obj) :
    ∀ (j : Nat) (a : UInt8), ds[j]? = some a → (wr.alloc o).cell? ⟨g, j, none⟩ = some (by8 a) := by
  intro j a hj
  have := dec_src h o j (by8 a) (by simp [hj])
  rwa [Lib.add_plain, Nat.zero_add] at this
theorem dec_cells {w wr : World} {g cap : Nat} {ds : List UInt8} (h : wr.ownsRow w.heap.size 5 1 (.slice (some ⟨g, 0, none⟩) ds.length cap) ds.length (ds.map by8)) :
    ∀ i, i < ds.length → wr.cell? ⟨g, 0 + i, none⟩ = some (.int .u8 ((ds.map fun c : UInt8 => (c.toNat : Int)).getD i 0)) := by
  intro i hi
  rw [Nat.zero_add, h.cellAt i (by omega), List.getElem?_map, List.getElem?_eq_getElem hi]
  simp [by8, List.getD_eq_getElem?_getD, List.getElem?_map, List.getElem?_eq_getElem hi]
theorem dec_str (ds : List UInt8) : strOfNums (ds.map fun c : UInt8 => (c.toNat : Int)) = ⟨ds.toArray⟩ := by
  unfold strOfNums
  rw [List.map_map]
  have : ((fun n : Int => UInt8.ofNat n.toNat) ∘ fun c : UInt8 => (c.toNat : Int)) = id := by
    funext c; simp
  simp only [this, List.map_id]
theorem itoa_zero : Lib.itoa 0 = [48] := by unfold Lib.itoa; rw [if_neg (by omega)]; exact Lib.decDigits_one (i := 0) (by omega)
theorem cat_minus (ds : List UInt8) : ((⟨#[45]⟩ : ByteArray) ++ ⟨ds.toArray⟩) = ⟨(45 :: ds).toArray⟩ := by
  apply ByteArray.ext
  simp [ByteArray.data_append]
theorem ret_str0 {a b : ByteArray} (h : a = b) : Ending.returned (.string a) = .returned (.string b) := by rw [h]
theorem itoa_pos {n : Int} (h : 0 < n) : dl n.natAbs = Lib.itoa n := by
  rw [dl_dec _ (by omega)]; unfold Lib.itoa; rw [if_neg (by omega)]; congr 1; omega
theorem itoa_negv {n : Int} (h : n < 0) : 45 :: dl n.natAbs = Lib.itoa n := by
  rw [dl_dec _ (by omega)]; unfold Lib.itoa; rw [if_pos h]
theorem dec_one' (ds : List UInt8) : ∀ u ∈ ds.map by8, u.oneCell' = true := by
  intro u hu
  obtain ⟨c, _, rfl⟩ := List.mem_map.1 hu
  rfl
theorem dec_next {w wr w' : World} {o : Obj} {n k k' : Int} {ds : List UInt8} {v' c : Value} (hb : Below w.heap.size w wr) (hg : (wr.alloc o).grownBy w' (some wr.heap.size)) (hown : w'.ownsRow w.heap.size 5 1 v' (1 + ds.length) (c :: ds.map by8))
    (hv : ¬ v' = .slice none 0 0) (hc : by8 (UInt8.ofNat (48 + k.natAbs % 10)) = c) (hk0 : k ≠ 0) (hk' : k'.natAbs = k.natAbs / 10) (hr : n ≤ k' ∧ k' ≤ 0 ∨ 0 ≤ k' ∧ k' ≤ n) (hds : dl k.natAbs ++ ds = dl n.natAbs) : DecRel w n v' (.int .i64 k') w' := by
  rcases hown.2 with ⟨h0, _⟩ | ⟨g, cap, cur, h0, _⟩
  · exact absurd h0 hv
  · refine ⟨k', UInt8.ofNat (48 + k.natAbs % 10) :: ds, g, cap, rfl, hr, ?_, ?_, ?_, ?_⟩
    · rw [← hds, dl_pos (u := k.natAbs) (by omega), hk']; simp
    · rw [h0, List.length_cons, Nat.add_comm]
    · rw [List.length_cons, Nat.add_comm, List.map_cons, hc]; exact hown
    · exact (hb.alloc hb.size o).grown hg (by have := hb.size; simp; omega) (fun x e => by have := Option.some.inj e; have := hb.size; omega)
theorem tmod_neg {k : Int} (h : k < 0) : -(k.tmod 10) = ((k.natAbs % 10 : Nat) : Int) ∧ (k.tdiv 10).natAbs = k.natAbs / 10 ∧ k.tmod 10 ≤ 0 ∧ -9 ≤ k.tmod 10 ∧ k ≤ k.tdiv 10 ∧ k.tdiv 10 ≤ 0 := by
  obtain ⟨m, rfl⟩ : ∃ m : Nat, k = -(m : Int) := ⟨k.natAbs, by omega⟩
  rw [Int.neg_tdiv, Int.neg_tmod, Int.tdiv_eq_ediv_of_nonneg (by omega), Int.tmod_eq_emod_of_nonneg (by omega)]
  omega

end Go.Proofs.Ytmhheecjpalajaa

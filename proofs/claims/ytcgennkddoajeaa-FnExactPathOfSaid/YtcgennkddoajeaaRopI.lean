/-
  The contracts of impl.startOfPath, of its function literal, and of impl.RatioOfPath.
-/
import Derived.Test.YtcgennkddoajeaaRopS
import Derived.Test.YtcgennkddoajeaaRf
import Derived.Test.YtcgennkddoajeaaShelf
import Derived.Shelf.Strings.SlTrimAscii
import Derived.Laws.IdiomStrings
namespace Go.Proofs.Ytcgennkddoajeaa
open Go.RowKit

/-- The three variables of a walk down the tree, in the boxes l, h and m. -/
structure Tree (W : World) (l h m : Nat) (a b c d : Int) : Prop where
  low : Box2 W l a b
  high : Box2 W h c d
  med : Box2 W m (a + c) (b + d)
def SopRet (w : World) (e : Ending) (w' : World) : Prop := e = .returned (.tuple #[.agg #[.int .i64 1, .int .i64 1], .func (.func 90) #[] #[.pointer (some ⟨w.heap.size + 1 + 1 + 1, 0, none⟩), .pointer (some ⟨w.heap.size + 1 + 1, 0, none⟩), .pointer (some ⟨w.heap.size + 1, 0, none⟩)]]) ∧ Tree w' (w.heap.size + 1) (w.heap.size + 1 + 1) (w.heap.size + 1 + 1 + 1) 0 1 1 0 ∧ Below w.heap.size w w'
theorem sop_tree (w : World) (T : TypeId) : Tree ((((w.alloc (.cells #[.int .i64 1, .int .i64 1] T)).alloc (.cells #[.int .i64 0, .int .i64 1] T)).alloc (.cells #[.int .i64 1, .int .i64 0] T)).alloc (.cells #[.int .i64 1, .int .i64 1] T)) (w.heap.size + 1) (w.heap.size + 1 + 1) (w.heap.size + 1 + 1 + 1) 0 1 1 0 := by
  refine ⟨?_, ?_, ?_⟩
  · have := ((Box2.new (w.alloc (.cells #[.int .i64 1, .int .i64 1] T)) 0 1 T).alloc (.cells #[.int .i64 1, .int .i64 0] T)).alloc (.cells #[.int .i64 1, .int .i64 1] T)
    rw [World.size_alloc] at this
    exact this
  · have := (Box2.new ((w.alloc (.cells #[.int .i64 1, .int .i64 1] T)).alloc (.cells #[.int .i64 0, .int .i64 1] T)) 1 0 T).alloc (.cells #[.int .i64 1, .int .i64 1] T)
    rw [World.size_alloc, World.size_alloc] at this
    exact this
  · have := Box2.new (((w.alloc (.cells #[.int .i64 1, .int .i64 1] T)).alloc (.cells #[.int .i64 0, .int .i64 1] T)).alloc (.cells #[.int .i64 1, .int .i64 0] T)) 1 1 T
    rw [World.size_alloc, World.size_alloc, World.size_alloc] at this
    exact this
theorem startOfPath_any (w : World) : Calls Try.prog 59 #[] w (SopRet w) := by
  have HT := Lib.hid (sop_tree w 25)
  go_enter Try.func59, Try.ntmps59
  go_wp2_with fail
  exact bodyPost_ret (v := .tuple #[.agg #[.int .i64 1, .int .i64 1], .func (.func 90) #[] #[.pointer (some ⟨w.heap.size + 1 + 1 + 1, 0, none⟩), .pointer (some ⟨w.heap.size + 1 + 1, 0, none⟩), .pointer (some ⟨w.heap.size + 1, 0, none⟩)]]) (by simp [results, Try.results59, go_sem]) rfl ⟨rfl, HT.out, bA (bA (bA (bA (bR _) _) _) _) _⟩
def StepRet (w : World) (l h m : Nat) (a b c d : Int) (e : Ending) (w' : World) : Prop := e = .returned (.agg #[.int .i64 (a + c), .int .i64 (b + d)]) ∧ Tree w' l h m a b c d ∧ Mov (fun k => k = l ∨ k = h ∨ k = m) w w'
def SmallT (a b c d : Int) : Prop := 0 ≤ a ∧ a ≤ 1000000000 ∧ 0 ≤ b ∧ b ≤ 1000000000 ∧ 0 ≤ c ∧ c ≤ 1000000000 ∧ 0 ≤ d ∧ d ≤ 1000000000
theorem step_L (l h m : Nat) (a b c d : Int) (w : World) (ht : Tree w l h m a b c d) (n1 : ¬ l = h) (n2 : ¬ l = m) (n3 : ¬ h = m) (h0 : SmallT a b c d) :
    Calls Try.prog 90 #[.int .u8 76, .pointer (some ⟨m, 0, none⟩), .pointer (some ⟨h, 0, none⟩), .pointer (some ⟨l, 0, none⟩)] w (StepRet w l h m a b (a + c) (b + d)) := by
  obtain ⟨a1, a2, b1, b2, c1, c2, d1, d2⟩ := h0
  have HT := Lib.hid ht
  have n4 : ¬ h = l := fun e => n1 e.symm
  have n5 : ¬ m = l := fun e => n2 e.symm
  have n6 : ¬ m = h := fun e => n3 e.symm
  obtain ⟨⟨x0, x1, x2, x3, x4⟩, ⟨y0, y1, y2, y3, y4⟩, ⟨z0, z1, z2, z3, z4⟩⟩ := ht
  go_enter Try.func90, Try.ntmps90
  go_wp2_with fail
  refine bodyPost_ret (v := .agg #[.int .i64 (a + (a + c)), .int .i64 (b + (b + d))]) (by simp [results, Try.results90, go_sem, *]) rfl ⟨rfl, ⟨?_, ?_, ?_⟩, ?_⟩
  · exact ((((HT.out.low.other n1).other n1).other n2).other n2).alloc _
  · exact (((HT.out.high.set (a + c) (b + d)).other n3).other n3).alloc _
  · exact (((HT.out.med.other n6).other n6).set (a + (a + c)) (b + (b + d))).alloc _
  · exact (((((Mov.refl _ w).setCell (.inl (.inr (.inl rfl))) _).setCell (.inl (.inr (.inl rfl))) _).setCell (.inl (.inr (.inr rfl))) _).setCell (.inl (.inr (.inr rfl))) _).alloc _
theorem step_R (ch : UInt8) (l h m : Nat) (a b c d : Int) (w : World) (ht : Tree w l h m a b c d) (n1 : ¬ l = h) (n2 : ¬ l = m) (n3 : ¬ h = m) (h0 : SmallT a b c d) (hc : (((ch.toNat : Nat) : Int) == 76) = false) :
    Calls Try.prog 90 #[.int .u8 ((ch.toNat : Nat) : Int), .pointer (some ⟨m, 0, none⟩), .pointer (some ⟨h, 0, none⟩), .pointer (some ⟨l, 0, none⟩)] w (StepRet w l h m (a + c) (b + d) c d) := by
  obtain ⟨a1, a2, b1, b2, c1, c2, d1, d2⟩ := h0
  have HT := Lib.hid ht
  have n4 : ¬ h = l := fun e => n1 e.symm
  have n5 : ¬ m = l := fun e => n2 e.symm
  have n6 : ¬ m = h := fun e => n3 e.symm
  obtain ⟨⟨x0, x1, x2, x3, x4⟩, ⟨y0, y1, y2, y3, y4⟩, ⟨z0, z1, z2, z3, z4⟩⟩ := ht
  go_enter Try.func90, Try.ntmps90
  go_wp2_with fail
  refine bodyPost_ret (v := .agg #[.int .i64 (a + c + c), .int .i64 (b + d + d)]) (by simp [results, Try.results90, go_sem, *]) rfl ⟨rfl, ⟨?_, ?_, ?_⟩, ?_⟩
  · exact (((HT.out.low.set (a + c) (b + d)).other n2).other n2).alloc _
  · exact ((((HT.out.high.other n4).other n4).other n3).other n3).alloc _
  · exact (((HT.out.med.other n5).other n5).set (a + c + c) (b + d + d)).alloc _
  · exact (((((Mov.refl _ w).setCell (.inl (.inl rfl)) _).setCell (.inl (.inl rfl)) _).setCell (.inl (.inr (.inr rfl))) _).setCell (.inl (.inr (.inr rfl))) _).alloc _
theorem conv_bytes (W : World) (s : ByteArray) : ∃ W4 cap, (convert 9 22 (.string s)).run Try.prog W = .ok (.slice (some ⟨W.heap.size, 0, none⟩) s.size cap) W4 ∧ Below W.heap.size W W4 ∧ W.heap.size < W4.heap.size ∧ ∀ j (hj : j < s.size), W4.cell? ⟨W.heap.size, j, none⟩ = some (.int .u8 ((s[j].toNat : Nat) : Int)) := by
  refine ⟨_, _, run_bytes_of_string W 9 22 5 s Try.underlying9 Try.underlying22 Try.underlying5, ((bR W).drew).alloc (Nat.le_refl _) _, by simp, fun j hj => ?_⟩
  have hj2 : j < s.data.size := hj
  have hh := World.alloc_heap_new W.drew (.cells (bytesRow s (grownCap W s.size 0 5)) 5 ((bytesRow s (grownCap W s.size 0 5)).size, (bytesRow s (grownCap W s.size 0 5)).size + 1))
  unfold World.cell?
  rw [show (World.alloc W.drew _).heap[(⟨W.heap.size, j, none⟩ : Addr).block]? = _ from hh]
  have e : (bytesRow s (grownCap W s.size 0 5))[j]? = some (.int .u8 ((s[j].toNat : Nat) : Int)) := by
    unfold bytesRow
    rw [Array.getElem?_append_left (by simpa using hj2), Array.getElem?_map, Array.getElem?_eq_getElem hj2]
    rfl
  simpa using e
theorem Box2.ofB {w w' : World} {b : Nat} {x y : Int} (h : Box2 w b x y) (hs : w.heap.size ≤ w'.heap.size) (hb : w'.heap[b]? = w.heap[b]?) : Box2 w' b x y :=
  ⟨(World.cell?_of_block hb).trans h.c0, (World.cell?_of_block hb).trans h.c1, (World.frozen?_of_block hb).trans h.f0, (World.frozen?_of_block hb).trans h.f1, Nat.lt_of_lt_of_le h.lt hs⟩
/-- What lies in memory between two letters. -/
structure RpW (w : World) (s : ByteArray) (l h m M g : Nat) (a b c d : Int) (W : World) : Prop where
  tr : Tree W l h m a b c d
  res : Box2 W w.heap.size 0 0
  med : Box2 W M (a + c) (b + d)
  byt : ∀ j (hj : j < s.size), W.cell? ⟨g, j, none⟩ = some (.int .u8 ((s[j].toNat : Nat) : Int))
  glt : g < W.heap.size
  bel : Below w.heap.size w W
theorem RpW.keep {w : World} {s : ByteArray} {l h m M g : Nat} {a b c d : Int} {W W' : World} (x : RpW w s l h m M g a b c d W) (hb : Below W.heap.size W W') : RpW w s l h m M g a b c d W' :=
  ⟨⟨x.tr.low.keep hb, x.tr.high.keep hb, x.tr.med.keep hb⟩, x.res.keep hb, x.med.keep hb, fun j hj => (hb.cell (p := ⟨g, j, none⟩) x.glt).trans (x.byt j hj), Nat.lt_of_lt_of_le x.glt hb.size, bT x.bel hb⟩
theorem RpW.step {w : World} {s : ByteArray} {l h m M g : Nat} {a b c d a' b' c' d' : Int} {W w5 : World} (hd : w.heap.size < l ∧ l < h ∧ h < m ∧ m < M ∧ M < g) (x : RpW w s l h m M g a b c d W) (ht : Tree w5 l h m a' b' c' d') (hm : Mov (fun k => k = l ∨ k = h ∨ k = m) W w5) :
    RpW w s l h m M g a' b' c' d' ((w5.setCell ⟨M, 0, none⟩ (.int .i64 (a' + c'))).setCell ⟨M, 1, none⟩ (.int .i64 (b' + d'))) ∧ Box2 w5 M (a + c) (b + d) := by
  obtain ⟨d1, d2, d3, d4, d5⟩ := hd
  have hM : Box2 w5 M (a + c) (b + d) := x.med.ofB hm.size (hm.block _ x.med.lt (by omega))
  refine ⟨⟨⟨(ht.low.other (by omega)).other (by omega), (ht.high.other (by omega)).other (by omega), (ht.med.other (by omega)).other (by omega)⟩, ?_, hM.set _ _, fun j hj => ?_, ?_, ?_⟩, hM⟩
  · exact ((x.res.ofB hm.size (hm.block _ x.res.lt (by omega))).other (by omega)).other (by omega)
  · rw [World.cell?_of_block (Below.heap_setCell _ _ _ _ (show g ≠ M by omega)), World.cell?_of_block (Below.heap_setCell _ _ _ _ (show g ≠ M by omega)), World.cell?_of_block (hm.block g x.glt (show ¬ (g = l ∨ g = h ∨ g = m) by omega))]
    exact x.byt j hj
  · have := hm.size
    have := x.glt
    simp [World.setCell]; omega
  · have hb : Below w.heap.size w w5 := ⟨hm.os.trans x.bel.os, hm.tape.trans x.bel.tape, hm.output.trans x.bel.output, Nat.le_trans x.bel.size hm.size, fun k hk => (hm.block k (Nat.lt_of_lt_of_le hk x.bel.size) (by omega)).trans (x.bel.block k hk)⟩
    exact (hb.setCell (show w.heap.size ≤ M by omega) _).setCell (show w.heap.size ≤ M by omega) _
def RpiRel (w : World) (s : ByteArray) (l h m M g : Nat) (vi : Value) (wr : World) : Prop :=
  ∃ (k : Nat) (a b c d : Int), k ≤ s.size ∧ vi = .int .i64 k ∧ RpI ⟨a, b, c, d⟩ ∧ rp s.data.toList rp0 = rp (s.data.toList.drop k) ⟨a, b, c, d⟩ ∧ RpW w s l h m M g a b c d wr
theorem mt_yes {l : List UInt8} (h : lr l = true) : Lib.trimS l [76, 82] = [] := (trim_lr l).2 h
theorem mt_no {l : List UInt8} (h : lr l = false) : Lib.trimS l [76, 82] ≠ [] := fun e => by have := (trim_lr l).1 e; rw [h] at this; cases this
end Go.Proofs.Ytcgennkddoajeaa

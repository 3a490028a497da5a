/-
  The contract of impl.RatioOfTerms.
-/
import Derived.Test.YtldjplopglpgfaaBackI
namespace Go.Proofs.Ytldjplopglpgfaa
open Go.RowKit Go.Shelf
attribute [local go_sem] Oper.semAt_some

/-- One number in a box. -/
structure Box1 (w : World) (b : Nat) (x : Int) : Prop where
  c0 : w.cell? ⟨b, 0, none⟩ = some (.int .i64 x)
  f0 : w.frozen? ⟨b, 0, none⟩ = false
  lt : b < w.heap.size
theorem Box1.of_block {w w' : World} {b : Nat} {x : Int} (h : Box1 w b x) (hs : w.heap.size ≤ w'.heap.size) (hb : w'.heap[b]? = w.heap[b]?) : Box1 w' b x := ⟨(World.cell?_of_block hb).trans h.c0, (World.frozen?_of_block hb).trans h.f0, Nat.lt_of_lt_of_le h.lt hs⟩
theorem Box1.keep {w w' : World} {b : Nat} {x : Int} (h : Box1 w b x) (hb : Below w.heap.size w w') : Box1 w' b x := h.of_block hb.size (hb.block b h.lt)
theorem Box1.new (w : World) (x : Int) (T : TypeId) : Box1 (w.alloc (.cells #[.int .i64 x] T)) w.heap.size x := ⟨by simp [go_sem], by simp [go_sem], by simp⟩
theorem Box1.other {w : World} {b b' o : Nat} {x : Int} {v : Value} (h : Box1 w b x) (hn : b ≠ b') : Box1 (w.setCell ⟨b', o, none⟩ v) b x := h.of_block (by simp [World.setCell]) (Below.heap_setCell _ _ _ _ hn)
theorem Box1.set {w : World} {b : Nat} {x : Int} (h : Box1 w b x) (y : Int) : Box1 (w.setCell ⟨b, 0, none⟩ (.int .i64 y)) b y := by
  have a0 := h.c0
  have e0 := h.f0
  exact ⟨by simp [go_sem, a0], by simp [go_sem, e0], by simpa [World.setCell] using h.lt⟩
/-- What the loop carries: the three boxes of the call from B on, and what has been read from the end of the list. -/
structure RtI (w : World) (ts : List Int) (pre : List (Int × Int)) (T : Nat → Prop) (W : World) (k : Nat) (x y : Int) : Prop where
  hk : k ≤ ts.length
  hpre : backL ts ts.length = pre ++ backL ts k
  cf : cfR (ts.drop k) = some (x, y)
  r : Box2 W (w.heap.size + 1 + 1) x y
  b2 : Box2 W w.heap.size 0 0
  b3 : Box1 W (w.heap.size + 1) 0
  own : ∀ j, T j → w.heap.size + 4 ≤ j
  size : w.heap.size + 4 ≤ W.heap.size
  bel : Below w.heap.size w W
def RtJ (w : World) (ts : List Int) (pre : List (Int × Int)) (T : Nat → Prop) (W : World) : Prop := ∃ k x y, RtI w ts pre T W k x y
structure RtX (w : World) (ts : List Int) (c : Code) (_pre : List (Int × Int)) (T : Nat → Prop) (W : World) : Prop where
  ret : c = .ret
  bad : cfR ts = none
  b2 : Box2 W w.heap.size 0 0
  b3 : Box1 W (w.heap.size + 1) 2
  own : ∀ j, T j → w.heap.size + 4 ≤ j
  size : w.heap.size + 4 ≤ W.heap.size
  bel : Below w.heap.size w W
theorem rt_mov {w W W' : World} {T T' : Nat → Prop} (own : ∀ j, T j → w.heap.size + 4 ≤ j) (size : w.heap.size + 4 ≤ W.heap.size) (bel : Below w.heap.size w W) (hm : Mov T W W') (ht : ∀ k, T' k → (T k ∨ W.heap.size ≤ k) ∧ k < W'.heap.size) :
    (∀ k, k < w.heap.size + 4 → W'.heap[k]? = W.heap[k]?) ∧ (∀ j, T' j → w.heap.size + 4 ≤ j) ∧ w.heap.size + 4 ≤ W'.heap.size ∧ Below w.heap.size w W' := by
  have hb : ∀ k, k < w.heap.size + 4 → W'.heap[k]? = W.heap[k]? := fun k hk => hm.block k (by omega) (fun h => by have := own k h; omega)
  refine ⟨hb, fun j hj => ?_, Nat.le_trans size hm.size, ⟨hm.os.trans bel.os, hm.tape.trans bel.tape, hm.output.trans bel.output, Nat.le_trans bel.size hm.size, fun k hk => (hb k (by omega)).trans (bel.block k hk)⟩⟩
  rcases (ht j hj).1 with h | h
  · exact own j h
  · omega
theorem rtJ_ab (w : World) (ts : List Int) : AbP (RtJ w ts) := by
  intro s T T' W W' ⟨k, x, y, h⟩ hm ht
  obtain ⟨hb, h1, h2, h3⟩ := rt_mov h.own h.size h.bel hm ht
  exact ⟨k, x, y, h.hk, h.hpre, h.cf, h.r.of_block hm.size (hb _ (by omega)), h.b2.of_block hm.size (hb _ (by omega)), h.b3.of_block hm.size (hb _ (by omega)), h1, h2, h3⟩
theorem rtX_ab (w : World) (ts : List Int) (c : Code) : AbP (RtX w ts c) := by
  intro s T T' W W' h hm ht
  obtain ⟨hb, h1, h2, h3⟩ := rt_mov h.own h.size h.bel hm ht
  exact ⟨h.ret, h.bad, h.b2.of_block hm.size (hb _ (by omega)), h.b3.of_block hm.size (hb _ (by omega)), h1, h2, h3⟩
theorem rt_put {w W : World} {l : Nat} {o' : Obj} (bel : Below w.heap.size w W) (hl : w.heap.size + 4 ≤ l) : (∀ k, k < w.heap.size + 4 → (W.putObj l o').heap[k]? = W.heap[k]?) ∧ Below w.heap.size w (W.putObj l o') :=
  ⟨fun k hk => World.putObj_heap_other (by omega), bel.grown (grownBy_putObj' W l o') bel.size (fun k e => by cases e; omega)⟩
theorem rtJ_turn (w : World) (ts : List Int) (T : Nat → Prop) : TurnsP (w.heap.size + 4) (fun s => RtJ w ts s T) := by
  intro s W o o' ⟨k, x, y, h⟩ _ _
  obtain ⟨hb, h3⟩ := rt_put (l := w.heap.size + 4 + 1) (o' := o') h.bel (by omega)
  exact ⟨k, x, y, h.hk, h.hpre, h.cf, h.r.of_block (by simp) (hb _ (by omega)), h.b2.of_block (by simp) (hb _ (by omega)), h.b3.of_block (by simp) (hb _ (by omega)), h.own, by simpa using h.size, h3⟩
theorem rtX_turn (w : World) (ts : List Int) (c : Code) (T : Nat → Prop) : TurnsP (w.heap.size + 4) (fun s => RtX w ts c s T) := by
  intro s W o o' h _ _
  obtain ⟨hb, h3⟩ := rt_put (l := w.heap.size + 4 + 1) (o' := o') h.bel (by omega)
  exact ⟨h.ret, h.bad, h.b2.of_block (by simp) (hb _ (by omega)), h.b3.of_block (by simp) (hb _ (by omega)), h.own, by simpa using h.size, h3⟩
theorem drop_ints {w : World} {g : Nat} {ts : List Int} (h : IntsAt w g ts) : IntsFrom w g 1 (ts.drop 1) := by
  intro i hi
  simp at hi
  rw [h (1 + i) (by omega)]
  unfold at0
  rw [List.getElem?_drop]
theorem any_tail (ts : List Int) (h : 1 ≤ ts.length) : rtOk ts = !((ts.drop 1).any fun u => decide (u ≤ 0)) := by
  unfold rtOk
  rw [List.drop_one, List.not_any_eq_all_not]
  have e : decide (1 ≤ ts.length) = true := by simpa using h
  rw [e, Bool.true_and]
  congr 1
  funext u
  rw [Bool.eq_iff_iff]; simp; omega
def rtW (w : World) : World := (w.alloc (.cells #[.int .i64 0, .int .i64 0] 25)).alloc (.cells #[.int .i64 0] 2)
theorem rtW_facts (w : World) : Box2 (rtW w) w.heap.size 0 0 ∧ Box1 (rtW w) (w.heap.size + 1) 0 ∧ Below w.heap.size w (rtW w) ∧ (rtW w).heap.size = w.heap.size + 1 + 1 := by
  refine ⟨(Box2.new w 0 0 _).alloc _, ?_, bA (bA (bR _) _) _, by simp [rtW]⟩
  have := Box1.new (w.alloc (.cells #[.int .i64 0, .int .i64 0] 25)) 0 2
  rwa [World.size_alloc] at this
theorem rtI_none (g : Nat) (w : World) : Calls Try.prog 8 #[.slice (some ⟨g, 0, none⟩) 0 0] w (RtRet w []) := by
  have H := rt_no (ts := []) (by decide)
  go_enter Try.func8, Try.ntmps8
  go_wp2_with fail
  refine bodyPost_ret (v := .tuple #[.agg #[.int .i64 0, .int .i64 0], .int .i64 1]) ?_ rfl ⟨ret_rc H.1.symm H.2.1.symm H.2.2.symm, ?_⟩
  · simp [results, Try.results8, go_sem]
  · first | exact bA (bA (bR _) _) _ | exact (((bA (bA (bR _) _) _).setCell (by simp) _).setCell (by simp) _).setCell (by simp) _
end Go.Proofs.Ytldjplopglpgfaa

/-
  The iterator over the convergents of a ratio: impl.Ratio.convergents and its function literal.
-/
import Derived.Test.YtldjplopglpgfaaTermsI
import Derived.Test.YtldjplopglpgfaaConv
import Derived.Test.YtldjplopglpgfaaInv
namespace Go.Proofs.Ytldjplopglpgfaa
open Go.RowKit Go.Shelf
attribute [local go_sem] Oper.semAt_some

def encPP (x : PP) : Array Value := #[.agg #[.int .i64 x.1.1, .int .i64 x.1.2], .agg #[.int .i64 x.2.1, .int .i64 x.2.2]]
/-- The blocks of the iterator: the six from B on, and those of the iterator that it uses. -/
def UU (B : Nat) (T : Nat → Prop) (W : World) : Nat → Prop := fun k => T k ∨ (B ≤ k ∧ k < B + 6 ∧ k < W.heap.size)
theorem UU.step {B : Nat} {T T' : Nat → Prop} {W W' : World} (_hs : W.heap.size ≤ W'.heap.size) (ht : ∀ k, T' k → (T k ∨ W.heap.size ≤ k) ∧ k < W'.heap.size) : ∀ k, UU B T' W' k → (UU B T W k ∨ W.heap.size ≤ k) ∧ k < W'.heap.size := by
  intro k hk
  rcases hk with hk | ⟨h1, h2, h3⟩
  · refine ⟨?_, (ht k hk).2⟩
    rcases (ht k hk).1 with h | h
    · exact .inl (.inl h)
    · exact .inr h
  · refine ⟨?_, h3⟩
    by_cases h : k < W.heap.size
    · exact .inl (.inr ⟨h1, h2, h⟩)
    · exact .inr (by omega)
theorem Mov.mono {S S' : Nat → Prop} {W W' : World} (h : Mov S W W') (hs : ∀ k, S k → S' k) : Mov S' W W' := ⟨h.os, h.tape, h.output, h.size, fun k hk hn => h.block k hk (fun x => hn (hs k x))⟩
/-- What the inner loop carries. -/
def CvJ (B : Nat) (J : List PP → (Nat → Prop) → World → Prop) (pre : List Int) (T : Nat → Prop) (W : World) : Prop :=
  J (convL pre) (UU B T W) W ∧ B + 4 ≤ W.heap.size ∧ ∀ k, T k → B + 4 ≤ k ∧ k < W.heap.size
def CvI (B l : Nat) (J : List PP → (Nat → Prop) → World → Prop) (pre : List Int) (T : Nat → Prop) (W : World) : Prop :=
  CvJ B J pre T W ∧ Box2 W (B + 1) (stOf pre).1.1 (stOf pre).1.2 ∧ Box2 W (B + 1 + 1) (stOf pre).2.1 (stOf pre).2.2 ∧ W.cell? ⟨B, 0, none⟩ = some (.func (.yield l) #[] #[])
theorem cvJ_ab {B : Nat} {J : List PP → (Nat → Prop) → World → Prop} (hJ : AbP J) : AbP (CvJ B J) := by
  intro s T T' W W' ⟨h1, h2, h3⟩ hm ht
  refine ⟨hJ _ _ _ _ _ h1 (hm.mono fun k hk => .inl hk) (UU.step hm.size ht), Nat.le_trans h2 hm.size, fun k hk => ⟨?_, (ht k hk).2⟩⟩
  rcases (ht k hk).1 with h | h
  · exact (h3 k h).1
  · omega
theorem cvI_ab {B l : Nat} {J : List PP → (Nat → Prop) → World → Prop} (hJ : AbP J) : AbP (CvI B l J) := by
  intro s T T' W W' ⟨h1, h2, h3, h4⟩ hm ht
  have hb : ∀ k, k < B + 4 → W'.heap[k]? = W.heap[k]? := fun k hk => hm.block k (by have := h1.2.1; omega) (fun h => by have := h1.2.2 k h; omega)
  exact ⟨cvJ_ab hJ s T T' W W' h1 hm ht, h2.of_block hm.size (hb _ (by omega)), h3.of_block hm.size (hb _ (by omega)), (World.cell?_of_block (hb _ (by simp))).trans h4⟩
theorem cvJ_turn {B : Nat} {J : List PP → (Nat → Prop) → World → Prop} (hJ : AbP J) (T : Nat → Prop) : TurnsP (B + 4) (fun s => CvJ B J s T) := by
  intro s W o o' ⟨h1, h2, h3⟩ ho hc
  have hl := (Array.getElem?_eq_some_iff.1 ho).1
  refine ⟨hJ _ (UU B T W) _ W _ h1 ⟨rfl, rfl, rfl, by simp, fun k hk hn => World.putObj_heap_other (fun e => hn (by subst e; exact .inr ⟨by omega, by omega, hk⟩))⟩ (fun k hk => ?_), by simpa using h2, fun k hk => ⟨(h3 k hk).1, by simpa using (h3 k hk).2⟩⟩
  rcases hk with hk | ⟨k1, k2, k3⟩
  · exact ⟨.inl (.inl hk), by simpa using (h3 k hk).2⟩
  · exact ⟨.inl (.inr ⟨k1, k2, by simpa using k3⟩), k3⟩
theorem cvI_turn {B l : Nat} {J : List PP → (Nat → Prop) → World → Prop} (hJ : AbP J) (T : Nat → Prop) : TurnsP (B + 4) (fun s => CvI B l J s T) := by
  intro s W o o' ⟨h1, h2, h3, h4⟩ ho hc
  have hb : ∀ k, k < B + 4 → (W.putObj (B + 4 + 1) o').heap[k]? = W.heap[k]? := fun k hk => World.putObj_heap_other (by omega)
  exact ⟨cvJ_turn hJ T s W o o' h1 ho hc, h2.of_block (by simp) (hb _ (by omega)), h3.of_block (by simp) (hb _ (by omega)), (World.cell?_of_block (hb _ (by simp))).trans h4⟩
/-- The world in which the inner loop begins. -/
def cvW (W : World) (l : Nat) (n d : Int) : World := (((W.alloc (.cells #[.func (.yield l) #[] #[]] 77)).alloc (.cells #[.int .i64 0, .int .i64 1] 25)).alloc (.cells #[.int .i64 1, .int .i64 0] 25)).alloc (.cells #[.int .i64 n, .int .i64 d] 25)
theorem cv_start (W : World) (l : Nat) (n d : Int) {J : List PP → (Nat → Prop) → World → Prop} (hJ : AbP J) (h0 : J [] none1 W) : CvI W.heap.size l J [] none1 (cvW W l n d) ∧ Below W.heap.size W (cvW W l n d) ∧ (cvW W l n d).heap.size = W.heap.size + 4 := by
  have hb : Below W.heap.size W (cvW W l n d) := bA (bA (bA (bA (bR _) _) _) _) _
  have hs : (cvW W l n d).heap.size = W.heap.size + 4 := by simp [cvW]
  refine ⟨⟨⟨hJ _ _ _ _ _ h0 (Mov.of_below hb) (fun k hk => ?_), by omega, fun k hk => hk.elim⟩, ?_, ?_, ?_⟩, hb, hs⟩
  · rcases hk with hk | ⟨h1, h2, h3⟩
    · exact hk.elim
    · exact ⟨.inr h1, h3⟩
  · have := ((Box2.new (W.alloc (.cells #[.func (.yield l) #[] #[]] 77)) 0 1 25).alloc (.cells #[.int .i64 1, .int .i64 0] 25)).alloc (.cells #[.int .i64 n, .int .i64 d] 25)
    rw [World.size_alloc] at this
    exact this
  · have := (Box2.new ((W.alloc (.cells #[.func (.yield l) #[] #[]] 77)).alloc (.cells #[.int .i64 0, .int .i64 1] 25)) 1 0 25).alloc (.cells #[.int .i64 n, .int .i64 d] 25)
    rw [World.size_alloc, World.size_alloc] at this
    exact this
  · simp [cvW, go_sem]
theorem cv_cells (W : World) (l : Nat) (n d : Int) : (cvW W l n d).cell? ⟨W.heap.size + 1 + 1 + 1, 0, none⟩ = some (.int .i64 n) ∧ (cvW W l n d).cell? ⟨W.heap.size + 1 + 1 + 1, 1, none⟩ = some (.int .i64 d) := by
  constructor <;> simp [cvW, go_sem]
/-- How the region of a round stands when some of its operations have come up. -/
def cvA (B b l : Nat) (x n d b1 b2 l1 l2 : Int) (f : Nat → Bool) : Act :=
  { tmps := #[.func (.yield l) #[] #[], .pointer (some ⟨b, 0, none⟩), .pointer (some ⟨B, 0, none⟩), .pointer (some ⟨B + 1, 0, none⟩), .pointer (some ⟨B + 1 + 1, 0, none⟩), .int .i64 x, .agg #[.int .i64 0, .int .i64 1], .agg #[.int .i64 1, .int .i64 0], .agg #[.int .i64 n, .int .i64 d], .func (.func 37) #[] #[.pointer (some ⟨B + 1 + 1 + 1, 0, none⟩)], .int .i64 x,
  cond (f 0) (.agg #[.int .i64 l1, .int .i64 l2]) undef, cond (f 1) (.int .i64 x) undef, cond (f 2) (.pointer (some ⟨B + 1 + 1, 0, none⟩)) undef, cond (f 3) (.int .i64 l1) undef, cond (f 4) (.int .i64 (x * l1)) undef, cond (f 5) (.pointer (some ⟨B + 1, 0, none⟩)) undef, cond (f 6) (.int .i64 b1) undef, cond (f 7) (.int .i64 (x * l1 + b1)) undef, cond (f 8) (.int .i64 x) undef, cond (f 9) (.pointer (some ⟨B + 1 + 1, 1, none⟩)) undef, cond (f 10) (.int .i64 l2) undef, cond (f 11) (.int .i64 (x * l2)) undef, cond (f 12) (.pointer (some ⟨B + 1, 1, none⟩)) undef, cond (f 13) (.int .i64 b2) undef, cond (f 14) (.int .i64 (x * l2 + b2)) undef, cond (f 15) (.agg #[.int .i64 (x * l1 + b1), .int .i64 (x * l2 + b2)]) undef,
  undef, undef, undef, undef, undef], defers := [] }
def cvW1 (X : World) (B : Nat) (l1 l2 : Int) : World := (X.setCell ⟨B + 1, 0, none⟩ (.int .i64 l1)).setCell ⟨B + 1, 1, none⟩ (.int .i64 l2)
def cvW2 (X : World) (B : Nat) (x b1 b2 l1 l2 : Int) : World := ((cvW1 X B l1 l2).setCell ⟨B + 1 + 1, 0, none⟩ (.int .i64 (x * l1 + b1))).setCell ⟨B + 1 + 1, 1, none⟩ (.int .i64 (x * l2 + b2))
def cvS (X : World) (B : Nat) (x b1 b2 l1 l2 : Int) (f : Nat → Bool) : World := cond (f 17) (cvW2 X B x b1 b2 l1 l2) (cond (f 16) (cvW1 X B l1 l2) X)
/-- Waits that are over stay so. -/
def cvC (f : Nat → Bool) : Prop := (f 16 = true → f 0 = true ∧ f 6 = true ∧ f 13 = true) ∧ (f 17 = true → ∀ j, j < 17 → f j = true)
theorem cvC_start : cvC (fun _ => false) := ⟨fun h => (by cases h), fun h => (by cases h)⟩
theorem cvC_no {f : Nat → Bool} (h : cvC f) {i : Nat} (hi : f i = false) (hl : i < 17) : f 17 = false := by
  cases hv : f 17 with
  | false => rfl
  | true => have := h.2 hv i hl; rw [hi] at this; cases this
theorem cvC_no6 {f : Nat → Bool} (h : cvC f) (hi : f 6 = false ∨ f 13 = false ∨ f 0 = false) : f 16 = false := by
  cases hv : f 16 with
  | false => rfl
  | true => obtain ⟨h1, h2, h3⟩ := h.1 hv; rcases hi with e | e | e <;> simp_all
theorem cvC_up {f : Nat → Bool} (h : cvC f) {i : Nat} (hi : i < 16) : cvC (fun j => j == i || f j) := by
  obtain ⟨h1, h2⟩ := h
  have e1 : (16 == i) = false := by simp; omega
  have e2 : (17 == i) = false := by simp; omega
  refine ⟨fun hv => ?_, fun hv j hj => ?_⟩
  · simp only [e1, Bool.false_or] at hv
    obtain ⟨a, b, c⟩ := h1 hv
    simp [a, b, c]
  · simp only [e2, Bool.false_or] at hv
    simp [h2 hv j hj]
theorem cvS_up {X : World} {B : Nat} {x b1 b2 l1 l2 : Int} {f : Nat → Bool} {i : Nat} (hi : i < 16) : cvS X B x b1 b2 l1 l2 f = cvS X B x b1 b2 l1 l2 (fun j => j == i || f j) := by
  have e1 : (16 == i) = false := by simp; omega
  have e2 : (17 == i) = false := by simp; omega
  unfold cvS
  simp only [e1, e2, Bool.false_or]
theorem cvS_last {X : World} {B : Nat} {x b1 b2 l1 l2 : Int} {f : Nat → Bool} (h : Box2 X (B + 1 + 1) l1 l2) (h17 : f 17 = false) : (cvS X B x b1 b2 l1 l2 f).cell? ⟨B + 1 + 1, 0, none⟩ = some (.int .i64 l1) ∧ (cvS X B x b1 b2 l1 l2 f).cell? ⟨B + 1 + 1, 1, none⟩ = some (.int .i64 l2) := by
  have hb : (cvW1 X B l1 l2).heap[B + 1 + 1]? = X.heap[B + 1 + 1]? := by
    unfold cvW1
    rw [Below.heap_setCell _ _ _ _ (by simp), Below.heap_setCell _ _ _ _ (by simp)]
  unfold cvS
  rw [h17]
  cases f 16
  · exact ⟨h.c0, h.c1⟩
  · exact ⟨(World.cell?_of_block hb).trans h.c0, (World.cell?_of_block hb).trans h.c1⟩
theorem cvS_first {X : World} {B : Nat} {x b1 b2 l1 l2 : Int} {f : Nat → Bool} (h16 : f 16 = false) (h17 : f 17 = false) : cvS X B x b1 b2 l1 l2 f = X := by
  unfold cvS; rw [h16, h17]; rfl
theorem cvS_mid {X : World} {B : Nat} {x b1 b2 l1 l2 : Int} {f : Nat → Bool} (h16 : f 16 = true) (h17 : f 17 = false) : cvS X B x b1 b2 l1 l2 f = cvW1 X B l1 l2 := by
  unfold cvS; rw [h16, h17]; rfl
theorem cvW1_box {X : World} {B : Nat} {l1 l2 u v : Int} (h : Box2 X (B + 1 + 1) u v) : Box2 (cvW1 X B l1 l2) (B + 1 + 1) u v := by
  unfold cvW1
  exact (h.other (by omega)).other (by omega)
theorem cvW2_size (X : World) (B : Nat) (x b1 b2 l1 l2 : Int) : (cvW2 X B x b1 b2 l1 l2).heap.size = X.heap.size := by simp [cvW2, cvW1, World.setCell]
theorem cvW2_block (X : World) (B : Nat) (x b1 b2 l1 l2 : Int) {k : Nat} (h1 : k ≠ B + 1) (h2 : k ≠ B + 1 + 1) : (cvW2 X B x b1 b2 l1 l2).heap[k]? = X.heap[k]? := by
  unfold cvW2 cvW1
  rw [Below.heap_setCell _ _ _ _ h2, Below.heap_setCell _ _ _ _ h2, Below.heap_setCell _ _ _ _ h1, Below.heap_setCell _ _ _ _ h1]
/-- The world behind the assignment of a round. -/
structure CvA (X X2 : World) (B l : Nat) (b1 b2 l1 l2 : Int) : Prop where
  box1 : Box2 X2 (B + 1) b1 b2
  box2 : Box2 X2 (B + 1 + 1) l1 l2
  fn : X2.cell? ⟨B, 0, none⟩ = some (.func (.yield l) #[] #[])
  size : X2.heap.size = X.heap.size
  block : ∀ k, k ≠ B + 1 → k ≠ B + 1 + 1 → X2.heap[k]? = X.heap[k]?
  mov : Mov (fun k => k = B + 1 ∨ k = B + 1 + 1) X X2
theorem cv_after {X : World} {B l : Nat} {x b1 b2 l1 l2 : Int} (h1 : Box2 X (B + 1) b1 b2) (h2 : Box2 X (B + 1 + 1) l1 l2) (hc : X.cell? ⟨B, 0, none⟩ = some (.func (.yield l) #[] #[])) :
    CvA X (cvW2 X.drew B x b1 b2 l1 l2) B l l1 l2 (x * l1 + b1) (x * l2 + b2) := by
  have e1 : Box2 (cvW1 X.drew B l1 l2) (B + 1) l1 l2 := by unfold cvW1; exact h1.drew.set l1 l2
  have e2 : Box2 (cvW1 X.drew B l1 l2) (B + 1 + 1) l1 l2 := cvW1_box h2.drew
  refine ⟨?_, ?_, ?_, cvW2_size _ _ _ _ _ _ _, fun k k1 k2 => cvW2_block _ _ _ _ _ _ _ k1 k2, ⟨rfl, rfl, rfl, by rw [cvW2_size]; exact Nat.le_refl _, fun k _ hk => cvW2_block _ _ _ _ _ _ _ (fun e => hk (.inl e)) (fun e => hk (.inr e))⟩⟩
  · unfold cvW2; exact (e1.other (by omega)).other (by omega)
  · unfold cvW2; exact e2.set _ _
  · exact (World.cell?_of_block (cvW2_block _ _ _ _ _ _ _ (by simp) (by simp; omega))).trans hc
theorem cvA_j {X X2 : World} {B l : Nat} {b1 b2 l1 l2 : Int} {J : List PP → (Nat → Prop) → World → Prop} {s : List PP} {T : Nat → Prop} (h : CvA X X2 B l b1 b2 l1 l2) (hJ : AbP J) (hj : J s (UU B T X) X) (hs : B + 4 ≤ X.heap.size) (hT : ∀ k, T k → B + 4 ≤ k ∧ k < X.heap.size) : J s (UU B T X2) X2 ∧ ∀ k, UU B T X2 k → k < X2.heap.size := by
  refine ⟨hJ _ _ _ _ _ hj (h.mov.mono fun k hk => .inr (by rcases hk with rfl | rfl <;> omega)) (UU.step (by rw [h.size]; exact Nat.le_refl _) (fun k hk => ⟨.inl hk, by rw [h.size]; exact (hT k hk).2⟩)), fun k hk => ?_⟩
  rcases hk with hk | ⟨_, _, hk⟩
  · rw [h.size]; exact (hT k hk).2
  · exact hk
theorem roundIn2 {m k l' : Nat} {P : Program} {l : Nat} {f : FuncId} {tmps : Array Value} {assign body : Code} {w : World} {R : Ending → World → Prop} (h : RoundIn Fence.wide m P l f tmps assign body w R) : RoundIn (Fence.wide.inRound l') k P l f tmps assign body w R :=
  ⟨h.1, fun c cs _ => h.2 c cs (fun d hd => by cases hd)⟩
theorem cv_put {B D : Nat} {J : List PP → (Nat → Prop) → World → Prop} (hJ : AbP J) {s : List PP} {T : Nat → Prop} {X : World} {o o' : Obj} (hD : D = B + 4) (hj : J s (UU B T X) X) (hT : ∀ k, T k → B + 4 ≤ k ∧ k < X.heap.size) (ho : X.heap[D]? = some o) : J s (UU B T X) (X.putObj D o') := by
  have hl := (Array.getElem?_eq_some_iff.1 ho).1
  refine hJ _ (UU B T X) _ X _ hj ⟨rfl, rfl, rfl, by simp, fun k hk hn => World.putObj_heap_other (fun e => hn (by subst e; exact .inr ⟨by omega, by omega, hl⟩))⟩ (fun k hk => ?_)
  rcases hk with hk | ⟨k1, k2, k3⟩
  · exact ⟨.inl (.inl hk), by simpa using (hT k hk).2⟩
  · exact ⟨.inl (.inr ⟨k1, k2, k3⟩), by simpa using k3⟩
theorem cv_left {X X2 W' : World} {B l D : Nat} {J : List PP → (Nat → Prop) → World → Prop} {pre : List Int} {x b1 b2 l1 l2 : Int} {T : Nat → Prop} (hA : CvA X X2 B l b1 b2 l1 l2) (hJ : AbP J) (hD : D = B + 4) (hbk : Books D X) (h3 : ∀ k, T k → B + 4 ≤ k ∧ k < X.heap.size)
    (hj : J (convL pre ++ [stOf (pre ++ [x])]) (UU B T X2) W') (hk : Kept (UU B T X2) none1 X2 W') : Same2 D X W' ∧ Kept T none1 X W' ∧ CvJ B J (pre ++ [x]) T W' ∧ (∀ k, B ≤ k → k < B + 6 → W'.heap[k]? = X2.heap[k]?) := by
  subst hD
  obtain ⟨⟨o, g1, _⟩, ⟨p, g2, _⟩⟩ := hbk
  have l1 := (Array.getElem?_eq_some_iff.1 g1).1
  have l2 := (Array.getElem?_eq_some_iff.1 g2).1
  have z := hA.size
  have zz := hk.size
  have hb : ∀ k, B ≤ k → k < B + 6 → W'.heap[k]? = X2.heap[k]? := fun k k1 k2 => hk.mine k (.inr ⟨k1, k2, by omega⟩)
  have hm := hA.mov
  refine ⟨⟨(hb _ (by omega) (by omega)).trans (hA.block _ (by omega) (by omega)), (hb _ (by omega) (by omega)).trans (hA.block _ (by omega) (by omega)), by omega⟩, ⟨hk.os.trans hm.os, hk.tape.trans hm.tape, hk.output.trans hm.output, by omega, fun k h => ?_, fun k h => h.elim⟩, ⟨?_, by omega, fun k h => ⟨(h3 k h).1, by have := (h3 k h).2; omega⟩⟩, hb⟩
  · have := h3 k h
    exact (hk.mine k (.inl h)).trans (hA.block k (by omega) (by omega))
  · rw [convL_snoc]
    refine hJ _ _ _ _ _ hj (Mov.refl _ _) (fun k h => ?_)
    rcases h with h | ⟨k1, k2, k3⟩
    · exact ⟨.inl (.inl h), by have := (h3 k h).2; omega⟩
    · exact ⟨.inl (.inr ⟨k1, k2, by omega⟩), k3⟩
theorem cv_round {X X2 W' : World} {B l D : Nat} {J : List PP → (Nat → Prop) → World → Prop} {pre : List Int} {x b1 b2 l1 l2 : Int} {T : Nat → Prop} (hA : CvA X X2 B l b1 b2 l1 l2) (hJ : AbP J) (hD : D = B + 4) (hbk : Books D X) (h3 : ∀ k, T k → B + 4 ≤ k ∧ k < X.heap.size) (hst : stOf (pre ++ [x]) = ((b1, b2), (l1, l2)))
    (hj : J (convL pre ++ [stOf (pre ++ [x])]) (UU B T X2) W') (hk : Kept (UU B T X2) none1 X2 W') : Same2 D X W' ∧ Kept T none1 X W' ∧ CvI B l J (pre ++ [x]) T W' := by
  obtain ⟨r1, r2, r3, r4⟩ := cv_left hA hJ hD hbk h3 hj hk
  refine ⟨r1, r2, r3, ?_, ?_, (World.cell?_of_block (r4 _ (Nat.le_refl _) (by show B < B + 6; omega))).trans hA.fn⟩
  · rw [hst]; exact hA.box1.of_block hk.size (r4 _ (by omega) (by omega))
  · rw [hst]; exact hA.box2.of_block hk.size (r4 _ (by omega) (by omega))
set_option maxRecDepth 100000 in
set_option maxHeartbeats 8000000 in
theorem convP (n d : Int) (b : Nat) (w : World) (hok : okR n d = true) (hb : b < w.heap.size) (c0 : w.cell? ⟨b, 0, none⟩ = some (.int .i64 n)) (c1 : w.cell? ⟨b, 1, none⟩ = some (.int .i64 d)) :
    SeqP Fence.wide Try.prog 41 #[.pointer (some ⟨b, 0, none⟩)] encPP none1 (fun xs => xs = convL (terms n d)) (fun pre => pre <+: convL (terms n d)) (terms n d).length w := by
  intro nn m l J Jx W hW hJ hJx hY hJ0
  have e0 : W.cell? ⟨b, 0, none⟩ = some (.int .i64 n) := (hW.cell (p := ⟨b, 0, none⟩) hb).trans c0
  have e1 : W.cell? ⟨b, 1, none⟩ = some (.int .i64 d) := (hW.cell (p := ⟨b, 1, none⟩) hb).trans c1
  have hbW : b < W.heap.size := Nat.lt_of_lt_of_le hb hW.size
  have HY := Lib.hid hY
  obtain ⟨s1, s2, s3⟩ := cv_start W l n d hJ hJ0
  have S1 := Lib.hid s1
  have S2 := Lib.hid s2
  have S3 := Lib.hid s3
  clear hY hJ0 c0 c1 s1 s2 s3
  have hb3 : Below W.heap.size W (((W.alloc (.cells #[.func (.yield l) #[] #[]] 77)).alloc (.cells #[.int .i64 0, .int .i64 1] 25)).alloc (.cells #[.int .i64 1, .int .i64 0] 25)) := bA (bA (bA (bR _) _) _) _
  have g0 := (hb3.cell (p := ⟨b, 0, none⟩) hbW).trans e0
  have g1 := (hb3.cell (p := ⟨b, 1, none⟩) hbW).trans e1
  clear e0 e1 hb3
  refine callsIn_of_wp_marks Try.func41 rfl trivial ?_ rfl
  simp only [Try.ntmps41, List.size_toArray, List.length_cons, List.length_nil, Nat.reduceAdd, Nat.reduceSub, Array.replicate_succ, Array.replicate_zero, List.push_toArray, List.append_toArray, List.nil_append, List.cons_append]
  gi_wp2_with fail
  refine ⟨trivial, wdep _, ?_⟩
  refine (callsIn_wide.2 (terms_any _ _ _)).mono ?_
  rintro e w1 ⟨rfl, rfl⟩
  gi_wp2_with fail
  obtain ⟨k0, k1⟩ := cv_cells W l n d
  change Code.wpIn _ _ _ _ _ _ (cvW W l n d)
  generalize cvW W l n d = W0 at *
  have s3 := S3.out
  have hT := termsP n d (W.heap.size + 1 + 1 + 1) W0 hok (by omega) k0 k1
  have HT := Lib.hid hT
  clear g0 g1 k0 k1 hT
  refine rf_law 6 rfl rfl (gf := 37) rfl trivial (enters_of Try.func37 (by kernel_rfl) rfl) HT.out (fun _ h => h.elim) (bR _) (fun _ => rfl) (CvI W.heap.size l J) (fun c pre T X => c = .ret ∧ CvJ W.heap.size Jx pre T X) (cvI_ab hJ) (fun c s T T' X X' h hm ht => ⟨h.1, cvJ_ab hJx s T T' X X' h.2 hm ht⟩)
    (fun T => by rw [S3.out]; exact cvI_turn hJ T) (fun c T s X o o' h ho hc => ⟨h.1, by rw [S3.out] at ho ⊢; exact cvJ_turn hJx T s X o o' h.2 ho hc⟩) S1.out (fun x a' _ => a' = { tmps := #[.func (.yield l) #[] #[], .pointer (some ⟨b, 0, none⟩), .pointer (some ⟨W.heap.size, 0, none⟩), .pointer (some ⟨W.heap.size + 1, 0, none⟩), .pointer (some ⟨W.heap.size + 1 + 1, 0, none⟩), .int .i64 x, .agg #[.int .i64 0, .int .i64 1], .agg #[.int .i64 1, .int .i64 0], .agg #[.int .i64 n, .int .i64 d], .func (.func 37) #[] #[.pointer (some ⟨W.heap.size + 1 + 1 + 1, 0, none⟩)], .int .i64 x, undef, undef, undef, undef, undef, undef, undef, undef, undef, undef, undef, undef, undef, undef, undef, undef, undef, undef, undef, undef, undef], defers := [] }) (fun _ _ _ _ _ h _ _ => h) ?assign ?body ?done ?stop
  case assign =>
    intro lr pre x T X K hi' ht hK
    gi_wp2
    exact hK _ _ (bR _) hi' rfl
  case body =>
    rintro lr pre x a' T X hsp ⟨⟨h1, h2, h3⟩, hb1, hb2, hc0⟩ ht hbk rfl hlen
    obtain ⟨rest, hrest⟩ := hsp
    have hre : terms n d = pre ++ x :: rest := by rw [← hrest]; simp
    obtain ⟨q1, q2, q3, q4, q5, q6, q7, q8⟩ := st_bd hok hre
    obtain ⟨t1, t2⟩ := term_bd hok hre
    have HSN := Lib.hid (show stOf (pre ++ [x]) = (((stOf pre).2.1, (stOf pre).2.2), (x * (stOf pre).2.1 + (stOf pre).1.1, x * (stOf pre).2.2 + (stOf pre).1.2)) from stOf_snoc pre x)
    have HSP := Lib.hid (show convL pre ++ [stOf (pre ++ [x])] <+: convL (terms n d) by rw [← convL_snoc]; exact convL_prefix ⟨rest, by rw [hre]; simp⟩)
    have HLEN := Lib.hid (show (convL pre).length < (terms n d).length by rw [convL_len, hre]; simp)
    have H2 := Lib.hid h2
    have HC0 := Lib.hid hc0
    have HCL := Lib.hid (convL_snoc pre x)
    have HB1 := Lib.hid hb1
    have HB2 := Lib.hid hb2
    have HJ1 := Lib.hid h1
    have H3 := Lib.hid h3
    have HTT := Lib.hid ht
    have HBK := Lib.hid hbk
    have HRE := Lib.hid hre
    obtain ⟨x0, x1, x2, x3, x4⟩ := hb1
    obtain ⟨y0, y1, y2, y3, y4⟩ := hb2
    obtain ⟨m1, m2⟩ := mul_bd t1 t2 q5 q6
    obtain ⟨m3, m4⟩ := mul_bd t1 t2 (show -1000000000 ≤ (stOf pre).2.2 by omega) q8
    generalize (stOf pre).1.1 = b1 at *
    generalize (stOf pre).1.2 = b2 at *
    generalize (stOf pre).2.1 = l1 at *
    generalize (stOf pre).2.2 = l2 at *
    clear h1 h3 ht hbk hrest hre
    gi_wp2_with fail
    have HW1 := Lib.hid (IntWalk.i64_in (x * l1) (by omega))
    have HW2 := Lib.hid (IntWalk.i64_in (x * l1 + b1) (by omega))
    have HW3 := Lib.hid (IntWalk.i64_in (x * l2) (by omega))
    have HW4 := Lib.hid (IntWalk.i64_in (x * l2 + b2) (by omega))
    have HBX1 := Lib.hid (show Box2 X.drew (W.heap.size + 1) b1 b2 from ⟨x0, x1, x2, x3, x4⟩)
    have HBX2 := Lib.hid (show Box2 X.drew (W.heap.size + 1 + 1) l1 l2 from ⟨y0, y1, y2, y3, y4⟩)
    clear x0 x1 x2 x3 x4 y0 y1 y2 y3 y4
    refine region_inv (R := fun a' w' => a' = cvA W.heap.size b l x n d b1 b2 l1 l2 (fun _ => true) ∧ w' = cvW2 X.drew W.heap.size x b1 b2 l1 l2) (fun f a' w' => cvC f ∧ a' = cvA W.heap.size b l x n d b1 b2 l1 l2 f ∧ w' = cvS X.drew W.heap.size x b1 b2 l1 l2 f) (by kernel_rfl) (by kernel_rfl) (by kernel_rfl) ?q ⟨cvC_start, rfl, rfl⟩ ?step ?fin
    case step =>
      rintro f _ _ i o ⟨hcl, rfl, rfl⟩ hfi ho hfr
      have hi : i < 18 := (Array.getElem?_eq_some_iff.1 ho).1
      have hi' : i = 0 ∨ i = 1 ∨ i = 2 ∨ i = 3 ∨ i = 4 ∨ i = 5 ∨ i = 6 ∨ i = 7 ∨ i = 8 ∨ i = 9 ∨ i = 10 ∨ i = 11 ∨ i = 12 ∨ i = 13 ∨ i = 14 ∨ i = 15 ∨ i = 16 ∨ i = 17 := by omega
      clear hi
      rcases hi' with rfl | rfl | rfl | rfl | rfl | rfl | rfl | rfl | rfl | rfl | rfl | rfl | rfl | rfl | rfl | rfl | rfl | rfl
      · -- 0
        obtain rfl := Option.some.inj ho
        clear hfr
        obtain ⟨c0, c1⟩ := cvS_last (x := x) (b1 := b1) (b2 := b2) HBX2.out (cvC_no hcl hfi (by omega))
        have HC := Lib.hid (cvC_up hcl (i := 0) (by omega))
        have HS := Lib.hid (cvS_up (X := X.drew) (B := W.heap.size) (x := x) (b1 := b1) (b2 := b2) (l1 := l1) (l2 := l2) (f := f) (i := 0) (by omega))
        generalize cvS X.drew W.heap.size x b1 b2 l1 l2 f = w0 at *
        refine inv_read rfl ?_
        unfold cvA
        still_step
        exact wpStill_nil ⟨HC.out, rfl, HS.out⟩
      · -- 1
        obtain rfl := Option.some.inj ho
        clear hfr
        have HC := Lib.hid (cvC_up hcl (i := 1) (by omega))
        have HS := Lib.hid (cvS_up (X := X.drew) (B := W.heap.size) (x := x) (b1 := b1) (b2 := b2) (l1 := l1) (l2 := l2) (f := f) (i := 1) (by omega))
        generalize cvS X.drew W.heap.size x b1 b2 l1 l2 f = w0 at *
        refine inv_read rfl ?_
        unfold cvA
        still_step
        exact wpStill_nil ⟨HC.out, rfl, HS.out⟩
      · -- 2
        obtain rfl := Option.some.inj ho
        clear hfr
        have HC := Lib.hid (cvC_up hcl (i := 2) (by omega))
        have HS := Lib.hid (cvS_up (X := X.drew) (B := W.heap.size) (x := x) (b1 := b1) (b2 := b2) (l1 := l1) (l2 := l2) (f := f) (i := 2) (by omega))
        generalize cvS X.drew W.heap.size x b1 b2 l1 l2 f = w0 at *
        refine inv_read rfl ?_
        unfold cvA
        still_step
        exact wpStill_nil ⟨HC.out, rfl, HS.out⟩
      · -- 3
        obtain rfl := Option.some.inj ho
        obtain d2 : f 2 = true := by simpa [freeB, Region.binds] using hfr
        clear hfr
        obtain ⟨c0, c1⟩ := cvS_last (x := x) (b1 := b1) (b2 := b2) HBX2.out (cvC_no hcl hfi (by omega))
        have HC := Lib.hid (cvC_up hcl (i := 3) (by omega))
        have HS := Lib.hid (cvS_up (X := X.drew) (B := W.heap.size) (x := x) (b1 := b1) (b2 := b2) (l1 := l1) (l2 := l2) (f := f) (i := 3) (by omega))
        generalize cvS X.drew W.heap.size x b1 b2 l1 l2 f = w0 at *
        refine inv_read rfl ?_
        unfold cvA
        simp only [d2, cond_true]
        still_step
        exact wpStill_nil ⟨HC.out, by simp, HS.out⟩
      · -- 4
        obtain rfl := Option.some.inj ho
        obtain ⟨d1, d3⟩ : f 1 = true ∧ f 3 = true := by simpa [freeB, Region.binds] using hfr
        clear hfr
        have HC := Lib.hid (cvC_up hcl (i := 4) (by omega))
        have HS := Lib.hid (cvS_up (X := X.drew) (B := W.heap.size) (x := x) (b1 := b1) (b2 := b2) (l1 := l1) (l2 := l2) (f := f) (i := 4) (by omega))
        generalize cvS X.drew W.heap.size x b1 b2 l1 l2 f = w0 at *
        refine inv_read rfl ?_
        unfold cvA
        simp only [d1, d3, cond_true]
        still_step
        exact wpStill_nil ⟨HC.out, by simp [HW1.out], HS.out⟩
      · -- 5
        obtain rfl := Option.some.inj ho
        clear hfr
        have HC := Lib.hid (cvC_up hcl (i := 5) (by omega))
        have HS := Lib.hid (cvS_up (X := X.drew) (B := W.heap.size) (x := x) (b1 := b1) (b2 := b2) (l1 := l1) (l2 := l2) (f := f) (i := 5) (by omega))
        generalize cvS X.drew W.heap.size x b1 b2 l1 l2 f = w0 at *
        refine inv_read rfl ?_
        unfold cvA
        still_step
        exact wpStill_nil ⟨HC.out, rfl, HS.out⟩
      · -- 6
        obtain rfl := Option.some.inj ho
        obtain d5 : f 5 = true := by simpa [freeB, Region.binds] using hfr
        clear hfr
        have h17 := cvC_no hcl hfi (by omega)
        have h16 := cvC_no6 hcl (by simp [hfi])
        have c0 : (cvS X.drew W.heap.size x b1 b2 l1 l2 f).cell? ⟨W.heap.size + 1, 0, none⟩ = some (.int .i64 b1) := by rw [cvS_first h16 h17]; exact HBX1.out.c0
        have c1 : (cvS X.drew W.heap.size x b1 b2 l1 l2 f).cell? ⟨W.heap.size + 1, 1, none⟩ = some (.int .i64 b2) := by rw [cvS_first h16 h17]; exact HBX1.out.c1
        have HC := Lib.hid (cvC_up hcl (i := 6) (by omega))
        have HS := Lib.hid (cvS_up (X := X.drew) (B := W.heap.size) (x := x) (b1 := b1) (b2 := b2) (l1 := l1) (l2 := l2) (f := f) (i := 6) (by omega))
        generalize cvS X.drew W.heap.size x b1 b2 l1 l2 f = w0 at *
        refine inv_read rfl ?_
        unfold cvA
        simp only [d5, cond_true]
        still_step
        exact wpStill_nil ⟨HC.out, by simp, HS.out⟩
      · -- 7
        obtain rfl := Option.some.inj ho
        obtain ⟨d4, d6⟩ : f 4 = true ∧ f 6 = true := by simpa [freeB, Region.binds] using hfr
        clear hfr
        have HC := Lib.hid (cvC_up hcl (i := 7) (by omega))
        have HS := Lib.hid (cvS_up (X := X.drew) (B := W.heap.size) (x := x) (b1 := b1) (b2 := b2) (l1 := l1) (l2 := l2) (f := f) (i := 7) (by omega))
        generalize cvS X.drew W.heap.size x b1 b2 l1 l2 f = w0 at *
        refine inv_read rfl ?_
        unfold cvA
        simp only [d4, d6, cond_true]
        still_step
        exact wpStill_nil ⟨HC.out, by simp [HW2.out], HS.out⟩
      · -- 8
        obtain rfl := Option.some.inj ho
        clear hfr
        have HC := Lib.hid (cvC_up hcl (i := 8) (by omega))
        have HS := Lib.hid (cvS_up (X := X.drew) (B := W.heap.size) (x := x) (b1 := b1) (b2 := b2) (l1 := l1) (l2 := l2) (f := f) (i := 8) (by omega))
        generalize cvS X.drew W.heap.size x b1 b2 l1 l2 f = w0 at *
        refine inv_read rfl ?_
        unfold cvA
        still_step
        exact wpStill_nil ⟨HC.out, rfl, HS.out⟩
      · -- 9
        obtain rfl := Option.some.inj ho
        clear hfr
        have HC := Lib.hid (cvC_up hcl (i := 9) (by omega))
        have HS := Lib.hid (cvS_up (X := X.drew) (B := W.heap.size) (x := x) (b1 := b1) (b2 := b2) (l1 := l1) (l2 := l2) (f := f) (i := 9) (by omega))
        generalize cvS X.drew W.heap.size x b1 b2 l1 l2 f = w0 at *
        refine inv_read rfl ?_
        unfold cvA
        still_step
        exact wpStill_nil ⟨HC.out, rfl, HS.out⟩
      · -- 10
        obtain rfl := Option.some.inj ho
        obtain d9 : f 9 = true := by simpa [freeB, Region.binds] using hfr
        clear hfr
        obtain ⟨c0, c1⟩ := cvS_last (x := x) (b1 := b1) (b2 := b2) HBX2.out (cvC_no hcl hfi (by omega))
        have HC := Lib.hid (cvC_up hcl (i := 10) (by omega))
        have HS := Lib.hid (cvS_up (X := X.drew) (B := W.heap.size) (x := x) (b1 := b1) (b2 := b2) (l1 := l1) (l2 := l2) (f := f) (i := 10) (by omega))
        generalize cvS X.drew W.heap.size x b1 b2 l1 l2 f = w0 at *
        refine inv_read rfl ?_
        unfold cvA
        simp only [d9, cond_true]
        still_step
        exact wpStill_nil ⟨HC.out, by simp, HS.out⟩
      · -- 11
        obtain rfl := Option.some.inj ho
        obtain ⟨d8, d10⟩ : f 8 = true ∧ f 10 = true := by simpa [freeB, Region.binds] using hfr
        clear hfr
        have HC := Lib.hid (cvC_up hcl (i := 11) (by omega))
        have HS := Lib.hid (cvS_up (X := X.drew) (B := W.heap.size) (x := x) (b1 := b1) (b2 := b2) (l1 := l1) (l2 := l2) (f := f) (i := 11) (by omega))
        generalize cvS X.drew W.heap.size x b1 b2 l1 l2 f = w0 at *
        refine inv_read rfl ?_
        unfold cvA
        simp only [d8, d10, cond_true]
        still_step
        exact wpStill_nil ⟨HC.out, by simp [HW3.out], HS.out⟩
      · -- 12
        obtain rfl := Option.some.inj ho
        clear hfr
        have HC := Lib.hid (cvC_up hcl (i := 12) (by omega))
        have HS := Lib.hid (cvS_up (X := X.drew) (B := W.heap.size) (x := x) (b1 := b1) (b2 := b2) (l1 := l1) (l2 := l2) (f := f) (i := 12) (by omega))
        generalize cvS X.drew W.heap.size x b1 b2 l1 l2 f = w0 at *
        refine inv_read rfl ?_
        unfold cvA
        still_step
        exact wpStill_nil ⟨HC.out, rfl, HS.out⟩
      · -- 13
        obtain rfl := Option.some.inj ho
        obtain d12 : f 12 = true := by simpa [freeB, Region.binds] using hfr
        clear hfr
        have h17 := cvC_no hcl hfi (by omega)
        have h16 := cvC_no6 hcl (by simp [hfi])
        have c0 : (cvS X.drew W.heap.size x b1 b2 l1 l2 f).cell? ⟨W.heap.size + 1, 0, none⟩ = some (.int .i64 b1) := by rw [cvS_first h16 h17]; exact HBX1.out.c0
        have c1 : (cvS X.drew W.heap.size x b1 b2 l1 l2 f).cell? ⟨W.heap.size + 1, 1, none⟩ = some (.int .i64 b2) := by rw [cvS_first h16 h17]; exact HBX1.out.c1
        have HC := Lib.hid (cvC_up hcl (i := 13) (by omega))
        have HS := Lib.hid (cvS_up (X := X.drew) (B := W.heap.size) (x := x) (b1 := b1) (b2 := b2) (l1 := l1) (l2 := l2) (f := f) (i := 13) (by omega))
        generalize cvS X.drew W.heap.size x b1 b2 l1 l2 f = w0 at *
        refine inv_read rfl ?_
        unfold cvA
        simp only [d12, cond_true]
        still_step
        exact wpStill_nil ⟨HC.out, by simp, HS.out⟩
      · -- 14
        obtain rfl := Option.some.inj ho
        obtain ⟨d11, d13⟩ : f 11 = true ∧ f 13 = true := by simpa [freeB, Region.binds] using hfr
        clear hfr
        have HC := Lib.hid (cvC_up hcl (i := 14) (by omega))
        have HS := Lib.hid (cvS_up (X := X.drew) (B := W.heap.size) (x := x) (b1 := b1) (b2 := b2) (l1 := l1) (l2 := l2) (f := f) (i := 14) (by omega))
        generalize cvS X.drew W.heap.size x b1 b2 l1 l2 f = w0 at *
        refine inv_read rfl ?_
        unfold cvA
        simp only [d11, d13, cond_true]
        still_step
        exact wpStill_nil ⟨HC.out, by simp [HW4.out], HS.out⟩
      · -- 15
        obtain rfl := Option.some.inj ho
        obtain ⟨d7, d14⟩ : f 7 = true ∧ f 14 = true := by simpa [freeB, Region.binds] using hfr
        clear hfr
        have HC := Lib.hid (cvC_up hcl (i := 15) (by omega))
        have HS := Lib.hid (cvS_up (X := X.drew) (B := W.heap.size) (x := x) (b1 := b1) (b2 := b2) (l1 := l1) (l2 := l2) (f := f) (i := 15) (by omega))
        generalize cvS X.drew W.heap.size x b1 b2 l1 l2 f = w0 at *
        refine inv_read rfl ?_
        unfold cvA
        simp only [d7, d14, cond_true]
        still_step
        exact wpStill_nil ⟨HC.out, by simp, HS.out⟩
      · -- 16
        obtain rfl := Option.some.inj ho
        obtain ⟨d0, d5, d6, d12, d13⟩ : f 0 = true ∧ f 5 = true ∧ f 6 = true ∧ f 12 = true ∧ f 13 = true := by simpa [freeB, Region.binds] using hfr
        clear hfr
        have h17 := cvC_no hcl hfi (by omega)
        rw [cvS_first hfi h17]
        obtain ⟨x0, x1, x2, x3, x4⟩ := HB1.out
        refine inv_list rfl rfl ?_
        unfold cvA
        simp only [d0, d6, d13, cond_true]
        go_simp
        try simp only [Oper.upon]
        refine ⟨⟨fun _ => by simp [d0, d6, d13], fun h => by simp [h17] at h⟩, ?_⟩
        simp only [cvS, h17]
        rfl
      · -- 17
        obtain rfl := Option.some.inj ho
        have hall : ∀ j, j < 17 → f j = true := by
          have hh := hfr
          simp [freeB, Region.binds] at hh
          intro j hj
          have hj' : j = 0 ∨ j = 1 ∨ j = 2 ∨ j = 3 ∨ j = 4 ∨ j = 5 ∨ j = 6 ∨ j = 7 ∨ j = 8 ∨ j = 9 ∨ j = 10 ∨ j = 11 ∨ j = 12 ∨ j = 13 ∨ j = 14 ∨ j = 15 ∨ j = 16 := by omega
          rcases hj' with rfl | rfl | rfl | rfl | rfl | rfl | rfl | rfl | rfl | rfl | rfl | rfl | rfl | rfl | rfl | rfl | rfl <;> simp_all
        clear hfr
        have h16 := hall 16 (by omega)
        rw [cvS_mid h16 hfi]
        have d2 := hall 2 (by omega)
        have d15 := hall 15 (by omega)
        obtain ⟨y0, y1, y2, y3, y4⟩ := cvW1_box (l1 := l1) (l2 := l2) HBX2.out
        refine inv_list rfl rfl ?_
        unfold cvA
        simp only [d2, d15, cond_true]
        go_simp
        try simp only [Oper.upon]
        refine ⟨⟨fun _ => ?_, fun _ j hj => ?_⟩, ?_⟩
        · have r0 := hall 0 (by omega)
          have r6 := hall 6 (by omega)
          have r13 := hall 13 (by omega)
          simp [r0, r6, r13]
        · have := hall j hj
          simp [this]
        · simp only [cvS]
          rfl
    case fin =>
      rintro f _ _ hall ⟨_, rfl, rfl⟩
      have hall' : ∀ i, i < 18 → f i = true := hall
      refine ⟨?_, ?_⟩
      · unfold cvA
        simp only [hall' 0 (by omega), hall' 1 (by omega), hall' 2 (by omega), hall' 3 (by omega), hall' 4 (by omega), hall' 5 (by omega), hall' 6 (by omega), hall' 7 (by omega), hall' 8 (by omega), hall' 9 (by omega), hall' 10 (by omega), hall' 11 (by omega), hall' 12 (by omega), hall' 13 (by omega), hall' 14 (by omega), hall' 15 (by omega)]
      · unfold cvS
        rw [hall' 17 (by omega)]
        rfl
    case q =>
      rintro _ _ ⟨rfl, rfl⟩
      unfold cvA
      simp only [cond_true]
      have HA := Lib.hid (cv_after (x := x) HB1.out HB2.out HC0.out)
      generalize cvW2 X.drew W.heap.size x b1 b2 l1 l2 = X2 at *
      obtain ⟨j1, j2⟩ := cvA_j HA.out hJ HJ1.out (by have := H2.out; omega) H3.out
      obtain ⟨x0, x1, x2, x3, x4⟩ := HA.out.box1
      obtain ⟨y0, y1, y2, y3, y4⟩ := HA.out.box2
      have z0 := HA.out.fn
      obtain ⟨fn, tmps, assign, body, hy, hR⟩ := HY.out (convL pre) (stOf (pre ++ [x])) (UU W.heap.size T X2) X2 HSP.out j1 j2 HLEN.out
      rw [HSN.out] at hy
      unfold encPP at hy
      simp only [] at hy
      have HR := Lib.hid hR
      clear hR j1 j2
      gi_wp2_with fail
      refine (roundIn2 HR.out).mono ?_
      rintro e W2 (⟨rfl, hj2, hk2⟩ | ⟨rfl, hjx, hk2⟩)
      · have R := Lib.hid (cv_round HA.out hJ S3.out HBK.out H3.out HSN.out hj2 hk2)
        clear hj2 hk2 x0 x1 x2 x3 x4 y0 y1 y2 y3 y4 z0
        gi_wp2_with fail
        exact R.out
      · have R := Lib.hid (cv_left HA.out hJx S3.out HBK.out H3.out hjx hk2)
        clear hjx hk2 x0 x1 x2 x3 x4 y0 y1 y2 y3 y4 z0
        gi_wp2_with fail
        exact ⟨R.out.1, R.out.2.1, rfl, R.out.2.2.1⟩
  case done =>
    rintro D xs T X rfl rfl ⟨⟨h1, h2, h3⟩, hb1, hb2, hc0⟩ hK
    have HJ1 := Lib.hid h1
    clear h1 hb1 hb2 hc0
    gi_wp2
    refine ⟨by simp, .inl ⟨_, _, rfl, run_takeDeferred hK, ?_⟩⟩
    refine ⟨_, results_none rfl _ _ _, ⟨_, rfl⟩, .inl ⟨_, _, rfl, cv_put hJ S3.out HJ1.out h3 hK⟩⟩
  case stop =>
    rintro D c pre T X rfl hsp ⟨rfl, h1, h2, h3⟩ hK
    have HJ1 := Lib.hid h1
    have HSQ := Lib.hid (convL_prefix hsp)
    clear h1 hsp
    gi_wp2
    refine ⟨by simp, .inl ⟨_, _, rfl, run_takeDeferred hK, ?_⟩⟩
    refine ⟨_, results_none rfl _ _ _, ⟨_, rfl⟩, .inr ⟨_, _, HSQ.out, cv_put hJx S3.out HJ1.out h3 hK⟩⟩
end Go.Proofs.Ytldjplopglpgfaa

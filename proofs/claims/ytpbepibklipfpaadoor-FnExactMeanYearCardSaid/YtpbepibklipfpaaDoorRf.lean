/-
  A loop over an iterator that keeps variables of its own in memory: the contract of such an iterator, and the law of the loop. The iterator names the blocks that are its own; a round leaves them alone, and what the loop carries does not speak of them.
-/
import Derived.Test.YtpbepibklipfpaaDoorProg
import Derived.RangeFuncNested
import Derived.RangeFuncBound
import Derived.RangeFuncCalls
import Derived.RangeFuncLeaves
namespace Go.Proofs.YtpbepibklipfpaaDoor
open Go.RowKit

/-- Outside of a set of blocks all stands; new blocks may come. -/
structure Mov (S : Nat → Prop) (W W' : World) : Prop where
  os : W'.os = W.os
  tape : W'.tape = W.tape
  output : W'.output = W.output
  size : W.heap.size ≤ W'.heap.size
  block : ∀ k, k < W.heap.size → ¬ S k → W'.heap[k]? = W.heap[k]?
def none1 : Nat → Prop := fun _ => False
theorem Mov.refl (S : Nat → Prop) (W : World) : Mov S W W := ⟨rfl, rfl, rfl, Nat.le_refl _, fun _ _ _ => rfl⟩
theorem Mov.of_below {S : Nat → Prop} {W W' : World} (h : Below W.heap.size W W') : Mov S W W' := ⟨h.os, h.tape, h.output, h.size, fun k hk _ => h.block k hk⟩
theorem Mov.below {W W' : World} (h : Mov none1 W W') : Below W.heap.size W W' := ⟨h.os, h.tape, h.output, h.size, fun k hk => h.block k hk (fun x => x)⟩
theorem Mov.alloc {S : Nat → Prop} {W W' : World} (h : Mov S W W') (o : Obj) : Mov S W (W'.alloc o) :=
  ⟨h.os, h.tape, h.output, by have := h.size; simp; omega, fun k hk hn => (Below.heap_alloc _ _ _ (Nat.lt_of_lt_of_le hk h.size)).trans (h.block k hk hn)⟩
theorem Mov.setCell {S : Nat → Prop} {W W' : World} (h : Mov S W W') {a : Addr} (ha : S a.block ∨ W.heap.size ≤ a.block) (v : Value) : Mov S W (W'.setCell a v) :=
  ⟨h.os, h.tape, h.output, by have := h.size; simpa [World.setCell] using this, fun k hk hn => (Below.heap_setCell _ _ _ _ (fun e => by subst e; rcases ha with ha | ha; exact hn ha; omega)).trans (h.block k hk hn)⟩
theorem Mov.trans {S : Nat → Prop} {A B C : World} (h : Mov S A B) (k : Mov S B C) : Mov S A C :=
  ⟨k.os.trans h.os, k.tape.trans h.tape, k.output.trans h.output, Nat.le_trans h.size k.size, fun i hi hn => (k.block i (Nat.lt_of_lt_of_le hi h.size) hn).trans (h.block i hi hn)⟩
theorem Mov.then {S : Nat → Prop} {A B C : World} (h : Mov S A B) (k : Below B.heap.size B C) : Mov S A C := h.trans (Mov.of_below k)

/-- What is carried does not mind a step of the iterator in its own blocks and in new ones. -/
def AbP {β : Type} (J : β → (Nat → Prop) → World → Prop) : Prop :=
  ∀ s S S' W W', J s S W → Mov S W W' → (∀ k, S' k → (S k ∨ W.heap.size ≤ k) ∧ k < W'.heap.size) → J s S' W'
/-- What a round keeps: the iterator's own blocks, and those that it reads. -/
structure Kept (S Fx : Nat → Prop) (W W' : World) : Prop where
  os : W'.os = W.os
  tape : W'.tape = W.tape
  output : W'.output = W.output
  size : W.heap.size ≤ W'.heap.size
  mine : ∀ k, S k → W'.heap[k]? = W.heap[k]?
  read : ∀ k, Fx k → W'.heap[k]? = W.heap[k]?
theorem Kept.trans {S Fx : Nat → Prop} {A B C : World} (h : Kept S Fx A B) (k : Kept S Fx B C) : Kept S Fx A C :=
  ⟨k.os.trans h.os, k.tape.trans h.tape, k.output.trans h.output, Nat.le_trans h.size k.size, fun i hi => (k.mine i hi).trans (h.mine i hi), fun i hi => (k.read i hi).trans (h.read i hi)⟩

/-- The contract of an iterator: what comes, S xs; a part of it, Sp pre, if a round says so. -/
def SeqP {α : Type} (F : Fence) (P : Program) (g : Nat) (lb : Array Value) (encs : α → Array Value) (Fx : Nat → Prop) (S Sp : List α → Prop) (N : Nat) (w : World) : Prop :=
  ∀ (n m l : Nat) (J Jx : List α → (Nat → Prop) → World → Prop) (W : World), Below w.heap.size w W → AbP J → AbP Jx →
    (∀ pre x T W1, Sp (pre ++ [x]) → J pre T W1 → (∀ k, T k → k < W1.heap.size) → pre.length < N → YieldAt F m P l (encs x) W1 fun e W' =>
      (e = .returned (.bool true) ∧ J (pre ++ [x]) T W' ∧ Kept T Fx W1 W') ∨ (e = .returned (.bool false) ∧ Jx (pre ++ [x]) T W' ∧ Kept T Fx W1 W')) →
    J [] none1 W →
    CallsIn F n P g (#[.func (.yield l) #[] #[]] ++ lb) W fun e W' => (∃ v, e = .returned v) ∧ ((∃ xs T, S xs ∧ J xs T W') ∨ (∃ pre T, Sp pre ∧ Jx pre T W'))

/-- The two blocks of the loop's own books lie as they lay. -/
def Same2 (B : Nat) (W W' : World) : Prop := W'.heap[B]? = W.heap[B]? ∧ W'.heap[B + 1]? = W.heap[B + 1]? ∧ W.heap.size ≤ W'.heap.size
/-- They are no cells. -/
def Books (B : Nat) (W : World) : Prop := (∃ o : Obj, W.heap[B]? = some o ∧ o.isCells = false) ∧ ∃ o : Obj, W.heap[B + 1]? = some o ∧ o.isCells = false
theorem same2_of {B : Nat} {W W' : World} (hb : Books B W) (h : KeepsOthers W W') : Same2 B W W' := by
  obtain ⟨⟨o, h1, h2⟩, p, h3, h4⟩ := hb
  exact ⟨(h.same _ _ h1 h2).trans h1.symm, (h.same _ _ h3 h4).trans h3.symm, h.size⟩
/-- How the body of a round may be left. -/
def postP {α : Type} (B : Nat) (Fx : Nat → Prop) (I : List α → (Nat → Prop) → World → Prop) (Ix : Code → List α → (Nat → Prop) → World → Prop) (xs : List α) (T : Nat → Prop) (W : World) : Exit → Act → World → Prop
  | .normal, _, W' => Same2 B W W' ∧ Kept T Fx W W' ∧ I xs T W'
  | .ret, _, W' => Same2 B W W' ∧ Kept T Fx W W' ∧ Ix .ret xs T W'
  | .exit i, _, W' => Same2 B W W' ∧ Kept T Fx W W' ∧ Ix (.exit i) xs T W'
  | .goto t, _, W' => Same2 B W W' ∧ Kept T Fx W W' ∧ Ix (.goto t) xs T W'
  | .panic _, _, _ => False
  | .outgrown, _, _ => False

/-- What is carried does not mind the turn of the loop's own record, in block B + 1. -/
def TurnsP {β : Type} (B : Nat) (J : β → World → Prop) : Prop := ∀ s W o o', J s W → W.heap[B + 1]? = some o → o.isCells = false → J s (W.putObj (B + 1) o')

theorem kept_put {T Fx : Nat → Prop} {l : Nat} {W : World} (o' : Obj) (hF : ¬ Fx l) (hT : ¬ T l) : Kept T Fx W (W.putObj l o') :=
  ⟨rfl, rfl, rfl, by simp, fun k hk => World.putObj_heap_other (fun e => hT (e ▸ hk)), fun k hk => World.putObj_heap_other (fun e => hF (e ▸ hk))⟩

theorem rf_law {α : Type} {F : Fence} {n : Nat} {P : Program} {g : Operand} {ps : Array Tmp} {assign body : Code} {Q : Exit → Act → World → Prop} {a : Act} {w : World} (m : Nat)
    (hro : F.round = none) (hd : F.depth = none) {gf : Nat} {lb : Array Value} (hg : a.eval g = .func (.func gf) #[] lb) (hFg : F.fn gf) (eg : ∀ args w, (callFunc gf args).run P w = .ok (.enter gf args) w)
    {encs : α → Array Value} {S Sp : List α → Prop} {N : Nat} {Fx : Nat → Prop} {w0 : World} (hseq : SeqP F P gf lb encs Fx S Sp N w0) (hFx : ∀ k, Fx k → k < w.heap.size) (hb0 : Below w0.heap.size w0 w) (hps : ∀ x, (encs x).size = ps.size)
    (I : List α → (Nat → Prop) → World → Prop) (Ix : Code → List α → (Nat → Prop) → World → Prop) (hI : AbP I) (hIx : ∀ c, AbP (Ix c))
    (hT : ∀ T, TurnsP w.heap.size (fun s => I s T)) (hTx : ∀ c T, TurnsP w.heap.size (fun s => Ix c s T)) (h0 : I [] none1 w)
    (Ax : α → Act → World → Prop) (hAx : ∀ a', TurnsP w.heap.size (fun x => Ax x a'))
    (hassign : ∀ (l : Nat) (pre : List α) (x : α) (T : Nat → Prop) (W : World) (K : Act → World → Prop), I pre T W → (∀ k, T k → k < W.heap.size ∧ w.heap.size + 1 < k) → (∀ a' W', Below W.heap.size W W' → I pre T W' → Ax x a' W' → K a' W') →
      assign.wpIn (F.inRound l) m P (Exit.then K (fun _ _ _ => False)) { tmps := (ps.zip (encs x)).foldl (fun t (p, v) => t.setIfInBounds p v) a.tmps, defers := [] } W)
    (hbody : ∀ (l : Nat) (pre : List α) (x : α) (a' : Act) (T : Nat → Prop) (W : World), Sp (pre ++ [x]) → I pre T W → (∀ k, T k → k < W.heap.size ∧ w.heap.size + 1 < k) → Books w.heap.size W → Ax x a' W → pre.length < N → body.wpIn (F.inRound l) m P (postP w.heap.size Fx I Ix (pre ++ [x]) T W) a' W)
    (hdone : ∀ (D : Nat) (xs : List α) (T : Nat → Prop) (W : World), D = w.heap.size → S xs → I xs T W → W.heap[D]? = some (.deferred (some [])) → Q .normal { a with defers := { target := .collected D, args := #[] } :: a.defers } W)
    (hstop : ∀ (D : Nat) (c : Code) (pre : List α) (T : Nat → Prop) (W : World), D = w.heap.size → Sp pre → Ix c pre T W → W.heap[D]? = some (.deferred (some [])) → c.wpIn F n P Q { a with defers := { target := .collected D, args := #[] } :: a.defers } W) :
    (Code.rangeFunc g ps assign body).wpIn F n P Q a w := by
  apply wpIn_rangeFunc
  intro fn hfn
  -- the record of the loop, as it stands between two rounds, and behind a round that leaves
  let rc : LoopState → Option Code → Loop := fun st pe => { state := st, pending := pe, fn, tmps := a.tmps, params := ps, assign, body, defers := w.heap.size }
  let L := w.heap.size + 1
  let Bk : LoopState → Option Code → (Nat → Prop) → World → Prop := fun st pe T W => W.heap[L]? = some (.loop (rc st pe)) ∧ W.heap[w.heap.size]? = some (.deferred (some [])) ∧ ∀ k, T k → k < W.heap.size ∧ L < k
  have bkAb : ∀ st pe {T T' W W'}, Bk st pe T W → Mov T W W' → (∀ k, T' k → (T k ∨ W.heap.size ≤ k) ∧ k < W'.heap.size) → Bk st pe T' W' := by
    intro st pe T T' W W' ⟨b1, b2, b3⟩ hm hT'
    have l1 := (Array.getElem?_eq_some_iff.1 b1).1
    have l2 := (Array.getElem?_eq_some_iff.1 b2).1
    refine ⟨(hm.block _ l1 (fun h => by have := b3 _ h; omega)).trans b1, (hm.block _ l2 (fun h => by have := b3 _ h; simp only [L] at this; omega)).trans b2, fun k hk => ⟨(hT' k hk).2, ?_⟩⟩
    rcases (hT' k hk).1 with h | h
    · exact (b3 k h).2
    · omega
  let W1 := (w.alloc (.deferred (some []))).alloc (.loop (rc .ready none))
  have hW1 : Below w.heap.size w W1 := ((Below.refl _ w).alloc (Nat.le_refl _) _).alloc (by simp) _
  have hB1 : Bk .ready none none1 W1 := by
    refine ⟨?_, ?_, fun k hk => hk.elim⟩
    · have := World.alloc_heap_new (w.alloc (.deferred (some []))) (.loop (rc .ready none))
      rwa [World.size_alloc] at this
    · exact (Below.heap_alloc _ _ _ (by simp)).trans (World.alloc_heap_new w _)
  refine ⟨L, [{ target := .collected w.heap.size, args := #[] }], W1, { target := .fn (.func gf) lb, args := #[.func (.yield L) #[] #[]] }, W1, gf, #[.func (.yield L) #[] #[]] ++ lb, W1, ?_, ?_, ?_, ?_, (fun h => by rw [hd] at h; cases h), ?_⟩
  · rw [hro]; exact run_enterLoop_outer _ _ _ _ _
  · simp only [resolve, hg]
    simp [go_sem]
  · intro f' hf'
    simp [Target.leads] at hf'
    subst hf'; exact hFg
  · simp [invoke, go_sem, eg]
  · refine (hseq (n - 1) m L (fun pre T W => I pre T W ∧ Bk .ready none T W) (fun pre T W => ∃ c, Ix c pre T W ∧ Bk .done (some c) T W) W1 (hb0.trans (hW1.mono hb0.size))
      (fun s T T' W W' hs hm ht => ⟨hI s T T' W W' hs.1 hm ht, bkAb _ _ hs.2 hm ht⟩)
      (fun s T T' W W' hs hm ht => by obtain ⟨c, h1, h2⟩ := hs; exact ⟨c, hIx c s T T' W W' h1 hm ht, bkAb _ _ h2 hm ht⟩)
      ?round ⟨hI _ _ _ _ _ h0 (Mov.of_below hW1) (fun k hk => hk.elim), hB1⟩).mono ?_
    case round =>
      rintro pre x T W hsp ⟨hi, hl, hk, ht⟩ _ hlen
      have hll := (Array.getElem?_eq_some_iff.1 hl).1
      have ht' : ∀ k, T k → k < W.heap.size ∧ w.heap.size + 1 < k := fun k hk => ⟨(ht k hk).1, (ht k hk).2⟩
      refine ⟨fn, _, assign, body, run_yield (P := P) (args := encs x) hl (hps x), roundIn_of_wpIn hfn (hassign L pre x T W _ hi ht' ?_)⟩
      intro a' Wa hba hia hax
      have hl2 : Wa.heap[L]? = some (.loop (rc .ready none)) := (hba.block _ hll).trans hl
      have hk2 : Wa.heap[w.heap.size]? = some (.deferred (some [])) := (hba.block _ (by simp only [L] at hll; omega)).trans hk
      have hla := (Array.getElem?_eq_some_iff.1 hl2).1
      have hTL : ¬ T L := fun h => by have := ht _ h; omega
      refine ⟨_, run_beginRound hl2 rfl, ?_⟩
      have hs3 := World.putObj_heap_same (w := Wa) (o := .loop { rc .ready none with state := .busy }) hla
      refine wpIn_mono (hbody L pre x a' T _ hsp (hT T pre Wa _ _ hia hl2 rfl) (fun k hk => ⟨by have := (ht' k hk).1; have := hba.size; simp; omega, (ht' k hk).2⟩) ⟨⟨_, (World.putObj_heap_other (by simp only [L]; omega)).trans hk2, rfl⟩, _, hs3, rfl⟩ (hAx a' x Wa _ _ hax hl2 rfl) hlen) ?_
      -- the end of a round: the record is turned once more
      have turn : ∀ (j : Option Code) (W3 : World), Same2 w.heap.size (Wa.putObj L (.loop { rc .ready none with state := .busy })) W3 →
          W3.heap[L]? = some (.loop { rc .ready none with state := .busy }) ∧ (Instr.endRound L j).run P W3 = .ok (.bool j.isNone) (W3.putObj L (.loop (rc (if j.isNone then .ready else .done) j))) ∧ (∀ T', (∀ k, T' k → T k) → Bk (if j.isNone then .ready else .done) j T' (W3.putObj L (.loop (rc (if j.isNone then .ready else .done) j)))) := by
        intro j W3 hk3
        have e1 := hk3.2.1.trans hs3
        have e2 := hk3.1.trans ((World.putObj_heap_other (by simp only [L]; omega)).trans hk2)
        refine ⟨e1, run_endRound (P := P) j e1, fun T' hT' => ⟨World.putObj_heap_same (Array.getElem?_eq_some_iff.1 e1).1, (World.putObj_heap_other (by simp only [L]; omega)).trans e2, fun k hk => ⟨?_, (ht k (hT' k hk)).2⟩⟩⟩
        have := (ht k (hT' k hk)).1
        have := hba.size
        have := hk3.2.2
        simp at this ⊢; omega
      have hFL : ¬ Fx L := fun h => by have := hFx _ h; simp only [L] at this; omega
      have k1 : Kept T Fx W Wa := ⟨hba.os, hba.tape, hba.output, hba.size, fun k hk => hba.block k (ht k hk).1, fun k hk => hba.block k (by have := hFx k hk; simp only [L] at hll; omega)⟩
      have kfin : ∀ (o' : Obj) (W3 : World), Kept T Fx (Wa.putObj L (.loop { rc .ready none with state := .busy })) W3 → Kept T Fx W (W3.putObj L o') := fun o' W3 p2 => ((k1.trans (kept_put _ hFL hTL)).trans p2).trans (kept_put _ hFL hTL)
      rintro e a3 W3 hp
      cases e with
      | normal =>
        obtain ⟨p1, p2, p3⟩ := hp
        obtain ⟨t1, t2, t3⟩ := turn none W3 p1
        exact ⟨_, _, t2, .inl ⟨rfl, ⟨hT T _ W3 _ _ p3 t1 rfl, t3 T (fun _ h => h)⟩, kfin _ _ p2⟩⟩
      | ret =>
        obtain ⟨p1, p2, p3⟩ := hp
        obtain ⟨t1, t2, t3⟩ := turn (some .ret) W3 p1
        exact ⟨_, _, t2, .inr ⟨rfl, ⟨.ret, hTx _ T _ W3 _ _ p3 t1 rfl, t3 T (fun _ h => h)⟩, kfin _ _ p2⟩⟩
      | exit i =>
        obtain ⟨p1, p2, p3⟩ := hp
        obtain ⟨t1, t2, t3⟩ := turn (some (.exit i)) W3 p1
        exact ⟨_, _, t2, .inr ⟨rfl, ⟨.exit i, hTx _ T _ W3 _ _ p3 t1 rfl, t3 T (fun _ h => h)⟩, kfin _ _ p2⟩⟩
      | goto t =>
        obtain ⟨p1, p2, p3⟩ := hp
        obtain ⟨t1, t2, t3⟩ := turn (some (.goto t)) W3 p1
        exact ⟨_, _, t2, .inr ⟨rfl, ⟨.goto t, hTx _ T _ W3 _ _ p3 t1 rfl, t3 T (fun _ h => h)⟩, kfin _ _ p2⟩⟩
      | panic ch => exact hp.elim
      | outgrown => exact hp.elim
    · rintro e W2 ⟨⟨v, rfl⟩, (⟨xs, T, hS, hi, hl, hk, _⟩ | ⟨pre, T, hSp, c, hi, hl, hk, _⟩)⟩
      · exact ⟨none, _, run_endLoop (P := P) hl (by simp [rc]), hdone _ xs T _ rfl hS (hT T _ W2 _ _ hi hl rfl) ((World.putObj_heap_other (by simp only [L]; omega)).trans hk)⟩
      · exact ⟨some c, _, run_endLoop (P := P) hl (by simp [rc]), hstop _ c pre T _ rfl hSp (hTx c T _ W2 _ _ hi hl rfl) ((World.putObj_heap_other (by simp only [L]; omega)).trans hk)⟩
end Go.Proofs.YtpbepibklipfpaaDoor

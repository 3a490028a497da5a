/-
  An append to a row of numbers of one's own: what it leaves alone, and where the new row lies.
-/
import Derived.Test.YtmmmbchlkjljaaaEsA
import Derived.Maps.AppendAt
namespace Go.Proofs.Ytmmmbchlkjljaaa
open Go.RowKit

/-- Of the blocks that are there only the old row's may change; the new row lies there or in a new block. -/
structure Apd (v v' : Value) (w w' : World) : Prop where
  os : w'.os = w.os
  tape : w'.tape = w.tape
  output : w'.output = w.output
  size : w.heap.size ≤ w'.heap.size
  blk : ∀ k, k < w.heap.size → v.ownBlock ≠ some k → w'.heap[k]? = w.heap[k]?
  own : v'.ownBlock = v.ownBlock ∨ ∃ r, v'.ownBlock = some r ∧ w.heap.size ≤ r
theorem Apd.below {v v' : Value} {w w' : World} {B : Nat} (h : Apd v v' w w') (hv : ∀ r, v.ownBlock = some r → B ≤ r) (hB : B ≤ w.heap.size) : Below B w w' :=
  ⟨h.os, h.tape, h.output, by have := h.size; omega, fun k hk => h.blk k (by omega) (fun e => by have := hv k e; omega)⟩
theorem Apd.box {v v' : Value} {w w' : World} {b : Nat} {vs : List Value} (h : Apd v v' w w') (H : BoxL w b vs) (hn : v.ownBlock ≠ some b) : BoxL w' b vs :=
  ⟨fun i u e => (World.cell?_of_block (h.blk b H.lt hn)).trans (H.c i u e), fun i u e => (World.frozen?_of_block (h.blk b H.lt hn)).trans (H.f i u e), Nat.lt_of_lt_of_le H.lt h.size⟩
theorem Apd.sl {v v' u : Value} {w w' : World} {ts : List Int} (h : Apd v v' w w') (H : Sl64 w u ts) (hn : ∀ r, u.ownBlock = some r → v.ownBlock ≠ some r) : Sl64 w' u ts := by
  obtain ⟨ao, cap, e, h1⟩ := H
  refine ⟨ao, cap, e, fun hl => ?_⟩
  obtain ⟨g, eg, hg, hc⟩ := h1 hl
  have hb := h.blk g hg (hn g (by rw [e, eg]; rfl))
  exact ⟨g, eg, Nat.lt_of_lt_of_le hg h.size, fun i hi => (World.cell?_of_block hb).trans (hc i hi)⟩
theorem Apd.slP {v v' u : Value} {w w' : World} {ps : List (Int × Int)} (h : Apd v v' w w') (H : SlP w u ps) (hn : ∀ r, u.ownBlock = some r → v.ownBlock ≠ some r) : SlP w' u ps := by
  obtain ⟨ao, cap, e, h1⟩ := H
  refine ⟨ao, cap, e, fun hl => ?_⟩
  obtain ⟨g, eg, hg, hc⟩ := h1 hl
  have hb := h.blk g hg (hn g (by rw [e, eg]; rfl))
  exact ⟨g, eg, Nat.lt_of_lt_of_le hg h.size, fun i hi => ⟨(World.cell?_of_block hb).trans (hc i hi).1, (World.cell?_of_block hb).trans (hc i hi).2⟩⟩
theorem Apd.owns {v v' u : Value} {w w' : World} {B : Nat} {t : TypeId} {sz n : Nat} {xs : List Value} (h : Apd v v' w w') (H : w.ownsRow B t sz u n xs) (hn : ∀ r, u.ownBlock = some r → v.ownBlock ≠ some r) : w'.ownsRow B t sz u n xs := by
  refine ⟨H.1, ?_⟩
  rcases H.2 with h0 | ⟨g', cap, cur, h0, hB, hh, r⟩
  · exact .inl h0
  · exact .inr ⟨g', cap, cur, h0, hB, (h.blk g' (Array.getElem?_eq_some_iff.1 hh).1 (hn g' (by rw [h0]; rfl))).trans hh, r⟩
theorem app64w {ops : Array Oper} {rest : List Oper} {o : Oper} {a : Act} {Q : Exit → Act → World → Prop} {B : Nat} {w : World} (hgd : o.guard = none) (s x : Operand)
    (ho : o.op = .call { callee := .builtin .append, args := #[s, x], argTypes := #[24, 24] }) (v : Value) (xs : List Int) (g : Int) (hs : a.eval s = v) (hr : w.ownsRow B 2 1 v xs.length (intC xs)) (hB : B ≤ w.heap.size)
    (hx : a.eval x = .slice (some ⟨w.heap.size, 0, none⟩) 1 1) (hl : xs.length ≤ 1000000)
    (h : ∀ v' w', w'.ownsRow B 2 1 v' (xs ++ [g]).length (intC (xs ++ [g])) → Apd v v' w w' → wpList Try.prog ops Q rest (a.put o.dst v') w') : wpList Try.prog ops Q (o :: rest) a (w.alloc (.cells #[.int .i64 g] 2)) := by
  obtain ⟨i0, hi, hz0, hz1, hz2⟩ := info_parts infoI64
  refine wpList_append_own_at _ hgd s x 24 ho B 2 i0 (.int .i64 0) 1 8 Try.underlying24 hi hz0 hz1 hz2 rfl (by decide) v xs.length (intC xs) hs (own_keep hr (bA (bR w) _)) ⟨w.heap.size, 0, none⟩ 1 1 [.int .i64 g] hx rfl (row_src _ _ _) (by intro y hy; simp at hy; rw [hy]; rfl) (by unfold maxLen; omega) (by omega) (by simp; omega) ?_
  intro v' w' hown hg _ hat
  have hsz := hg.size
  simp only [World.size_alloc] at hsz
  refine h v' w' ?_ ⟨hg.os, hg.tape, hg.output, by omega, fun k hk hn => (hg.block k (by simp; omega) (fun e => hn e.symm)).trans (Below.heap_alloc _ _ _ hk), ?_⟩
  · have e : intC (xs ++ [g]) = intC xs ++ [.int .i64 g] := by simp [intC]
    rw [e, List.length_append]; exact hown
  · rcases hat with e | e
    · exact .inl e
    · exact .inr ⟨_, e, by simp⟩
end Go.Proofs.Ytmmmbchlkjljaaa

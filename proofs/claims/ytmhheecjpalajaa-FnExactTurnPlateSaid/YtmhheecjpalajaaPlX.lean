/-
  Moved plates: what the document's side keeps while it collects the sites.
-/
import Derived.Test.YtmhheecjpalajaaPlW
namespace Go.Proofs.Ytmhheecjpalajaa
open Go.RowKit

/-- A site that was mirrored (1) or turned (2). -/
def mvS (W H m : Int) (s : Sit) : Sit := if m = 1 then ⟨s.nm, W - s.x, s.y, s.wh, s.st⟩ else ⟨s.nm, H - s.y, s.x, s.wh, s.st⟩
def mvP (p : Pl4) (m : Int) : Pl4 := if m = 1 then p else ⟨p.H, p.W, p.M, p.G⟩
def mvL (W H m : Int) (ss : List Sit) (k : Nat) : List Sit := (ss.take k).map (mvS W H m)
theorem mvL_len (W H m : Int) {ss : List Sit} {k : Nat} (h : k ≤ ss.length) : (mvL W H m ss k).length = k := by simp [mvL]; omega
theorem mvL_succ (W H m : Int) {ss : List Sit} {k : Nat} (h : k < ss.length) : mvL W H m ss (k + 1) = mvL W H m ss k ++ [mvS W H m (siAt ss k)] := by
  unfold mvL
  rw [List.take_succ_eq_append_getElem h, List.map_append, siAt_get h]; rfl
theorem mvL_nm (W H m : Int) {ss : List Sit} {k i : Nat} (h : i < k) (hk : k ≤ ss.length) : (siAt (mvL W H m ss k) i).nm = (siAt ss i).nm := by
  unfold siAt mvL
  rw [List.getElem?_map, List.getElem?_take_of_lt h, List.getElem?_eq_getElem (by omega)]
  simp only [Option.map_some, Option.getD_some]
  unfold mvS; split <;> rfl
theorem mvS_1 (W H : Int) (s : Sit) : mvS W H 1 s = ⟨s.nm, W - s.x, s.y, s.wh, s.st⟩ := by simp [mvS]
theorem mvS_2 (W H : Int) (s : Sit) : mvS W H 2 s = ⟨s.nm, H - s.y, s.x, s.wh, s.st⟩ := by simp [mvS]
theorem siC_snoc (ss : List Sit) (s : Sit) : siC (ss ++ [s]) = siC ss ++ [.string s.nm, .int .i64 s.x, .int .i64 s.y, .int .i64 s.wh, .int .i64 s.st] := by simp [siC]
theorem srcQ5 (W : World) (a b c d e : Value) (t : TypeId) : ∀ (j : Nat) (u : Value), [a, b, c, d, e][j]? = some u → (W.alloc (.cells #[a, b, c, d, e] t)).cell? ((⟨W.heap.size, 0, none⟩ : Addr).add j) = some u := by
  intro j u hj
  match j, hj with
  | 0, hj => simp at hj; subst hj; simp [go_sem, Addr.add]
  | 1, hj => simp at hj; subst hj; simp [go_sem, Addr.add]
  | 2, hj => simp at hj; subst hj; simp [go_sem, Addr.add]
  | 3, hj => simp at hj; subst hj; simp [go_sem, Addr.add]
  | 4, hj => simp at hj; subst hj; simp [go_sem, Addr.add]
  | (j + 5), hj => simp at hj
theorem app_si {ops : Array Oper} {rest : List Oper} {o : Oper} {a : Act} {Q : Exit → Act → World → Prop} {w : World} {B : Nat} (hgd : o.guard = none) (s x : Operand)
    (ho : o.op = .call { callee := .builtin .append, args := #[s, x], argTypes := #[26, 26] }) (v : Value) (xs : List Sit) (g : Sit) (hs : a.eval s = v) (hr : w.ownsRow B 88 5 v xs.length (siC xs)) (hB : B ≤ w.heap.size)
    (hx : a.eval x = .slice (some ⟨w.heap.size, 0, none⟩) 1 1) (hl : xs.length ≤ 100)
    (h : ∀ v' w', w'.ownsRow B 88 5 v' (xs ++ [g]).length (siC (xs ++ [g])) → w.grownBy w' v.ownBlock → wpList Try.prog ops Q rest (a.put o.dst v') w') : wpList Try.prog ops Q (o :: rest) a (w.alloc (.cells #[.string g.nm, .int .i64 g.x, .int .i64 g.y, .int .i64 g.wh, .int .i64 g.st] 88)) := by
  obtain ⟨i0, hi, hz0, hz1, hz2⟩ := info_parts infoSit
  have b := bA (bR w) (.cells #[.string g.nm, .int .i64 g.x, .int .i64 g.y, .int .i64 g.wh, .int .i64 g.st] 88)
  refine wpList_append_own _ hgd s x 26 ho B 88 i0 (.agg #[.string ByteArray.empty, .int .i64 0, .int .i64 0, .int .i64 0, .int .i64 0]) 5 48 Try.underlying26 hi hz0 hz1 hz2 rfl (by decide) v xs.length (siC xs) hs (own_keep hr b) ⟨w.heap.size, 0, none⟩ 1 1 [.string g.nm, .int .i64 g.x, .int .i64 g.y, .int .i64 g.wh, .int .i64 g.st] hx rfl (srcQ5 _ _ _ _ _ _ _) (by intro y hy; simp at hy; rcases hy with rfl | rfl | rfl | rfl | rfl <;> rfl) (by unfold maxLen; omega) (by omega) (by have := b.size; omega) ?_
  intro v' w' hown hg _
  refine h v' w' ?_ ⟨hg.os.trans b.os, hg.tape.trans b.tape, hg.output.trans b.output, Nat.le_trans b.size hg.size, fun k hk hn => (hg.block k (Nat.lt_of_lt_of_le hk b.size) hn).trans (b.block k hk)⟩
  rw [siC_snoc, List.length_append]; exact hown
theorem BoxL.set4 {w : World} {b : Nat} {a0 a1 a2 a3 a4 x : Value} (h : BoxL w b [a0, a1, a2, a3, a4]) : BoxL (w.setCell ⟨b, 4, none⟩ x) b [a0, a1, a2, a3, x] := by
  obtain ⟨c0, c1, c2, c3, c4, c5⟩ := h.c5
  obtain ⟨f0, f1, f2, f3, f4⟩ := h.f5
  refine ⟨fun i u hi => ?_, fun i u hi => ?_, by simpa [World.setCell] using c5⟩
  · match i, hi with
    | 0, hi => simp at hi; subst hi; simp [go_sem, c0]
    | 1, hi => simp at hi; subst hi; simp [go_sem, c1]
    | 2, hi => simp at hi; subst hi; simp [go_sem, c2]
    | 3, hi => simp at hi; subst hi; simp [go_sem, c3]
    | 4, hi => simp at hi; subst hi; simp [go_sem, c4]
    | (i + 5), hi => simp at hi
  · match i, hi with
    | 0, hi => simp [go_sem, f0]
    | 1, hi => simp [go_sem, f1]
    | 2, hi => simp [go_sem, f2]
    | 3, hi => simp [go_sem, f3]
    | 4, hi => simp [go_sem, f4]
    | (i + 5), hi => simp at hi
/-- What stands while the sites of a moved plate are collected. -/
def MvR (w : World) (B b2 b4 b5 : Nat) (vs2 vs4 : List Value) (X Y M G W H m : Int) (ss : List Sit) (i : Value) (wr : World) : Prop :=
  ∃ (k : Nat) (v : Value), k ≤ ss.length ∧ i = .int .i64 k ∧ BoxL wr b2 vs2 ∧ BoxL wr b4 vs4 ∧ BoxL wr b5 [.int .i64 X, .int .i64 Y, .int .i64 M, .int .i64 G, v] ∧ wr.ownsRow B 88 5 v (mvL W H m ss k).length (siC (mvL W H m ss k)) ∧ B ≤ wr.heap.size ∧ Below w.heap.size w wr
end Go.Proofs.Ytmhheecjpalajaa

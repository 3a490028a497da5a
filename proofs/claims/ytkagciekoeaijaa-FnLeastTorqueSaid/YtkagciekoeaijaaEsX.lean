/-
  Swings with one torque, the document's side.
-/
import Derived.Test.YtkagciekoeaijaaEsB
namespace Go.Proofs.Ytkagciekoeaijaa
open Go.RowKit

/-- The state behind n swings; none if there are too many ticks. -/
def mnF (f : Int → Int) (g : Int → Bool) : Nat → Int → Int → Option (Int × Int)
  | 0, e, k => some (e, k)
  | n + 1, e, k => if g e = true then (if k = 1000000000 then none else mnF f g n (f e) (k + 1)) else mnF f g n (f e) k
theorem mnF_full {f : Int → Int} {g : Int → Bool} {n : Nat} {e k : Int} (h : g e = true) (hk : k = 1000000000) : mnF f g (n + 1) e k = none := by simp [mnF, h, hk]
theorem mnF_tick {f : Int → Int} {g : Int → Bool} {n : Nat} {e k : Int} (h : g e = true) (hk : ¬ k = 1000000000) : mnF f g (n + 1) e k = mnF f g n (f e) (k + 1) := by simp [mnF, h, hk]
theorem mnF_miss {f : Int → Int} {g : Int → Bool} {n : Nat} {e k : Int} (h : g e = false) : mnF f g (n + 1) e k = mnF f g n (f e) k := by simp [mnF, h]
/-- What SwingMany returns: energy, ticks, code. -/
def smE (t u i l m q n e k : Int) : Int × Int × Int := if cdE t u i l m q e k = 0 then (if inB n 0 2000 = true then (match mnF (nxS u i l m q) (tkS u l q) n.toNat e k with | none => (0, 0, 5) | some r => (r.1, r.2, 0)) else (0, 0, 2)) else (0, 0, cdE t u i l m q e k)
theorem smE_no {t u i l m q n e k : Int} (h : ¬ cdE t u i l m q e k = 0) : smE t u i l m q n e k = (0, 0, cdE t u i l m q e k) := by simp [smE, h]
theorem smE_2 {t u i l m q n e k : Int} (h : cdE t u i l m q e k = 0) (h2 : inB n 0 2000 = false) : smE t u i l m q n e k = (0, 0, 2) := by simp [smE, h, h2]
theorem smE_5 {t u i l m q e k : Int} {n : Nat} (h : cdE t u i l m q e k = 0) (h2 : inB (n : Int) 0 2000 = true) (h3 : mnF (nxS u i l m q) (tkS u l q) n e k = none) : smE t u i l m q n e k = (0, 0, 5) := by simp [smE, h, h2, h3]
theorem smE_0 {t u i l m q e k a b : Int} {n : Nat} (h : cdE t u i l m q e k = 0) (h2 : inB (n : Int) 0 2000 = true) (h3 : mnF (nxS u i l m q) (tkS u l q) n e k = some (a, b)) : smE t u i l m q n e k = (a, b, 0) := by simp [smE, h, h2, h3]
def SmP (r : Int × Int × Int) (w : World) (en : Ending) (w' : World) : Prop := en = .returned (.tuple #[.agg #[.int .i64 r.1, .int .i64 r.2.1], .int .i64 r.2.2]) ∧ Below w.heap.size w w'
theorem BoxL.setS {w : World} {b i : Nat} {vs : List Value} {v u : Value} (h : BoxL w b vs) (hi : vs[i]? = some u) : BoxL (w.setCell ⟨b, i, none⟩ v) b (vs.set i v) := by
  have hl : i < vs.length := by
    by_cases hl : i < vs.length
    · exact hl
    · rw [List.getElem?_eq_none (by omega)] at hi; cases hi
  have c0 := h.c i u hi
  refine ⟨fun j y e => ?_, fun j y e => ?_, by simpa [World.setCell] using h.lt⟩
  · by_cases hj : j = i
    · subst hj
      rw [List.getElem?_set_self hl] at e
      cases e
      simp [go_sem, c0]
    · rw [List.getElem?_set_ne (Ne.symm hj)] at e
      have := h.c j y e
      simp [go_sem, this]
  · by_cases hj : j = i
    · subst hj
      have := h.f j u hi
      simp [go_sem, this]
    · rw [List.getElem?_set_ne (Ne.symm hj)] at e
      have := h.f j y e
      simp [go_sem, this]
/-- The three boxes of SwingMany. -/
theorem TrB3.put {w : World} {b3 b5 b6 : Nat} {t u i l m e k : Int} {wr : World} (h : TrB3 w b3 b5 b6 t u i l m e k wr) (hw5 : w.heap.size ≤ b5) (n35 : ¬ b3 = b5) (n65 : ¬ b6 = b5) (x y : Int) : TrB3 w b3 b5 b6 t u i l m x y ((wr.setCell ⟨b5, 0, none⟩ (.int .i64 x)).setCell ⟨b5, 1, none⟩ (.int .i64 y)) :=
  ⟨(h.1.other n35).other n35, BoxL.setS (BoxL.setS h.2.1 (i := 0) (v := .int .i64 x) rfl) (i := 1) (v := .int .i64 y) rfl, (h.2.2.1.other n65).other n65, bsetS (bsetS h.2.2.2 hw5) hw5⟩
end Go.Proofs.Ytkagciekoeaijaa

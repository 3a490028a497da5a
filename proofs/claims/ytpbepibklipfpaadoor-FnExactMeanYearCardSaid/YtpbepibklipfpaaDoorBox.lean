/-
  A box with a ratio: its two cells hold two numbers and can be written. The plain arithmetic of ratios in lowest terms.
-/
import Derived.Test.YtpbepibklipfpaaDoorMk
import Derived.Test.YtpbepibklipfpaaDoorCf
import Derived.Test.YtpbepibklipfpaaDoorCmp
namespace Go.Proofs.YtpbepibklipfpaaDoor
open Go.RowKit

structure Box2 (w : World) (b : Nat) (x y : Int) : Prop where
  c0 : w.cell? ⟨b, 0, none⟩ = some (.int .i64 x)
  c1 : w.cell? ⟨b, 1, none⟩ = some (.int .i64 y)
  f0 : w.frozen? ⟨b, 0, none⟩ = false
  f1 : w.frozen? ⟨b, 1, none⟩ = false
  lt : b < w.heap.size
theorem Box2.new (w : World) (x y : Int) (T : TypeId) : Box2 (w.alloc (.cells #[.int .i64 x, .int .i64 y] T)) w.heap.size x y :=
  ⟨by simp [go_sem], by simp [go_sem], by simp [go_sem], by simp [go_sem], by simp⟩
theorem Box2.keep {w w' : World} {b : Nat} {x y : Int} (h : Box2 w b x y) (hb : Below w.heap.size w w') : Box2 w' b x y :=
  ⟨(hb.cell (p := ⟨b, 0, none⟩) h.lt).trans h.c0, (hb.cell (p := ⟨b, 1, none⟩) h.lt).trans h.c1, (hb.frozen (p := ⟨b, 0, none⟩) h.lt).trans h.f0, (hb.frozen (p := ⟨b, 1, none⟩) h.lt).trans h.f1, Nat.lt_of_lt_of_le h.lt hb.size⟩
theorem Box2.alloc {w : World} {b : Nat} {x y : Int} (h : Box2 w b x y) (o : Obj) : Box2 (w.alloc o) b x y := h.keep (bA (bR _) _)
theorem Box2.drew {w : World} {b : Nat} {x y : Int} (h : Box2 w b x y) : Box2 w.drew b x y := ⟨h.c0, h.c1, h.f0, h.f1, h.lt⟩
theorem Box2.drewN {w : World} {b : Nat} {x y : Int} (h : Box2 w b x y) (n : Nat) : Box2 (w.drewN n) b x y := ⟨h.c0, h.c1, h.f0, h.f1, h.lt⟩
theorem Box2.other {w : World} {b b' o : Nat} {x y : Int} {v : Value} (h : Box2 w b x y) (hn : b ≠ b') : Box2 (w.setCell ⟨b', o, none⟩ v) b x y :=
  ⟨(World.cell?_of_block (Below.heap_setCell _ _ _ _ hn)).trans h.c0, (World.cell?_of_block (Below.heap_setCell _ _ _ _ hn)).trans h.c1, (World.frozen?_of_block (Below.heap_setCell _ _ _ _ hn)).trans h.f0, (World.frozen?_of_block (Below.heap_setCell _ _ _ _ hn)).trans h.f1, by simpa [World.setCell] using h.lt⟩
theorem Box2.set {w : World} {b : Nat} {x y : Int} (h : Box2 w b x y) (x' y' : Int) : Box2 ((w.setCell ⟨b, 0, none⟩ (.int .i64 x')).setCell ⟨b, 1, none⟩ (.int .i64 y')) b x' y' := by
  have a0 := h.c0
  have a1 := h.c1
  have e0 := h.f0
  have e1 := h.f1
  exact ⟨by simp [go_sem, a0], by simp [go_sem, a1], by simp [go_sem, e0], by simp [go_sem, e1], by simpa [World.setCell] using h.lt⟩
theorem Box2.grown {w w' : World} {b : Nat} {x y : Int} {row : Option Nat} (h : Box2 w b x y) (hg : w.grownBy w' row) (hn : row ≠ some b) : Box2 w' b x y :=
  ⟨(World.cell?_of_block (hg.block b h.lt (Ne.symm hn))).trans h.c0, (World.cell?_of_block (hg.block b h.lt (Ne.symm hn))).trans h.c1, (World.frozen?_of_block (hg.block b h.lt (Ne.symm hn))).trans h.f0, (World.frozen?_of_block (hg.block b h.lt (Ne.symm hn))).trans h.f1, Nat.lt_of_lt_of_le h.lt hg.size⟩

theorem three_box (w : World) (n d p q a b : Int) (T : TypeId) : Box2 (((w.alloc (.cells #[.int .i64 n, .int .i64 d] T)).alloc (.cells #[.int .i64 p, .int .i64 q] T)).alloc (.cells #[.int .i64 a, .int .i64 b] T)) w.heap.size n d ∧
    Box2 (((w.alloc (.cells #[.int .i64 n, .int .i64 d] T)).alloc (.cells #[.int .i64 p, .int .i64 q] T)).alloc (.cells #[.int .i64 a, .int .i64 b] T)) (w.heap.size + 1) p q ∧
    Box2 (((w.alloc (.cells #[.int .i64 n, .int .i64 d] T)).alloc (.cells #[.int .i64 p, .int .i64 q] T)).alloc (.cells #[.int .i64 a, .int .i64 b] T)) (w.heap.size + 1 + 1) a b ∧
    Below w.heap.size w (((w.alloc (.cells #[.int .i64 n, .int .i64 d] T)).alloc (.cells #[.int .i64 p, .int .i64 q] T)).alloc (.cells #[.int .i64 a, .int .i64 b] T)) := by
  refine ⟨((Box2.new w n d T).alloc _).alloc _, ?_, ?_, bA (bA (bA (bR _) _) _) _⟩
  · have := (Box2.new (w.alloc (.cells #[.int .i64 n, .int .i64 d] T)) p q T).alloc (.cells #[.int .i64 a, .int .i64 b] T)
    simpa using this
  · have := Box2.new ((w.alloc (.cells #[.int .i64 n, .int .i64 d] T)).alloc (.cells #[.int .i64 p, .int .i64 q] T)) a b T
    simpa using this
/-- A ratio in lowest terms stays as it is. -/
theorem mk_cop {n d : Int} (hd : 1 ≤ d) (hg : Int.gcd n d = 1) : lowOk n d = (inT n && inT d) ∧ mkA n d = (if inT n && inT d then n else 0) ∧ mkB n d = (if inT n && inT d then d else 0) := by
  have e1 : lowN n d = ((n.natAbs : Nat) : Int) := by unfold lowN; rw [hg]; simp
  have e2 : lowD n d = d := by unfold lowD; rw [hg]; simp; omega
  have e3 : lowOk n d = (inT n && inT d) := by
    unfold lowOk inT; rw [e1, e2, Bool.eq_iff_iff]; simp; omega
  have e4 : mkN n d = n := by
    unfold mkN; rw [e1]
    by_cases h : n < 0
    · have : ¬ d < 0 := by omega
      simp [h, this]; omega
    · have : ¬ d < 0 := by omega
      simp [h, this]; omega
  refine ⟨e3, ?_, ?_⟩
  · unfold mkA; rw [e3, e4]
  · unfold mkB; rw [e3, e2]
theorem inT_iff {t : Int} : inT t = true ↔ -1000000000 ≤ t ∧ t ≤ 1000000000 := by simp [inT]
theorem cfR_cons_yes {t : Int} {ts : List Int} {x y : Int} (h : cfR ts = some (x, y)) (h1 : inT t = true) (h2 : inT (t * x + y) = true) (h3 : inT x = true) : cfR (t :: ts) = some (t * x + y, x) := by
  rw [cfR, h]; simp [h1, h2, h3]
theorem cfR_cons_no1 {t : Int} {ts : List Int} (h : inT t = false) : cfR (t :: ts) = none := by
  rw [cfR]; cases cfR ts <;> simp [h]
theorem cfR_cons_no2 {t : Int} {ts : List Int} {x y : Int} (h : cfR ts = some (x, y)) (h1 : inT (t * x + y) = false) : cfR (t :: ts) = none := by
  rw [cfR, h]; simp [h1]
theorem cfR_none : ∀ (m : Nat) (ts : List Int), cfR (ts.drop m) = none → cfR ts = none
  | 0, _, h => h
  | m + 1, [], h => by simp [cfR] at h
  | m + 1, t :: ts, h => by rw [cfR, cfR_none m ts h]
theorem cfR_inv : ∀ (ts : List Int) (x y : Int), (∀ u ∈ ts, 1 ≤ u) → cfR ts = some (x, y) → Int.gcd x y = 1 ∧ 1 ≤ x ∧ 0 ≤ y ∧ x ≤ 1000000000 ∧ y ≤ 1000000000
  | [], x, y, _, h => by
    rw [cfR] at h
    injection h with h
    injection h with h1 h2
    subst h1 h2
    exact ⟨by decide, by omega, by omega, by omega, by omega⟩
  | t :: ts, x, y, hp, h => by
    rw [cfR] at h
    cases hc : cfR ts with
    | none => rw [hc] at h; cases h
    | some r =>
      obtain ⟨a, b⟩ := r
      rw [hc] at h
      obtain ⟨i1, i2, i3, i4, i5⟩ := cfR_inv ts a b (fun u hu => hp u (by simp [hu])) hc
      have ht := hp t (by simp)
      dsimp only at h
      by_cases hk : (inT t && inT (t * a + b) && inT a) = true
      · rw [if_pos hk] at h
        injection h with h
        injection h with h1 h2
        subst h1 h2
        simp only [Bool.and_eq_true, inT_iff] at hk
        have m1 : 0 ≤ t * a := Int.mul_nonneg (by omega) (by omega)
        have m2 : 1 * a ≤ t * a := Int.mul_le_mul_of_nonneg_right ht (by omega)
        exact ⟨by rw [Int.gcd_comm, Int.add_comm, Int.gcd_add_mul_right_right]; exact i1, by omega, by omega, by omega, by omega⟩
      · rw [if_neg hk] at h; cases h
/-- What the ratio of terms returns. -/
def cfA (ts : List Int) : Int := match cfR ts with | some r => r.1 | none => 0
def cfB (ts : List Int) : Int := match cfR ts with | some r => r.2 | none => 0
def cfK (ts : List Int) : Bool := (cfR ts).isSome
theorem cf_some {ts : List Int} {x y : Int} (h : cfR ts = some (x, y)) : cfA ts = x ∧ cfB ts = y ∧ cfK ts = true := by simp [cfA, cfB, cfK, h]
theorem cf_none {ts : List Int} (h : cfR ts = none) : cfA ts = 0 ∧ cfB ts = 0 ∧ cfK ts = false := by simp [cfA, cfB, cfK, h]
end Go.Proofs.YtpbepibklipfpaaDoor

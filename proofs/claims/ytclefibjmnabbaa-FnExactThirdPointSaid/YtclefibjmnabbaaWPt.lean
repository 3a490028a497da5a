/-
  SquaredDistance, both sides; the walks of laws.FnExactValidPoint and FnExactSquaredDistance.
-/
import Derived.Test.YtclefibjmnabbaaPtA
namespace Go.Proofs.Ytclefibjmnabbaa
open Go.RowKit

def sdN (a b c d : Int) : Int := if (ptB a b && ptB c d) = true then d2 a b c d else 0
def sdC (a b c d : Int) : Int := if (ptB a b && ptB c d) = true then 0 else 1
theorem sd_yes {a b c d : Int} (h1 : ptB a b = true) (h2 : ptB c d = true) : sdN a b c d = d2 a b c d ∧ sdC a b c d = 0 := by simp [sdN, sdC, h1, h2]
theorem sd_no1 {a b c d : Int} (h1 : ptB a b = false) : sdN a b c d = 0 ∧ sdC a b c d = 1 := by simp [sdN, sdC, h1]
theorem sd_no2 {a b c d : Int} (h1 : ptB c d = false) : sdN a b c d = 0 ∧ sdC a b c d = 1 := by simp [sdN, sdC, h1]
def TwoIB (a b : Int) (w : World) (e : Ending) (w' : World) : Prop := e = .returned (.tuple #[.int .i64 a, .int .i64 b]) ∧ Below w.heap.size w w'
/-- Two points in the boxes of a call. -/
def TwoPt (w : World) (a b c d : Int) (w' : World) : Prop := BoxL w' w.heap.size [.int .i64 a, .int .i64 b] ∧ BoxL w' (w.heap.size + 1) [.int .i64 c, .int .i64 d] ∧ Below w.heap.size w w'
theorem TwoPt.new (w : World) (a b c d : Int) (T U : TypeId) : TwoPt w a b c d ((w.alloc (.cells #[.int .i64 a, .int .i64 b] T)).alloc (.cells #[.int .i64 c, .int .i64 d] U)) :=
  ⟨(BoxL.new w [.int .i64 a, .int .i64 b] T).alloc _, BoxL.at_ (vs := [.int .i64 c, .int .i64 d]) (by simp), bA (bA (bR _) _) _⟩
theorem TwoPt.keep {w : World} {a b c d : Int} {x y : World} (h : TwoPt w a b c d x) (hb : Below x.heap.size x y) : TwoPt w a b c d y := ⟨h.1.keep hb, h.2.1.keep hb, bT h.2.2 hb⟩
set_option maxHeartbeats 1000000 in
theorem SquaredDistanceI_any (a b c d : Int) (w : World) :
    Calls Try.prog 26 #[.agg #[.int .i64 a, .int .i64 b], .agg #[.int .i64 c, .int .i64 d]] w (TwoIB (sdN a b c d) (sdC a b c d) w) := by
  cases h1 : ptB a b
  · rw [(sd_no1 h1).1, (sd_no1 h1).2]
    go_enter Try.func26, Try.ntmps26
    go_wp2_with fail
    refine (ValidPointI_any _ _ _).mono ?_
    rw [h1]
    rintro e w1 ⟨rfl, hb⟩
    go_wp2_with fail
    go_ret2
    exact ⟨rfl, bT (bA (bA (bR _) _) _) hb⟩
  · cases h2 : ptB c d
    · rw [(sd_no2 h2).1, (sd_no2 h2).2]
      go_enter Try.func26, Try.ntmps26
      go_wp2_with fail
      refine (ValidPointI_any _ _ _).mono ?_
      rw [h1]
      rintro e w1 ⟨rfl, hb⟩
      have B1 := Lib.hid ((TwoPt.new w a b c d 38 38).keep hb)
      obtain ⟨x0, x1, x2⟩ := B1.out.1.c2
      obtain ⟨y0, y1, y2⟩ := B1.out.2.1.c2
      clear hb
      go_wp2_with fail
      refine (ValidPointI_any _ _ _).mono ?_
      rw [h2]
      rintro e w2 ⟨rfl, hb⟩
      go_wp2_with fail
      go_ret2
      exact ⟨rfl, bT B1.out.2.2 hb⟩
    · rw [(sd_yes h1 h2).1, (sd_yes h1 h2).2]
      obtain ⟨a1, a2, b1, b2⟩ := ptB_bd h1
      obtain ⟨c1, c2, d1, d2'⟩ := ptB_bd h2
      go_enter Try.func26, Try.ntmps26
      go_wp2_with fail
      refine (ValidPointI_any _ _ _).mono ?_
      rw [h1]
      rintro e w1 ⟨rfl, hb⟩
      have B1 := Lib.hid ((TwoPt.new w a b c d 38 38).keep hb)
      obtain ⟨x0, x1, x2⟩ := B1.out.1.c2
      obtain ⟨y0, y1, y2⟩ := B1.out.2.1.c2
      clear hb
      go_wp2_with fail
      refine (ValidPointI_any _ _ _).mono ?_
      rw [h2]
      rintro e w2 ⟨rfl, hb⟩
      have B2 := Lib.hid (B1.out.keep hb)
      clear hb x0 x1 x2 y0 y1 y2
      obtain ⟨x0, x1, x2⟩ := B2.out.1.c2
      obtain ⟨y0, y1, y2⟩ := B2.out.2.1.c2
      go_wp2_with fail
      refine (squaredTo_any _ _ _ _ _ ⟨a1, a2⟩ ⟨b1, b2⟩ ⟨c1, c2⟩ ⟨d1, d2'⟩).mono ?_
      rintro e w3 ⟨rfl, hb⟩
      go_wp2_with fail
      go_ret2
      exact ⟨rfl, bT B2.out.2.2 hb⟩
/-- What stands in a region over two points. -/
def TwoH (w : World) (bx by_ : Nat) (a b c d : Int) (w' : World) : Prop :=
  w'.cell? ⟨bx, 0, none⟩ = some (.int .i64 a) ∧ w'.cell? ⟨bx, 1, none⟩ = some (.int .i64 b) ∧ w'.cell? ⟨by_, 0, none⟩ = some (.int .i64 c) ∧ w'.cell? ⟨by_, 1, none⟩ = some (.int .i64 d) ∧ bx < w'.heap.size ∧ by_ < w'.heap.size ∧ Below w.heap.size w w'
theorem TwoH.keep {w : World} {bx by_ : Nat} {a b c d : Int} {w' w2 : World} (hb : Below w'.heap.size w' w2) (h : TwoH w bx by_ a b c d w') : TwoH w bx by_ a b c d w2 := by
  obtain ⟨c0, c1, c2, c3, e0, e1, e2⟩ := h
  exact ⟨(hb.cell (p := ⟨bx, 0, none⟩) e0).trans c0, (hb.cell (p := ⟨bx, 1, none⟩) e0).trans c1, (hb.cell (p := ⟨by_, 0, none⟩) e1).trans c2, (hb.cell (p := ⟨by_, 1, none⟩) e1).trans c3, Nat.lt_of_lt_of_le e0 hb.size, Nat.lt_of_lt_of_le e1 hb.size, bT e2 hb⟩
theorem TwoH.drew {w : World} {bx by_ : Nat} {a b c d : Int} {w' : World} (h : TwoH w bx by_ a b c d w') : TwoH w bx by_ a b c d w'.drew := h.keep (bR _).drew
theorem TwoH.new (w : World) (a b c d : Int) (T U : TypeId) : TwoH w w.heap.size (w.heap.size + 1) a b c d ((w.alloc (.cells #[.int .i64 a, .int .i64 b] T)).alloc (.cells #[.int .i64 c, .int .i64 d] U)) :=
  ⟨by simp [go_sem], by simp [go_sem], by simp [go_sem], by simp [go_sem], by simp; omega, by simp, bA (bA (bR _) _) _⟩
end Go.Proofs.Ytclefibjmnabbaa

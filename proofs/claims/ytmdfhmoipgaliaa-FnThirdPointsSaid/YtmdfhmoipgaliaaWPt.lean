/-
  SquaredDistance, both sides; the walks of laws.FnExactValidPoint and FnExactSquaredDistance.
-/
import Derived.Test.YtmdfhmoipgaliaaPtA
namespace Go.Proofs.Ytmdfhmoipgaliaa
open Go.RowKit

def sdN (a b c d : Int) : Int := if (ptB a b && ptB c d) = true then d2 a b c d else 0
def sdC (a b c d : Int) : Int := if (ptB a b && ptB c d) = true then 0 else 1
theorem sd_yes {a b c d : Int} (h1 : ptB a b = true) (h2 : ptB c d = true) : sdN a b c d = d2 a b c d ∧ sdC a b c d = 0 := by simp [sdN, sdC, h1, h2]
theorem sd_no1 {a b c d : Int} (h1 : ptB a b = false) : sdN a b c d = 0 ∧ sdC a b c d = 1 := by simp [sdN, sdC, h1]
theorem sd_no2 {a b c d : Int} (h1 : ptB c d = false) : sdN a b c d = 0 ∧ sdC a b c d = 1 := by simp [sdN, sdC, h1]
def TwoIB (a b : Int) (w : World) (e : Ending) (w' : World) : Prop := e = .returned (.tuple #[.int .i64 a, .int .i64 b]) ∧ Below w.heap.size w w'
/-- Two points in the boxes of a call. -/
def TwoPt (w : World) (a b c d : Int) (w' : World) : Prop := BoxL w' w.heap.size [.int .i64 a, .int .i64 b] ∧ BoxL w' (w.heap.size + 1) [.int .i64 c, .int .i64 d] ∧ Below w.heap.size w w'
theorem TwoPt.new (w : World) (a b c d : Int) (T U : TypeId) : TwoPt w a b c d ((w.alloc (.cells #[.int .i64 a, .int .i64 b] T)).alloc (.cells #[.int .i64 c, .int .i64 d] U)) :=
  ⟨(BoxL.new w [.int .i64 a, .int .i64 b] T).alloc _, BoxL.at_ (vs := [.int .i64 c, .int .i64 d]) (by simp), bA (bA (bR _) _) _⟩
theorem TwoPt.keep {w : World} {a b c d : Int} {x y : World} (h : TwoPt w a b c d x) (hb : Below x.heap.size x y) : TwoPt w a b c d y := ⟨h.1.keep hb, h.2.1.keep hb, bT h.2.2 hb⟩
set_option maxHeartbeats 1000000 in
theorem SquaredDistanceI_any (a b c d : Int) (w : World) :
    Calls Try.prog 15 #[.agg #[.int .i64 a, .int .i64 b], .agg #[.int .i64 c, .int .i64 d]] w (TwoIB (sdN a b c d) (sdC a b c d) w) := by
  cases h1 : ptB a b
  · rw [(sd_no1 h1).1, (sd_no1 h1).2]
    go_enter Try.func15, Try.ntmps15
    go_wp2_with fail
    refine (ValidPointI_any _ _ _).mono ?_
    rw [h1]
    rintro e w1 ⟨rfl, hb⟩
    go_wp2_with fail
    go_ret2
    exact ⟨rfl, bT (bA (bA (bR _) _) _) hb⟩
  · cases h2 : ptB c d
    · rw [(sd_no2 h2).1, (sd_no2 h2).2]
      go_enter Try.func15, Try.ntmps15
      go_wp2_with fail
      refine (ValidPointI_any _ _ _).mono ?_
      rw [h1]
      rintro e w1 ⟨rfl, hb⟩
      have B1 := Lib.hid ((TwoPt.new w a b c d 25 25).keep hb)
      obtain ⟨x0, x1, x2⟩ := B1.out.1.c2
      obtain ⟨y0, y1, y2⟩ := B1.out.2.1.c2
      clear hb
      go_wp2_with fail
      refine (ValidPointI_any _ _ _).mono ?_
      rw [h2]
      rintro e w2 ⟨rfl, hb⟩
      go_wp2_with fail
      go_ret2
      exact ⟨rfl, bT B1.out.2.2 hb⟩
    · rw [(sd_yes h1 h2).1, (sd_yes h1 h2).2]
      obtain ⟨a1, a2, b1, b2⟩ := ptB_bd h1
      obtain ⟨c1, c2, d1, d2'⟩ := ptB_bd h2
      go_enter Try.func15, Try.ntmps15
      go_wp2_with fail
      refine (ValidPointI_any _ _ _).mono ?_
      rw [h1]
      rintro e w1 ⟨rfl, hb⟩
      have B1 := Lib.hid ((TwoPt.new w a b c d 25 25).keep hb)
      obtain ⟨x0, x1, x2⟩ := B1.out.1.c2
      obtain ⟨y0, y1, y2⟩ := B1.out.2.1.c2
      clear hb
      go_wp2_with fail
      refine (ValidPointI_any _ _ _).mono ?_
      rw [h2]
      rintro e w2 ⟨rfl, hb⟩
      have B2 := Lib.hid (B1.out.keep hb)
      clear hb x0 x1 x2 y0 y1 y2
      obtain ⟨x0, x1, x2⟩ := B2.out.1.c2
      obtain ⟨y0, y1, y2⟩ := B2.out.2.1.c2
      go_wp2_with fail
      refine (squaredTo_any _ _ _ _ _ ⟨a1, a2⟩ ⟨b1, b2⟩ ⟨c1, c2⟩ ⟨d1, d2'⟩).mono ?_
      rintro e w3 ⟨rfl, hb⟩
      go_wp2_with fail
      go_ret2
      exact ⟨rfl, bT B2.out.2.2 hb⟩
set_option maxHeartbeats 1000000 in
theorem SquaredDistanceS_any (a b c d : Int) (w : World) :
    Calls Try.prog 28 #[.agg #[.int .i64 a, .int .i64 b], .agg #[.int .i64 c, .int .i64 d]] w (TwoIB (sdN a b c d) (sdC a b c d) w) := by
  cases h1 : ptB a b
  · rw [(sd_no1 h1).1, (sd_no1 h1).2]
    go_enter Try.func28, Try.ntmps28
    go_wp2_with fail
    refine (l09Point_any _ _ _).mono ?_
    rw [h1]
    rintro e w1 ⟨rfl, hb⟩
    go_wp2_with fail
    go_ret2
    exact ⟨rfl, bT (bA (bA (bR _) _) _) hb⟩
  · cases h2 : ptB c d
    · rw [(sd_no2 h2).1, (sd_no2 h2).2]
      go_enter Try.func28, Try.ntmps28
      go_wp2_with fail
      refine (l09Point_any _ _ _).mono ?_
      rw [h1]
      rintro e w1 ⟨rfl, hb⟩
      have B1 := Lib.hid ((TwoPt.new w a b c d 25 25).keep hb)
      obtain ⟨x0, x1, x2⟩ := B1.out.1.c2
      obtain ⟨y0, y1, y2⟩ := B1.out.2.1.c2
      clear hb
      go_wp2_with fail
      refine (l09Point_any _ _ _).mono ?_
      rw [h2]
      rintro e w2 ⟨rfl, hb⟩
      go_wp2_with fail
      go_ret2
      exact ⟨rfl, bT B1.out.2.2 hb⟩
    · rw [(sd_yes h1 h2).1, (sd_yes h1 h2).2]
      obtain ⟨a1, a2, b1, b2⟩ := ptB_bd h1
      obtain ⟨c1, c2, d1, d2'⟩ := ptB_bd h2
      go_enter Try.func28, Try.ntmps28
      go_wp2_with fail
      refine (l09Point_any _ _ _).mono ?_
      rw [h1]
      rintro e w1 ⟨rfl, hb⟩
      have B1 := Lib.hid ((TwoPt.new w a b c d 25 25).keep hb)
      obtain ⟨x0, x1, x2⟩ := B1.out.1.c2
      obtain ⟨y0, y1, y2⟩ := B1.out.2.1.c2
      clear hb
      go_wp2_with fail
      refine (l09Point_any _ _ _).mono ?_
      rw [h2]
      rintro e w2 ⟨rfl, hb⟩
      have B2 := Lib.hid (B1.out.keep hb)
      clear hb x0 x1 x2 y0 y1 y2
      obtain ⟨x0, x1, x2⟩ := B2.out.1.c2
      obtain ⟨y0, y1, y2⟩ := B2.out.2.1.c2
      go_wp2_with fail
      refine (l09Square_any _ _ _ _ _ ⟨a1, a2⟩ ⟨b1, b2⟩ ⟨c1, c2⟩ ⟨d1, d2'⟩).mono ?_
      rintro e w3 ⟨rfl, hb⟩
      go_wp2_with fail
      go_ret2
      exact ⟨rfl, bT B2.out.2.2 hb⟩
set_option maxHeartbeats 1000000 in
theorem FnExactValidPoint_walk (x y : Int) (w : World) :
    Calls Try.prog 4 #[.agg #[.int .i64 x, .int .i64 y]] w fun e w' => e = .returned (.bool true) ∧ Below w.heap.size w w' := by
  generalize hr : ptB x y = r
  have HR := Lib.hid hr
  clear hr
  go_enter Try.func4, Try.ntmps4
  go_wp2_with fail
  refine (toPoint_any _ _ _).mono ?_
  rintro e w1 ⟨rfl, hb⟩
  have B1 := Lib.hid ((BoxL.new w [.int .i64 x, .int .i64 y] 34).keep hb)
  have L1 := Lib.hid (bT (bA (bR w) _) hb)
  clear hb
  go_wp2_with fail
  refine (ValidPointS_any _ _ _).mono ?_
  rw [HR.out]
  rintro e w2 ⟨rfl, hb⟩
  have B2 := Lib.hid (B1.out.keep hb)
  have L2 := Lib.hid (bT L1.out hb)
  obtain ⟨x0, x1, x2⟩ := B2.out.c2
  clear hb
  go_wp2_with fail
  refine (toPoint_any _ _ _).mono ?_
  rintro e w3 ⟨rfl, hb⟩
  have L3 := Lib.hid (bT L2.out hb)
  clear hb x0 x1 x2
  go_wp2_with fail
  refine (ValidPointI_any _ _ _).mono ?_
  rw [HR.out]
  rintro e w4 ⟨rfl, hb⟩
  have L4 := Lib.hid (bT L3.out hb)
  have hne : (r != r) = false := by simp
  clear hb
  go_wp2_with fail
  go_ret
  exact ⟨rfl, L4.out⟩
/-- What stands in a region over two points. -/
def TwoH (w : World) (bx by_ : Nat) (a b c d : Int) (w' : World) : Prop :=
  w'.cell? ⟨bx, 0, none⟩ = some (.int .i64 a) ∧ w'.cell? ⟨bx, 1, none⟩ = some (.int .i64 b) ∧ w'.cell? ⟨by_, 0, none⟩ = some (.int .i64 c) ∧ w'.cell? ⟨by_, 1, none⟩ = some (.int .i64 d) ∧ bx < w'.heap.size ∧ by_ < w'.heap.size ∧ Below w.heap.size w w'
theorem TwoH.keep {w : World} {bx by_ : Nat} {a b c d : Int} {w' w2 : World} (hb : Below w'.heap.size w' w2) (h : TwoH w bx by_ a b c d w') : TwoH w bx by_ a b c d w2 := by
  obtain ⟨c0, c1, c2, c3, e0, e1, e2⟩ := h
  exact ⟨(hb.cell (p := ⟨bx, 0, none⟩) e0).trans c0, (hb.cell (p := ⟨bx, 1, none⟩) e0).trans c1, (hb.cell (p := ⟨by_, 0, none⟩) e1).trans c2, (hb.cell (p := ⟨by_, 1, none⟩) e1).trans c3, Nat.lt_of_lt_of_le e0 hb.size, Nat.lt_of_lt_of_le e1 hb.size, bT e2 hb⟩
theorem TwoH.drew {w : World} {bx by_ : Nat} {a b c d : Int} {w' : World} (h : TwoH w bx by_ a b c d w') : TwoH w bx by_ a b c d w'.drew := h.keep (bR _).drew
theorem TwoH.new (w : World) (a b c d : Int) (T U : TypeId) : TwoH w w.heap.size (w.heap.size + 1) a b c d ((w.alloc (.cells #[.int .i64 a, .int .i64 b] T)).alloc (.cells #[.int .i64 c, .int .i64 d] U)) :=
  ⟨by simp [go_sem], by simp [go_sem], by simp [go_sem], by simp [go_sem], by simp; omega, by simp, bA (bA (bR _) _) _⟩
set_option maxHeartbeats 1000000 in
theorem FnExactSquaredDistance_walk (a b c d : Int) (w : World) :
    Calls Try.prog 7 #[.agg #[.int .i64 a, .int .i64 b], .agg #[.int .i64 c, .int .i64 d]] w fun e w' => e = .returned (.bool true) ∧ Below w.heap.size w w' := by
  generalize hr : sdN a b c d = r
  have HR := Lib.hid hr
  generalize hs : sdC a b c d = s
  have HS := Lib.hid hs
  clear hr hs
  have n1 : (r != r) = false := by simp
  have n2 : (s != s) = false := by simp
  have H0 := TwoH.new w a b c d 34 34
  go_enter Try.func7, Try.ntmps7
  go_upto_region 1 with fail
  generalize (w.alloc (.cells #[.int .i64 a, .int .i64 b] 34)).alloc (.cells #[.int .i64 c, .int .i64 d] 34) = W0 at *
  generalize w.heap.size + 1 = by_ at *
  go_region_held3 (fun w' => w'.cell? ⟨w.heap.size, 0, none⟩ = some (.int .i64 a) ∧ w'.cell? ⟨w.heap.size, 1, none⟩ = some (.int .i64 b) ∧ w'.cell? ⟨by_, 0, none⟩ = some (.int .i64 c) ∧ w'.cell? ⟨by_, 1, none⟩ = some (.int .i64 d) ∧ w.heap.size < w'.heap.size ∧ by_ < w'.heap.size ∧ Below w.heap.size w w') (first | exact H0.drew | assumption | exact TwoH.keep hb (by assumption))
    (first
      | (go_at_call 19; refine (toPoint_any _ _ _).mono ?_; rintro e w' ⟨rfl, hb⟩)
      | (go_at_call 28; refine (SquaredDistanceS_any _ _ _ _ _).mono ?_; rw [HR.out, HS.out]; rintro e w' ⟨rfl, hb⟩))
  have H1 : TwoH w w.heap.size by_ a b c d w' := by assumption
  clear hb H0
  go_upto_region 2 with fail
  generalize w' = W1 at *
  go_region_held3 (fun w' => w'.cell? ⟨w.heap.size, 0, none⟩ = some (.int .i64 a) ∧ w'.cell? ⟨w.heap.size, 1, none⟩ = some (.int .i64 b) ∧ w'.cell? ⟨by_, 0, none⟩ = some (.int .i64 c) ∧ w'.cell? ⟨by_, 1, none⟩ = some (.int .i64 d) ∧ w.heap.size < w'.heap.size ∧ by_ < w'.heap.size ∧ Below w.heap.size w w') (first | exact H1.drew | assumption | exact TwoH.keep hb (by assumption))
    (first
      | (go_at_call 19; refine (toPoint_any _ _ _).mono ?_; rintro e w' ⟨rfl, hb⟩)
      | (go_at_call 15; refine (SquaredDistanceI_any _ _ _ _ _).mono ?_; rw [HR.out, HS.out]; rintro e w' ⟨rfl, hb⟩))
  have H2 : TwoH w w.heap.size by_ a b c d w' := by assumption
  have HL := Lib.hid H2.2.2.2.2.2.2
  clear hb H1 H2
  go_wp2_with fail
  go_ret
  exact ⟨rfl, HL.out⟩
end Go.Proofs.Ytmdfhmoipgaliaa

/-
  The contracts of spec.MediantOf and impl.MediantOf.
-/
import Derived.Test.YtcakjkcahjfpkaaDoorBox
import Derived.Test.YtcakjkcahjfpkaaDoorMkC
import Derived.Test.YtcakjkcahjfpkaaDoorMakeR
import Derived.Test.YtcakjkcahjfpkaaDoorArith
import Derived.Test.YtcakjkcahjfpkaaDoorOps
namespace Go.Proofs.YtcakjkcahjfpkaaDoor
open Go.RowKit

def MedPost (w : World) (n d p q : Int) (e : Ending) (w' : World) : Prop := e = .returned (.tuple #[.agg #[.int .i64 (oA (okR n d && okR p q) (n + p) (d + q)), .int .i64 (oB (okR n d && okR p q) (n + p) (d + q))], .int .i64 (oC (okR n d && okR p q) (n + p) (d + q))]) ∧ Below w.heap.size w w'
theorem med_no1 {n d p q : Int} (h : okR n d = false) : oA (okR n d && okR p q) (n + p) (d + q) = 0 ∧ oB (okR n d && okR p q) (n + p) (d + q) = 0 ∧ oC (okR n d && okR p q) (n + p) (d + q) = 1 := by rw [v_no1 h]; exact o_no _ _
theorem med_no2 {n d p q : Int} (h : okR p q = false) : oA (okR n d && okR p q) (n + p) (d + q) = 0 ∧ oB (okR n d && okR p q) (n + p) (d + q) = 0 ∧ oC (okR n d && okR p q) (n + p) (d + q) = 1 := by rw [v_no2 h]; exact o_no _ _
theorem med_yes {n d p q : Int} (h1 : okR n d = true) (h2 : okR p q = true) : oA (okR n d && okR p q) (n + p) (d + q) = rA (n + p) (d + q) ∧ oB (okR n d && okR p q) (n + p) (d + q) = rB (n + p) (d + q) ∧ oC (okR n d && okR p q) (n + p) (d + q) = rC (n + p) (d + q) := by rw [v_yes h1 h2]; exact o_yes _ _
set_option maxHeartbeats 1000000 in
theorem medS_no1 (n d p q : Int) (w : World) (h1 : okR n d = false) :
    Calls Tryd.prog 20 #[.agg #[.int .i64 n, .int .i64 d], .agg #[.int .i64 p, .int .i64 q]] w (MedPost w n d p q) := by
    have B0 := Lib.hid (three_box w n d p q 0 0 25)
    have H := Lib.hid (med_no1 (p := p) (q := q) h1)
    go_enter Tryd.func20, Tryd.ntmps20
    go_wp2_with fail
    generalize ((w.alloc (.cells #[.int .i64 n, .int .i64 d] 25)).alloc (.cells #[.int .i64 p, .int .i64 q] 25)).alloc (.cells #[.int .i64 0, .int .i64 0] 25) = W0 at *
    obtain ⟨A0, A1, A2, A3⟩ := B0.out
    refine (l02Ok_any _ _ _).mono ?_
    rintro e w1 ⟨rfl, hb1⟩
    have C0 := Lib.hid (A0.keep hb1)
    have C1 := Lib.hid (A1.keep hb1)
    have C2 := Lib.hid (A2.keep hb1)
    have C3 := Lib.hid (bT A3 hb1)
    clear B0 A0 A1 A2 A3 hb1
    obtain ⟨r0, r1, r2, r3, r4⟩ := C2.out
    go_wp2_with fail
    refine bodyPost_ret (v := .tuple #[.agg #[.int .i64 0, .int .i64 0], .int .i64 1]) ?_ rfl ⟨ret_rc H.out.1.symm H.out.2.1.symm H.out.2.2.symm, (C3.out.setCell (by simp; omega) _).setCell (by simp; omega) _⟩
    simp [results, Tryd.results20, go_sem, r0, r1]
set_option maxHeartbeats 1000000 in
theorem medS_no2 (n d p q : Int) (w : World) (h1 : okR n d = true) (h2 : okR p q = false) :
    Calls Tryd.prog 20 #[.agg #[.int .i64 n, .int .i64 d], .agg #[.int .i64 p, .int .i64 q]] w (MedPost w n d p q) := by
    have B0 := Lib.hid (three_box w n d p q 0 0 25)
    have H := Lib.hid (med_no2 (n := n) (d := d) h2)
    go_enter Tryd.func20, Tryd.ntmps20
    go_wp2_with fail
    generalize ((w.alloc (.cells #[.int .i64 n, .int .i64 d] 25)).alloc (.cells #[.int .i64 p, .int .i64 q] 25)).alloc (.cells #[.int .i64 0, .int .i64 0] 25) = W0 at *
    obtain ⟨A0, A1, A2, A3⟩ := B0.out
    refine (l02Ok_any _ _ _).mono ?_
    rintro e w1 ⟨rfl, hb1⟩
    have C0 := Lib.hid (A0.keep hb1)
    have C1 := Lib.hid (A1.keep hb1)
    have C2 := Lib.hid (A2.keep hb1)
    have C3 := Lib.hid (bT A3 hb1)
    clear B0 A0 A1 A2 A3 hb1
    obtain ⟨y0, y1, y2, y3, y4⟩ := C1.out
    go_wp2_with fail
    refine (l02Ok_any _ _ _).mono ?_
    rintro e w2 ⟨rfl, hb2⟩
    have D0 := Lib.hid (C0.out.keep hb2)
    have D1 := Lib.hid (C1.out.keep hb2)
    have D2 := Lib.hid (C2.out.keep hb2)
    have D3 := Lib.hid (bT C3.out hb2)
    clear C0 C1 C2 C3 hb2 y0 y1 y2 y3 y4
    obtain ⟨r0, r1, r2, r3, r4⟩ := D2.out
    go_wp2_with fail
    refine bodyPost_ret (v := .tuple #[.agg #[.int .i64 0, .int .i64 0], .int .i64 1]) ?_ rfl ⟨ret_rc H.out.1.symm H.out.2.1.symm H.out.2.2.symm, (D3.out.setCell (by simp; omega) _).setCell (by simp; omega) _⟩
    simp [results, Tryd.results20, go_sem, r0, r1]
set_option maxHeartbeats 1000000 in
theorem medS_yes (n d p q : Int) (w : World) (h1 : okR n d = true) (h2 : okR p q = true) :
    Calls Tryd.prog 20 #[.agg #[.int .i64 n, .int .i64 d], .agg #[.int .i64 p, .int .i64 q]] w (MedPost w n d p q) := by
    have B0 := Lib.hid (three_box w n d p q 0 0 25)
    have H := Lib.hid (med_yes h1 h2)
    obtain ⟨a1', a2', a3', a4'⟩ := okR_bd h1
    obtain ⟨b1, b2, b3, b4⟩ := okR_bd h2
    have HM := Lib.hid (r_make (n := n + p) (d := d + q) (by omega))
    go_enter Tryd.func20, Tryd.ntmps20
    go_wp2_with fail
    generalize ((w.alloc (.cells #[.int .i64 n, .int .i64 d] 25)).alloc (.cells #[.int .i64 p, .int .i64 q] 25)).alloc (.cells #[.int .i64 0, .int .i64 0] 25) = W0 at *
    obtain ⟨A0, A1, A2, A3⟩ := B0.out
    refine (l02Ok_any _ _ _).mono ?_
    rintro e w1 ⟨rfl, hb1⟩
    have C0 := Lib.hid (A0.keep hb1)
    have C1 := Lib.hid (A1.keep hb1)
    have C2 := Lib.hid (A2.keep hb1)
    have C3 := Lib.hid (bT A3 hb1)
    clear B0 A0 A1 A2 A3 hb1
    obtain ⟨y0, y1, y2, y3, y4⟩ := C1.out
    go_wp2_with fail
    refine (l02Ok_any _ _ _).mono ?_
    rintro e w2 ⟨rfl, hb2⟩
    have D0 := Lib.hid (C0.out.keep hb2)
    have D1 := Lib.hid (C1.out.keep hb2)
    have D2 := Lib.hid (C2.out.keep hb2)
    have D3 := Lib.hid (bT C3.out hb2)
    clear C0 C1 C2 C3 hb2 y0 y1 y2 y3 y4
    obtain ⟨x0, x1, x2, x3, x4⟩ := D0.out
    obtain ⟨y0, y1, y2, y3, y4⟩ := D1.out
    go_wp2_with fail
    refine (l02Make_any _ _ _ (by omega) (by omega) (by omega) (by omega) (by omega)).mono ?_
    rintro e w3 ⟨rfl, hb3⟩
    have E2 := Lib.hid (D2.out.keep hb3)
    have E3 := Lib.hid (bT D3.out hb3)
    clear D0 D1 D2 D3 hb3 x0 x1 x2 x3 x4 y0 y1 y2 y3 y4
    go_wp2_with fail
    refine (l02Code_any _ _ _ _).mono ?_
    rintro e w4 ⟨rfl, hb4⟩
    have G2 := Lib.hid (E2.out.keep hb4)
    have G3 := Lib.hid (bT E3.out hb4)
    clear E2 E3 hb4
    obtain ⟨r0, r1, r2, r3, r4⟩ := G2.out
    rw [← HM.out.1, ← HM.out.2.1, ← HM.out.2.2]
    generalize rA (n + p) (d + q) = a at *
    generalize rB (n + p) (d + q) = b at *
    generalize rC (n + p) (d + q) = c at *
    go_wp2_with fail
    refine bodyPost_ret (v := .tuple #[.agg #[.int .i64 a, .int .i64 b], .int .i64 c]) ?_ rfl ⟨ret_rc H.out.1.symm H.out.2.1.symm H.out.2.2.symm, (G3.out.setCell (by simp; omega) _).setCell (by simp; omega) _⟩
    simp [results, Tryd.results20, go_sem, r0, r1]
set_option maxHeartbeats 1000000 in
theorem medI_no1 (n d p q : Int) (w : World) (h1 : okR n d = false) :
    Calls Tryd.prog 22 #[.agg #[.int .i64 n, .int .i64 d], .agg #[.int .i64 p, .int .i64 q]] w (MedPost w n d p q) := by
    have B0 := Lib.hid (three_box w n d p q 0 0 25)
    have H := Lib.hid (med_no1 (p := p) (q := q) h1)
    go_enter Tryd.func22, Tryd.ntmps22
    go_wp2_with fail
    generalize ((w.alloc (.cells #[.int .i64 n, .int .i64 d] 25)).alloc (.cells #[.int .i64 p, .int .i64 q] 25)).alloc (.cells #[.int .i64 0, .int .i64 0] 25) = W0 at *
    obtain ⟨A0, A1, A2, A3⟩ := B0.out
    refine (valid_any _ _ _).mono ?_
    rintro e w1 ⟨rfl, hb1⟩
    have C0 := Lib.hid (A0.keep hb1)
    have C1 := Lib.hid (A1.keep hb1)
    have C2 := Lib.hid (A2.keep hb1)
    have C3 := Lib.hid (bT A3 hb1)
    clear B0 A0 A1 A2 A3 hb1
    obtain ⟨r0, r1, r2, r3, r4⟩ := C2.out
    go_wp2_with fail
    refine bodyPost_ret (v := .tuple #[.agg #[.int .i64 0, .int .i64 0], .int .i64 1]) ?_ rfl ⟨ret_rc H.out.1.symm H.out.2.1.symm H.out.2.2.symm, (C3.out.setCell (by simp; omega) _).setCell (by simp; omega) _⟩
    simp [results, Tryd.results22, go_sem, r0, r1]
set_option maxHeartbeats 1000000 in
theorem medI_no2 (n d p q : Int) (w : World) (h1 : okR n d = true) (h2 : okR p q = false) :
    Calls Tryd.prog 22 #[.agg #[.int .i64 n, .int .i64 d], .agg #[.int .i64 p, .int .i64 q]] w (MedPost w n d p q) := by
    have B0 := Lib.hid (three_box w n d p q 0 0 25)
    have H := Lib.hid (med_no2 (n := n) (d := d) h2)
    go_enter Tryd.func22, Tryd.ntmps22
    go_wp2_with fail
    generalize ((w.alloc (.cells #[.int .i64 n, .int .i64 d] 25)).alloc (.cells #[.int .i64 p, .int .i64 q] 25)).alloc (.cells #[.int .i64 0, .int .i64 0] 25) = W0 at *
    obtain ⟨A0, A1, A2, A3⟩ := B0.out
    refine (valid_any _ _ _).mono ?_
    rintro e w1 ⟨rfl, hb1⟩
    have C0 := Lib.hid (A0.keep hb1)
    have C1 := Lib.hid (A1.keep hb1)
    have C2 := Lib.hid (A2.keep hb1)
    have C3 := Lib.hid (bT A3 hb1)
    clear B0 A0 A1 A2 A3 hb1
    obtain ⟨y0, y1, y2, y3, y4⟩ := C1.out
    go_wp2_with fail
    refine (valid_any _ _ _).mono ?_
    rintro e w2 ⟨rfl, hb2⟩
    have D0 := Lib.hid (C0.out.keep hb2)
    have D1 := Lib.hid (C1.out.keep hb2)
    have D2 := Lib.hid (C2.out.keep hb2)
    have D3 := Lib.hid (bT C3.out hb2)
    clear C0 C1 C2 C3 hb2 y0 y1 y2 y3 y4
    obtain ⟨r0, r1, r2, r3, r4⟩ := D2.out
    go_wp2_with fail
    refine bodyPost_ret (v := .tuple #[.agg #[.int .i64 0, .int .i64 0], .int .i64 1]) ?_ rfl ⟨ret_rc H.out.1.symm H.out.2.1.symm H.out.2.2.symm, (D3.out.setCell (by simp; omega) _).setCell (by simp; omega) _⟩
    simp [results, Tryd.results22, go_sem, r0, r1]
set_option maxHeartbeats 1000000 in
theorem medI_yes (n d p q : Int) (w : World) (h1 : okR n d = true) (h2 : okR p q = true) (a0 a1 : Addr) (hS : Sent w a0 a1) :
    Calls Tryd.prog 22 #[.agg #[.int .i64 n, .int .i64 d], .agg #[.int .i64 p, .int .i64 q]] w (MedPost w n d p q) := by
    have B0 := Lib.hid (three_box w n d p q 0 0 25)
    have H := Lib.hid (med_yes h1 h2)
    obtain ⟨a1', a2', a3', a4'⟩ := okR_bd h1
    obtain ⟨b1, b2, b3, b4⟩ := okR_bd h2
    have HS := Lib.hid hS
    clear hS
    go_enter Tryd.func22, Tryd.ntmps22
    go_wp2_with fail
    generalize ((w.alloc (.cells #[.int .i64 n, .int .i64 d] 25)).alloc (.cells #[.int .i64 p, .int .i64 q] 25)).alloc (.cells #[.int .i64 0, .int .i64 0] 25) = W0 at *
    obtain ⟨A0, A1, A2, A3⟩ := B0.out
    refine (valid_any _ _ _).mono ?_
    rintro e w1 ⟨rfl, hb1⟩
    have C0 := Lib.hid (A0.keep hb1)
    have C1 := Lib.hid (A1.keep hb1)
    have C2 := Lib.hid (A2.keep hb1)
    have C3 := Lib.hid (bT A3 hb1)
    clear B0 A0 A1 A2 A3 hb1
    obtain ⟨y0, y1, y2, y3, y4⟩ := C1.out
    go_wp2_with fail
    refine (valid_any _ _ _).mono ?_
    rintro e w2 ⟨rfl, hb2⟩
    have D0 := Lib.hid (C0.out.keep hb2)
    have D1 := Lib.hid (C1.out.keep hb2)
    have D2 := Lib.hid (C2.out.keep hb2)
    have D3 := Lib.hid (bT C3.out hb2)
    clear C0 C1 C2 C3 hb2 y0 y1 y2 y3 y4
    obtain ⟨x0, x1, x2, x3, x4⟩ := D0.out
    obtain ⟨y0, y1, y2, y3, y4⟩ := D1.out
    go_wp2_with fail
    refine (MakeRatioI_any _ _ _ a0 a1 (HS.out.keep D3.out) (by omega) (by omega) (by omega) (by omega)).mono ?_
    rintro e w3 ⟨rfl, hb3⟩
    have E2 := Lib.hid (D2.out.keep hb3)
    have E3 := Lib.hid (bT D3.out hb3)
    clear D0 D1 D2 D3 hb3 x0 x1 x2 x3 x4 y0 y1 y2 y3 y4
    obtain ⟨r0, r1, r2, r3, r4⟩ := E2.out
    generalize rA (n + p) (d + q) = a at *
    generalize rB (n + p) (d + q) = b at *
    generalize rC (n + p) (d + q) = c at *
    go_wp2_with fail
    refine bodyPost_ret (v := .tuple #[.agg #[.int .i64 a, .int .i64 b], .int .i64 c]) ?_ rfl ⟨ret_rc H.out.1.symm H.out.2.1.symm H.out.2.2.symm, (E3.out.setCell (by simp; omega) _).setCell (by simp; omega) _⟩
    simp [results, Tryd.results22, go_sem, r0, r1]
theorem MediantOfS_any (n d p q : Int) (w : World) :
    Calls Tryd.prog 20 #[.agg #[.int .i64 n, .int .i64 d], .agg #[.int .i64 p, .int .i64 q]] w fun e w' => e = .returned (.tuple #[.agg #[.int .i64 (oA (okR n d && okR p q) (n + p) (d + q)), .int .i64 (oB (okR n d && okR p q) (n + p) (d + q))], .int .i64 (oC (okR n d && okR p q) (n + p) (d + q))]) ∧ Below w.heap.size w w' := by
  cases h1 : okR n d
  · have h := medS_no1 n d p q w h1
    unfold MedPost at h; rw [h1] at h; exact h
  · cases h2 : okR p q
    · have h := medS_no2 n d p q w h1 h2
      unfold MedPost at h; rw [h1, h2] at h; exact h
    · have h := medS_yes n d p q w h1 h2
      unfold MedPost at h; rw [h1, h2] at h; exact h
theorem MediantOfI_any (n d p q : Int) (w : World) (a0 a1 : Addr) (hS : Sent w a0 a1) :
    Calls Tryd.prog 22 #[.agg #[.int .i64 n, .int .i64 d], .agg #[.int .i64 p, .int .i64 q]] w fun e w' => e = .returned (.tuple #[.agg #[.int .i64 (oA (okR n d && okR p q) (n + p) (d + q)), .int .i64 (oB (okR n d && okR p q) (n + p) (d + q))], .int .i64 (oC (okR n d && okR p q) (n + p) (d + q))]) ∧ Below w.heap.size w w' := by
  cases h1 : okR n d
  · have h := medI_no1 n d p q w h1
    unfold MedPost at h; rw [h1] at h; exact h
  · cases h2 : okR p q
    · have h := medI_no2 n d p q w h1 h2
      unfold MedPost at h; rw [h1, h2] at h; exact h
    · have h := medI_yes n d p q w h1 h2 a0 a1 hS
      unfold MedPost at h; rw [h1, h2] at h; exact h
end Go.Proofs.YtcakjkcahjfpkaaDoor

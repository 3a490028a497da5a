/-
  The contract of spec.SimplestBetween.
-/
import Derived.Test.YthnfkkfonabhkaaSmpS
namespace Go.Proofs.Ythnfkkfonabhkaa
open Go.RowKit

/-- What SimplestBetween returns. -/
noncomputable def sbA (n d p q : Int) : Int := if okR n d && okR p q && decide (n * q ≤ p * d) then (smpX n d p q).1 else 0
noncomputable def sbB (n d p q : Int) : Int := if okR n d && okR p q && decide (n * q ≤ p * d) then (smpX n d p q).2 else 0
def sbC (n d p q : Int) : Int := if okR n d && okR p q then (if n * q ≤ p * d then 0 else 2) else 1
theorem sb_no1 {n d p q : Int} (h : okR n d = false) : sbA n d p q = 0 ∧ sbB n d p q = 0 ∧ sbC n d p q = 1 := by simp [sbA, sbB, sbC, h]
theorem sb_no2 {n d p q : Int} (h : okR p q = false) : sbA n d p q = 0 ∧ sbB n d p q = 0 ∧ sbC n d p q = 1 := by simp [sbA, sbB, sbC, h]
theorem sb_gt {n d p q : Int} (h1 : okR n d = true) (h2 : okR p q = true) (h : p * d < n * q) : sbA n d p q = 0 ∧ sbB n d p q = 0 ∧ sbC n d p q = 2 := by
  have : ¬ n * q ≤ p * d := by omega
  simp [sbA, sbB, sbC, h1, h2, this]
theorem sb_yes {n d p q : Int} (h1 : okR n d = true) (h2 : okR p q = true) (h : n * q ≤ p * d) : sbA n d p q = (smpX n d p q).1 ∧ sbB n d p q = (smpX n d p q).2 ∧ sbC n d p q = 0 := by
  simp [sbA, sbB, sbC, h1, h2, h]
theorem cmpV_le {n d p q : Int} (h : n * q ≤ p * d) : decide (cmpV n d p q ≤ 0) = true ∧ ¬ 0 < cmpV n d p q := by
  unfold cmpV
  by_cases h1 : n * q < p * d
  · rw [if_pos h1]; simp
  · rw [if_neg h1, if_neg (by omega)]; simp

set_option maxHeartbeats 1000000 in
theorem SimplestBetweenS_any (n d p q : Int) (w : World) :
    Calls Try.prog 34 #[.agg #[.int .i64 n, .int .i64 d], .agg #[.int .i64 p, .int .i64 q]] w fun e w' => e = .returned (.tuple #[.agg #[.int .i64 (sbA n d p q), .int .i64 (sbB n d p q)], .int .i64 (sbC n d p q)]) ∧ Below w.heap.size w w' := by
  cases h1 : okR n d
  · have H := Lib.hid (sb_no1 (p := p) (q := q) h1)
    go_enter Try.func34, Try.ntmps34
    go_wp2_with fail
    refine (l02Ok_any _ _ _).mono ?_
    rintro e w1 ⟨rfl, hb1⟩
    obtain ⟨hc1, hf1⟩ := bcell hb1
    have hs1 : w.heap.size + 1 + 1 < w1.heap.size := bsize hb1 (by simp)
    go_wp2_with fail
    refine bodyPost_ret (v := .tuple #[.agg #[.int .i64 0, .int .i64 0], .int .i64 1]) ?_ rfl ⟨ret_rc H.out.1.symm H.out.2.1.symm H.out.2.2.symm, ((bT (bA (bA (bA (bR _) _) _) _) hb1).setCell (by simp; omega) _).setCell (by simp; omega) _⟩
    simp [results, Try.results34, go_sem, hc1]
  · cases h2 : okR p q
    · have H := Lib.hid (sb_no2 (n := n) (d := d) h2)
      go_enter Try.func34, Try.ntmps34
      go_wp2_with fail
      refine (l02Ok_any _ _ _).mono ?_
      rintro e w1 ⟨rfl, hb1⟩
      have R1 := Lib.hid ((show Box2 (((w.alloc (.cells #[.int .i64 n, .int .i64 d] 25)).alloc (.cells #[.int .i64 p, .int .i64 q] 25)).alloc (.cells #[.int .i64 0, .int .i64 0] 25)) (w.heap.size + 1 + 1) 0 0 from by simpa using Box2.new ((w.alloc (.cells #[.int .i64 n, .int .i64 d] 25)).alloc (.cells #[.int .i64 p, .int .i64 q] 25)) 0 0 25).keep hb1)
      obtain ⟨hc1, hf1⟩ := bcell hb1
      go_wp2_with fail
      refine (l02Ok_any _ _ _).mono ?_
      rintro e w2 ⟨rfl, hb2⟩
      obtain ⟨r0, r1, r2, r3, r4⟩ := R1.out.keep hb2
      clear hc1 hf1
      go_wp2_with fail
      refine bodyPost_ret (v := .tuple #[.agg #[.int .i64 0, .int .i64 0], .int .i64 1]) ?_ rfl ⟨ret_rc H.out.1.symm H.out.2.1.symm H.out.2.2.symm, ((bT (bT (bA (bA (bA (bR _) _) _) _) hb1) hb2).setCell (by simp; omega) _).setCell (by simp; omega) _⟩
      simp [results, Try.results34, go_sem, r0, r1]
    · by_cases ho : n * q ≤ p * d
      · have H := Lib.hid (sb_yes h1 h2 ho)
        obtain ⟨v1, v2⟩ := cmpV_le ho
        have HO := Lib.hid ho
        clear ho
        go_enter Try.func34, Try.ntmps34
        go_wp2_with fail
        have B0 := Lib.hid (three_box w n d p q 0 0 25)
        generalize ((w.alloc (.cells #[.int .i64 n, .int .i64 d] 25)).alloc (.cells #[.int .i64 p, .int .i64 q] 25)).alloc (.cells #[.int .i64 0, .int .i64 0] 25) = W0 at *
        obtain ⟨A0, A1, A2, A3⟩ := B0.out
        obtain ⟨x0, x1, x2, x3, x4⟩ := A0
        refine (l02Ok_any _ _ _).mono ?_
        rintro e w1 ⟨rfl, hb1⟩
        have C0 := Lib.hid (B0.out.1.keep hb1)
        have C1 := Lib.hid (A1.keep hb1)
        have C2 := Lib.hid (A2.keep hb1)
        have C3 := Lib.hid (bT A3 hb1)
        obtain ⟨y0, y1, y2, y3, y4⟩ := C1.out
        clear B0 A1 A2 A3 hb1 x0 x1 x2 x3 x4
        go_wp2_with fail
        refine (l02Ok_any _ _ _).mono ?_
        rintro e w2 ⟨rfl, hb2⟩
        have D0 := Lib.hid (C0.out.keep hb2)
        have D1 := Lib.hid (C1.out.keep hb2)
        have D2 := Lib.hid (C2.out.keep hb2)
        have D3 := Lib.hid (bT C3.out hb2)
        clear C0 C1 C2 C3 hb2 y0 y1 y2 y3 y4
        obtain ⟨x0, x1, x2, x3, x4⟩ := D0.out
        obtain ⟨y0, y1, y2, y3, y4⟩ := D1.out
        go_wp2_with fail
        refine (l02Compare_any _ _ _ _ _ h1 h2).mono ?_
        rintro e w3 ⟨rfl, hb3⟩
        generalize cmpV n d p q = cv at *
        have E0 := Lib.hid (D0.out.keep hb3)
        have E1 := Lib.hid (D1.out.keep hb3)
        have E2 := Lib.hid (D2.out.keep hb3)
        have E3 := Lib.hid (bT D3.out hb3)
        clear D0 D1 D2 D3 hb3 x0 x1 x2 x3 x4 y0 y1 y2 y3 y4
        obtain ⟨x0, x1, x2, x3, x4⟩ := E0.out
        obtain ⟨y0, y1, y2, y3, y4⟩ := E1.out
        obtain ⟨r0, r1, r2, r3, r4⟩ := E2.out
        go_wp2_with fail
        refine (l03Simplest_any _ _ _ _ _ h1 h2 HO.out).mono ?_
        rintro e w4 ⟨rfl, hb4⟩
        have G2 := Lib.hid (E2.out.keep hb4)
        have G3 := Lib.hid (bT E3.out hb4)
        clear E0 E1 E2 E3 hb4 x0 x1 x2 x3 x4 y0 y1 y2 y3 y4 r0 r1 r2 r3 r4
        obtain ⟨r0, r1, r2, r3, r4⟩ := G2.out
        generalize hX : (smpX n d p q).1 = X at *
        generalize hY : (smpX n d p q).2 = Y at *
        clear hX hY
        go_wp2_with fail
        refine bodyPost_ret (v := .tuple #[.agg #[.int .i64 X, .int .i64 Y], .int .i64 0]) ?_ rfl ⟨ret_rc H.out.1.symm H.out.2.1.symm H.out.2.2.symm, (G3.out.setCell (by simp; omega) _).setCell (by simp; omega) _⟩
        simp [results, Try.results34, go_sem, r0, r1]
      · have ho : p * d < n * q := by omega
        have H := Lib.hid (sb_gt h1 h2 ho)
        go_enter Try.func34, Try.ntmps34
        go_wp2_with fail
        have B0 := Lib.hid (three_box w n d p q 0 0 25)
        generalize ((w.alloc (.cells #[.int .i64 n, .int .i64 d] 25)).alloc (.cells #[.int .i64 p, .int .i64 q] 25)).alloc (.cells #[.int .i64 0, .int .i64 0] 25) = W0 at *
        obtain ⟨A0, A1, A2, A3⟩ := B0.out
        obtain ⟨x0, x1, x2, x3, x4⟩ := A0
        refine (l02Ok_any _ _ _).mono ?_
        rintro e w1 ⟨rfl, hb1⟩
        have C0 := Lib.hid (B0.out.1.keep hb1)
        have C1 := Lib.hid (A1.keep hb1)
        have C2 := Lib.hid (A2.keep hb1)
        have C3 := Lib.hid (bT A3 hb1)
        obtain ⟨y0, y1, y2, y3, y4⟩ := C1.out
        clear B0 A1 A2 A3 hb1 x0 x1 x2 x3 x4
        go_wp2_with fail
        refine (l02Ok_any _ _ _).mono ?_
        rintro e w2 ⟨rfl, hb2⟩
        have D0 := Lib.hid (C0.out.keep hb2)
        have D1 := Lib.hid (C1.out.keep hb2)
        have D2 := Lib.hid (C2.out.keep hb2)
        have D3 := Lib.hid (bT C3.out hb2)
        clear C0 C1 C2 C3 hb2 y0 y1 y2 y3 y4
        obtain ⟨x0, x1, x2, x3, x4⟩ := D0.out
        obtain ⟨y0, y1, y2, y3, y4⟩ := D1.out
        go_wp2_with fail
        refine (l02Compare_any _ _ _ _ _ h1 h2).mono ?_
        rintro e w3 ⟨rfl, hb3⟩
        have v1 : 0 < cmpV n d p q := by rw [← cmpV_gt ho]; decide
        generalize cmpV n d p q = cv at *
        have E0 := Lib.hid (D0.out.keep hb3)
        have E1 := Lib.hid (D1.out.keep hb3)
        have E2 := Lib.hid (D2.out.keep hb3)
        have E3 := Lib.hid (bT D3.out hb3)
        clear D0 D1 D2 D3 hb3 x0 x1 x2 x3 x4 y0 y1 y2 y3 y4
        obtain ⟨x0, x1, x2, x3, x4⟩ := E0.out
        obtain ⟨y0, y1, y2, y3, y4⟩ := E1.out
        obtain ⟨r0, r1, r2, r3, r4⟩ := E2.out
        go_wp2_with fail
        refine bodyPost_ret (v := .tuple #[.agg #[.int .i64 0, .int .i64 0], .int .i64 2]) ?_ rfl ⟨ret_rc H.out.1.symm H.out.2.1.symm H.out.2.2.symm, (E3.out.setCell (by simp; omega) _).setCell (by simp; omega) _⟩
        simp [results, Try.results34, go_sem, r0, r1]
end Go.Proofs.Ythnfkkfonabhkaa

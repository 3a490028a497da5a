/-
  The contract of impl.simplestPositive.
-/
import Derived.Test.YthnfkkfonabhkaaSmpB
namespace Go.Proofs.Ythnfkkfonabhkaa
open Go.RowKit

theorem ret_agg {a b a' b' : Int} (h1 : a = a') (h2 : b = b') : Ending.returned (.agg #[.int .i64 a, .int .i64 b]) = .returned (.agg #[.int .i64 a', .int .i64 b']) := by rw [h1, h2]
theorem smpX_bd {n d p q : Int} (h1 : okR n d = true) (h2 : okR p q = true) (hn : 1 ≤ n) (ho : n * q ≤ p * d) : 1 ≤ (smpX n d p q).1 ∧ (smpX n d p q).1 ≤ n ∧ 1 ≤ (smpX n d p q).2 ∧ (smpX n d p q).2 ≤ d := by
  have hs := smpX_P h1 h2 hn ho
  obtain ⟨c1, c2, c3⟩ := smp_bd (okR_bd h1).1 ho (hs.smp (okR_bd h1).1 hn)
  have := hs.pos
  exact ⟨this, by omega, c1, c2⟩

set_option maxHeartbeats 4000000 in
theorem simplestPositive_any (k : Nat) : ∀ (n d p q : Int) (w : World), (d + q).toNat ≤ k → okR n d = true → okR p q = true → 1 ≤ n → n * q ≤ p * d →
    Calls Try.prog 58 #[.agg #[.int .i64 n, .int .i64 d], .agg #[.int .i64 p, .int .i64 q]] w (SimRet w n d p q) := by
  induction k with
  | zero => intro n d p q w hk h1 h2 _ _; have := okR_bd h1; have := okR_bd h2; omega
  | succ k ih =>
    intro n d p q w hk h1 h2 hn ho
    obtain ⟨a1, a2, a3, a4⟩ := okR_bd h1
    obtain ⟨b1, b2, b3, b4⟩ := okR_bd h2
    have B0 := Lib.hid (three_box w n d p q 0 0 25)
    have HO := Lib.hid ho
    by_cases hd : d = 1
    · subst hd
      have HX := Lib.hid (smpX_int h1 h2 hn (by rw [up_one]; exact Int.le_ediv_of_mul_le (by omega) (by omega)))
      clear ho ih
      go_enter Try.func58, Try.ntmps58
      go_wp2_with fail
      refine bodyPost_ret (v := .agg #[.int .i64 n, .int .i64 1]) ?_ rfl ⟨ret_agg (by rw [HX.out.1, up_one]) HX.out.2.symm, ?_⟩
      · simp [results, Try.results58, go_sem]
      · exact bA (bA (bA (bR _) _) _) _
    · have hde : (d == 1) = false := by simpa using hd
      have HU := Lib.hid (up_next h1 hd)
      have F1 := Lib.hid (flo_yes h1)
      have F2 := Lib.hid (flo_yes h2)
      obtain ⟨q1, q2⟩ := div_lim a1 a3 a4
      obtain ⟨q3, q4⟩ := div_lim b1 b3 b4
      have q5 : 0 ≤ n / d := Int.ediv_nonneg (by omega) (by omega)
      by_cases hlt : n / d < p / q
      · have HX := Lib.hid (smpX_int h1 h2 hn (by rw [HU.out]; omega))
        clear ho ih hd
        go_enter Try.func58, Try.ntmps58
        go_wp2_with fail
        generalize ((w.alloc (.cells #[.int .i64 n, .int .i64 d] 25)).alloc (.cells #[.int .i64 p, .int .i64 q] 25)).alloc (.cells #[.int .i64 0, .int .i64 0] 25) = W0 at *
        obtain ⟨_, A1, A2, A3⟩ := B0.out
        refine (FloorRatioI_any _ _ _).mono ?_
        rintro e w1 ⟨rfl, hb1⟩
        rw [← F1.out]
        have C1 := Lib.hid (A1.keep hb1)
        have C2 := Lib.hid (A2.keep hb1)
        have C3 := Lib.hid (bT A3 hb1)
        obtain ⟨y0, y1, y2, y3, y4⟩ := C1.out
        clear B0 A1 A2 A3 hb1
        go_wp2_with fail
        refine (FloorRatioI_any _ _ _).mono ?_
        rintro e w2 ⟨rfl, hb2⟩
        rw [← F2.out]
        have D2 := Lib.hid (C2.out.keep hb2)
        have D3 := Lib.hid (bT C3.out hb2)
        clear C1 C2 C3 hb2 y0 y1 y2 y3 y4
        obtain ⟨r0, r1, r2, r3, r4⟩ := D2.out
        go_wp2_with fail
        refine bodyPost_ret (v := .agg #[.int .i64 (n / d + 1), .int .i64 1]) ?_ rfl ⟨ret_agg (by rw [HX.out.1, HU.out]) HX.out.2.symm, (D3.out.setCell (by simp; omega) _).setCell (by simp; omega) _⟩
        simp [results, Try.results58, go_sem, r0, r1]
      · have hno : p / q < upI n d := by rw [HU.out]; omega
        obtain ⟨s1, s2, s3, s4, s5⟩ := step_ok h1 h2 ho hno
        have HX := Lib.hid (smpX_step h1 h2 hn ho hno)
        obtain ⟨m1, m2⟩ := mul_bd q1 q2 (show -1000000000 ≤ d by omega) a2
        obtain ⟨m3, m4⟩ := mul_bd q1 q2 (show -1000000000 ≤ q by omega) b2
        have hk' : (p - n / d * q + (n - n / d * d)).toNat ≤ k := by omega
        have IH := Lib.hid (fun W => ih q (p - n / d * q) d (n - n / d * d) W hk' s1 s2 b1 s3)
        obtain ⟨z1, z2, z3, z4⟩ := smpX_bd s1 s2 b1 s3
        have s1' := okR_bd s1
        have s2' := okR_bd s2
        obtain ⟨zz1, zz2, zz3⟩ := smp_bd a1 ho ((smpX_P h1 h2 hn ho).smp a1 hn)
        have hxb : n / d * (smpX q (p - n / d * q) d (n - n / d * d)).1 + (smpX q (p - n / d * q) d (n - n / d * d)).2 ≤ 1000000000 := by rw [← HX.out.1]; omega
        have hxn : 0 ≤ n / d * (smpX q (p - n / d * q) d (n - n / d * d)).1 := Int.mul_nonneg q5 (by omega)
        clear ho ih hd hno s1 s2 s3 zz1 zz2 zz3
        go_enter Try.func58, Try.ntmps58
        go_wp2_with fail
        generalize ((w.alloc (.cells #[.int .i64 n, .int .i64 d] 25)).alloc (.cells #[.int .i64 p, .int .i64 q] 25)).alloc (.cells #[.int .i64 0, .int .i64 0] 25) = W0 at *
        obtain ⟨A0, A1, A2, A3⟩ := B0.out
        refine (FloorRatioI_any _ _ _).mono ?_
        rintro e w1 ⟨rfl, hb1⟩
        rw [← F1.out]
        have C0 := Lib.hid (A0.keep hb1)
        have C1 := Lib.hid (A1.keep hb1)
        have C2 := Lib.hid (A2.keep hb1)
        have C3 := Lib.hid (bT A3 hb1)
        obtain ⟨y0, y1, y2, y3, y4⟩ := C1.out
        clear B0 A0 A1 A2 A3 hb1
        go_wp2_with fail
        refine (FloorRatioI_any _ _ _).mono ?_
        rintro e w2 ⟨rfl, hb2⟩
        rw [← F2.out]
        have D0 := Lib.hid (C0.out.keep hb2)
        have D1 := Lib.hid (C1.out.keep hb2)
        have D2 := Lib.hid (C2.out.keep hb2)
        have D3 := Lib.hid (bT C3.out hb2)
        clear C0 C1 C2 C3 hb2 y0 y1 y2 y3 y4
        obtain ⟨x0, x1, x2, x3, x4⟩ := D0.out
        obtain ⟨y0, y1, y2, y3, y4⟩ := D1.out
        generalize n / d = m at *
        generalize p / q = mm at *
        go_wp2_with fail
        refine (IH.out _).mono ?_
        rintro e w3 ⟨rfl, hb3⟩
        have E2 := Lib.hid (D2.out.keep hb3)
        have E3 := Lib.hid (bT D3.out hb3)
        clear D0 D1 D2 D3 hb3 x0 x1 x2 x3 x4 y0 y1 y2 y3 y4
        obtain ⟨r0, r1, r2, r3, r4⟩ := E2.out
        generalize (smpX q (p - m * q) d (n - m * d)).1 = X at *
        generalize (smpX q (p - m * q) d (n - m * d)).2 = Y at *
        go_wp2_with fail
        refine bodyPost_ret (v := .agg #[.int .i64 (m * X + Y), .int .i64 X]) ?_ rfl ⟨ret_agg HX.out.1.symm HX.out.2.symm, ?_⟩
        · simp [results, Try.results58, go_sem, r0, r1, r4]
        · first | exact bA ((E3.out.setCell (by simp; omega) _).setCell (by simp; omega) _) _ | exact ((bA E3.out _).setCell (by simp; omega) _).setCell (by simp; omega) _
end Go.Proofs.Ythnfkkfonabhkaa

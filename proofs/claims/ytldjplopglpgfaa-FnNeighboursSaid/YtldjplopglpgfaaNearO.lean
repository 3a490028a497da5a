/-
  The contract of impl.NeighboursOf.
-/
import Derived.Test.YtldjplopglpgfaaNearI
namespace Go.Proofs.Ytldjplopglpgfaa
open Go.RowKit

set_option maxRecDepth 100000 in
set_option maxHeartbeats 8000000 in
theorem NeighboursOfI_any (n d most : Int) (w : World) (hmb : -9223372036854775808 ≤ most ∧ most ≤ 9223372036854775807) :
    Calls Try.prog 12 #[.agg #[.int .i64 n, .int .i64 d], .int .i64 most] w (NoPost n d most w) := by
  obtain ⟨mb1, mb2⟩ := hmb
  obtain ⟨t0, t1, t2, t3⟩ := three_box w n d 0 0 0 0 25
  have R0 := Lib.hid t0
  have R1 := Lib.hid t1
  have R2 := Lib.hid t2
  have L0 := Lib.hid t3
  clear t0 t1 t2 t3
  have hne : ¬ w.heap.size + 1 + 1 = w.heap.size + 1 := by omega
  cases hok : okR n d
  · have HOK := Lib.hid hok
    clear hok
    go_enter Try.func12, Try.ntmps12
    go_wp2_with fail
    generalize ((w.alloc (.cells #[.int .i64 n, .int .i64 d] 25)).alloc (.cells #[.int .i64 0, .int .i64 0] 25)).alloc (.cells #[.int .i64 0, .int .i64 0] 25) = W0 at *
    refine (valid_any _ _ _).mono ?_
    rw [HOK.out]
    rintro e w1 ⟨rfl, hb1⟩
    obtain ⟨u0, u1, u2, u3, u4⟩ := R1.out.keep hb1
    obtain ⟨v0, v1, v2, v3, v4⟩ := R2.out.keep hb1
    have L1 := Lib.hid (bT L0.out hb1)
    clear hb1
    go_wp2_with fail
    refine bodyPost_ret (v := .tuple #[.agg #[.int .i64 0, .int .i64 0], .agg #[.int .i64 0, .int .i64 0], .int .i64 1]) (by simp [results, Try.results12, go_sem, u0, u1, v0, v1]) rfl ⟨0, 0, 0, 0, 1, .inl ⟨HOK.out, rfl, rfl, rfl, rfl, rfl⟩, rfl, ?_⟩
    exact bel4 L1.out _ _ _ _
  · have HOK := Lib.hid hok
    clear hok
    by_cases hm : 1 ≤ most ∧ most ≤ 1000000000
    · obtain ⟨hm1, hm2⟩ := hm
      go_enter Try.func12, Try.ntmps12
      go_wp2_with fail
      generalize ((w.alloc (.cells #[.int .i64 n, .int .i64 d] 25)).alloc (.cells #[.int .i64 0, .int .i64 0] 25)).alloc (.cells #[.int .i64 0, .int .i64 0] 25) = W0 at *
      refine (valid_any _ _ _).mono ?_
      rw [HOK.out]
      rintro e w1 ⟨rfl, hb1⟩
      have S0 := Lib.hid (R0.out.keep hb1)
      have S1 := Lib.hid (R1.out.keep hb1)
      have S2 := Lib.hid (R2.out.keep hb1)
      have L1 := Lib.hid (bT L0.out hb1)
      clear hb1 R0 R1 R2 L0
      obtain ⟨x0, x1, x2, x3, x4⟩ := S0.out
      go_wp2_with fail
      refine (neighbours_any n d most _ HOK.out hm1 hm2).mono ?_
      rintro e w3 ⟨a, b, c, f, hnb, rfl, hb3⟩
      obtain ⟨k1, k2⟩ := hnb.ok HOK.out hm2
      have HN := Lib.hid hnb
      have K1 := Lib.hid k1
      have K2 := Lib.hid k2
      have T1 := Lib.hid (S1.out.keep hb3)
      have T2 := Lib.hid (S2.out.keep hb3)
      have L3 := Lib.hid (bT L1.out hb3)
      have hs2 := T2.out.lt
      clear hb3 S0 S1 S2 L1 x0 x1 x2 x3 x4 hnb k1 k2
      go_wp2_with fail
      obtain ⟨X0, X1, XL⟩ := two_box w3 a b c f 25
      have E0 := Lib.hid X0
      have E1 := Lib.hid X1
      have E2 := Lib.hid (T1.out.keep XL)
      have E3 := Lib.hid (T2.out.keep XL)
      have EL := Lib.hid (bT L3.out XL)
      clear X0 X1 XL T1 T2 L3
      generalize (w3.alloc (.cells #[.int .i64 a, .int .i64 b] 25)).alloc (.cells #[.int .i64 c, .int .i64 f] 25) = W5 at *
      refine (valid_any _ _ _).mono ?_
      rw [K1.out]
      rintro e w6 ⟨rfl, hb6⟩
      have F0 := Lib.hid (E0.out.keep hb6)
      have F1 := Lib.hid (E1.out.keep hb6)
      have F2 := Lib.hid (E2.out.keep hb6)
      have F3 := Lib.hid (E3.out.keep hb6)
      have FL := Lib.hid (bT EL.out hb6)
      clear hb6 E0 E1 E2 E3 EL
      obtain ⟨x0, x1, x2, x3, x4⟩ := F0.out
      obtain ⟨y0, y1, y2, y3, y4⟩ := F1.out
      go_wp2_with fail
      refine (valid_any _ _ _).mono ?_
      rw [K2.out]
      rintro e w7 ⟨rfl, hb7⟩
      have UL := Lib.hid (bT FL.out hb7)
      clear x0 x1 x2 x3 x4 y0 y1 y2 y3 y4
      obtain ⟨x0, x1, x2, x3, x4⟩ := F0.out.keep hb7
      obtain ⟨y0, y1, y2, y3, y4⟩ := F1.out.keep hb7
      obtain ⟨u0, u1, u2, u3, u4⟩ := F2.out.keep hb7
      obtain ⟨v0, v1, v2, v3, v4⟩ := F3.out.keep hb7
      have g1 : ¬ w3.heap.size = w.heap.size + 1 := by omega
      have g2 : ¬ w3.heap.size = w.heap.size + 1 + 1 := by omega
      have g3 : ¬ w3.heap.size + 1 = w.heap.size + 1 := by omega
      have g4 : ¬ w3.heap.size + 1 = w.heap.size + 1 + 1 := by omega
      clear hb7
      go_wp2_with fail
      go_region
      all_goals
        go_wp2_with fail
        refine bodyPost_ret (v := .tuple #[.agg #[.int .i64 a, .int .i64 b], .agg #[.int .i64 c, .int .i64 f], .int .i64 0]) (by simp [results, Try.results12, go_sem, u0, u1, v0, v1]) rfl ⟨_, _, _, _, _, .inr (.inr ⟨HOK.out, hm1, hm2, HN.out, rfl⟩), rfl, (bel4 UL.out _ _ _ _).drew⟩
    · have HM := Lib.hid hm
      have hm' : most < 1 ∨ 1000000000 < most := by omega
      clear hm
      rcases hm' with hm | hm
      all_goals
        go_enter Try.func12, Try.ntmps12
        go_wp2_with fail
        generalize ((w.alloc (.cells #[.int .i64 n, .int .i64 d] 25)).alloc (.cells #[.int .i64 0, .int .i64 0] 25)).alloc (.cells #[.int .i64 0, .int .i64 0] 25) = W0 at *
        refine (valid_any _ _ _).mono ?_
        rw [HOK.out]
        rintro e w1 ⟨rfl, hb1⟩
        obtain ⟨u0, u1, u2, u3, u4⟩ := R1.out.keep hb1
        obtain ⟨v0, v1, v2, v3, v4⟩ := R2.out.keep hb1
        have L1 := Lib.hid (bT L0.out hb1)
        clear hb1
        go_wp2_with fail
        refine bodyPost_ret (v := .tuple #[.agg #[.int .i64 0, .int .i64 0], .agg #[.int .i64 0, .int .i64 0], .int .i64 2]) (by simp [results, Try.results12, go_sem, u0, u1, v0, v1]) rfl ⟨0, 0, 0, 0, 2, .inr (.inl ⟨HOK.out, HM.out, rfl, rfl, rfl, rfl, rfl⟩), rfl, ?_⟩
        exact bel4 L1.out _ _ _ _
end Go.Proofs.Ytldjplopglpgfaa

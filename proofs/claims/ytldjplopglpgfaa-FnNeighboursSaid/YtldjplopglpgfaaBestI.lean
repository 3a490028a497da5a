/-
  The contract of impl.BestWithin; the walk of laws.FnExactBestWithin.
-/
import Derived.Test.YtldjplopglpgfaaBestS
import Derived.Test.YtldjplopglpgfaaNearO
import Derived.Test.YtldjplopglpgfaaCarry
namespace Go.Proofs.Ytldjplopglpgfaa
open Go.RowKit

/-- How the tests on both distances come out. -/
theorem clo_tests (n d a b c f : Int) : (((c * d - n * f) * b < (n * b - a * d) * f) ∧ clo n d a b c f = true) ∨ (((¬ (c * d - n * f) * b < (n * b - a * d) * f) ∧ ((c * d - n * f) * b == (n * b - a * d) * f) = false) ∧ clo n d a b c f = false) ∨
    (((¬ (c * d - n * f) * b < (n * b - a * d) * f) ∧ ((c * d - n * f) * b == (n * b - a * d) * f) = true) ∧ f < b ∧ clo n d a b c f = true) ∨ (((¬ (c * d - n * f) * b < (n * b - a * d) * f) ∧ ((c * d - n * f) * b == (n * b - a * d) * f) = true) ∧ (¬ f < b) ∧ clo n d a b c f = false) := by
  rcases clo_ways n d a b c f with ⟨k1, k2⟩ | ⟨k1, k2⟩ | ⟨k1, k3, k2⟩ | ⟨k1, k3, k2⟩ <;> unfold dX dY at k1
  · exact .inl ⟨k1, k2⟩
  · exact .inr (.inl ⟨⟨by omega, by rw [beq_eq_false_iff_ne]; omega⟩, k2⟩)
  · exact .inr (.inr (.inl ⟨⟨by omega, by rw [beq_iff_eq]; omega⟩, k3, k2⟩))
  · exact .inr (.inr (.inr ⟨⟨by omega, by rw [beq_iff_eq]; omega⟩, k3, k2⟩))
set_option maxRecDepth 100000 in
set_option maxHeartbeats 8000000 in
theorem BestWithinI_any (n d most : Int) (w : World) (hmb : -9223372036854775808 ≤ most ∧ most ≤ 9223372036854775807) :
    Calls Try.prog 13 #[.agg #[.int .i64 n, .int .i64 d], .int .i64 most] w (BwPost n d most w) := by
  have HMB := Lib.hid hmb
  clear hmb
  obtain ⟨t0, t1, t2⟩ := two_box w n d 0 0 25
  have R0 := Lib.hid t0
  have R1 := Lib.hid t1
  have L0 := Lib.hid t2
  clear t0 t1 t2
  go_enter Try.func13, Try.ntmps13
  go_wp2_with fail
  generalize (w.alloc (.cells #[.int .i64 n, .int .i64 d] 25)).alloc (.cells #[.int .i64 0, .int .i64 0] 25) = W0 at *
  refine (NeighboursOfI_any n d most _ HMB.out).mono ?_
  rintro e w1 ⟨a, b, c, f, k, hn, rfl, hb1⟩
  have HN := Lib.hid hn
  have S0 := Lib.hid (R0.out.keep hb1)
  have S1 := Lib.hid (R1.out.keep hb1)
  have L1 := Lib.hid (bT L0.out hb1)
  have hs1 := S1.out.lt
  clear hb1 R0 R1 L0
  have hc := hn.code
  clear hn
  obtain ⟨x0, x1, x2, x3, x4⟩ := S0.out
  obtain ⟨u0, u1, u2, u3, u4⟩ := S1.out
  have g1 : ¬ w1.heap.size = w.heap.size + 1 := by omega
  have g2 : ¬ w1.heap.size + 1 = w.heap.size + 1 := by omega
  have BE := Lib.hid (bA (bA (bel2 L1.out (.int .i64 0) (.int .i64 0)) (.cells #[.int .i64 a, .int .i64 b] 25)) (.cells #[.int .i64 c, .int .i64 f] 25))
  have E00 := Lib.hid (((S1.out.set 0 0).alloc (.cells #[.int .i64 a, .int .i64 b] 25)).alloc (.cells #[.int .i64 c, .int .i64 f] 25))
  have Eab := Lib.hid (((S1.out.set a b).alloc (.cells #[.int .i64 a, .int .i64 b] 25)).alloc (.cells #[.int .i64 c, .int .i64 f] 25))
  have Ecf := Lib.hid (((S1.out.set c f).alloc (.cells #[.int .i64 a, .int .i64 b] 25)).alloc (.cells #[.int .i64 c, .int .i64 f] 25))
  rcases hc with hk | ⟨rfl, hok, hm, hnb⟩
  · obtain ⟨p1, p2⟩ := bw_no (n := n) (d := d) (a := a) (b := b) (c := c) (f := f) hk
    have P1 := Lib.hid p1
    have P2 := Lib.hid p2
    have hz : (k != 0) = true := by simpa using hk
    clear hk p1 p2
    go_wp2_with fail
    have e0 := E00.out.c0
    have e1 := E00.out.c1
    refine bodyPost_ret (v := .tuple #[.agg #[.int .i64 0, .int .i64 0], .int .i64 k]) (by simp [results, Try.results13, go_sem, e0, e1]) rfl ⟨a, b, c, f, k, HN.out, by rw [P1.out, P2.out], bA (bA (bel2 L1.out _ _) _) _⟩
  · obtain ⟨k1, k2⟩ := hnb.ok hok hm
    obtain ⟨m1, m2, m3, m4⟩ := mul4 hok k1
    obtain ⟨m5, m6, m7, m8⟩ := mul4 hok k2
    obtain ⟨y0, z0, y1, z1, p1, p2, b1, b2, f1, f2⟩ := hnb.di hok hm
    have q0 : 0 ≤ (n * b - a * d) * f := Int.mul_nonneg y0 (by omega)
    have q1 : 0 ≤ (c * d - n * f) * b := Int.mul_nonneg y1 (by omega)
    clear hnb k1 k2 hok
    rcases clo_tests n d a b c f with ⟨k1, hcl⟩ | ⟨⟨k1, k2⟩, hcl⟩ | ⟨⟨k1, k2⟩, k3, hcl⟩ | ⟨⟨k1, k2⟩, k3, hcl⟩
    all_goals
      have HL := Lib.hid hcl
      clear hcl
      go_wp2_with fail
    · obtain ⟨p1, p2⟩ := bw_hi HL.out
      have e0 := Ecf.out.c0
      have e1 := Ecf.out.c1
      refine bodyPost_ret (v := .tuple #[.agg #[.int .i64 c, .int .i64 f], .int .i64 0]) (by simp [results, Try.results13, go_sem, e0, e1]) rfl ⟨a, b, c, f, 0, HN.out, by rw [p1, p2], bA (bA (bel2 L1.out _ _) _) _⟩
    · obtain ⟨p1, p2⟩ := bw_lo HL.out
      have e0 := Eab.out.c0
      have e1 := Eab.out.c1
      refine bodyPost_ret (v := .tuple #[.agg #[.int .i64 a, .int .i64 b], .int .i64 0]) (by simp [results, Try.results13, go_sem, e0, e1]) rfl ⟨a, b, c, f, 0, HN.out, by rw [p1, p2], bA (bA (bel2 L1.out _ _) _) _⟩
    · obtain ⟨p1, p2⟩ := bw_hi HL.out
      have e0 := Ecf.out.c0
      have e1 := Ecf.out.c1
      refine bodyPost_ret (v := .tuple #[.agg #[.int .i64 c, .int .i64 f], .int .i64 0]) (by simp [results, Try.results13, go_sem, e0, e1]) rfl ⟨a, b, c, f, 0, HN.out, by rw [p1, p2], bA (bA (bel2 L1.out _ _) _) _⟩
    · obtain ⟨p1, p2⟩ := bw_lo HL.out
      have e0 := Eab.out.c0
      have e1 := Eab.out.c1
      refine bodyPost_ret (v := .tuple #[.agg #[.int .i64 a, .int .i64 b], .int .i64 0]) (by simp [results, Try.results13, go_sem, e0, e1]) rfl ⟨a, b, c, f, 0, HN.out, by rw [p1, p2], bA (bA (bel2 L1.out _ _) _) _⟩
end Go.Proofs.Ytldjplopglpgfaa

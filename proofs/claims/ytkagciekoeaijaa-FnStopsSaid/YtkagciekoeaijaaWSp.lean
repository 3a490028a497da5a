/-
  The walk of laws.FnStops.
-/
import Derived.Test.YtkagciekoeaijaaEsP
import Derived.Test.YtkagciekoeaijaaEsH
import Derived.Test.YtkagciekoeaijaaEsY
import Derived.Test.YtkagciekoeaijaaRoll
namespace Go.Proofs.Ytkagciekoeaijaa
open Go.RowKit

set_option maxRecDepth 100000 in
set_option maxHeartbeats 4000000 in
theorem FnStops_walk (a : Option Addr) (len cap : Nat) (zs : List Int) (w : World) (h : IsRow .u8 w a len cap zs) :
    Calls Try.prog 5 #[.slice a len cap] w fun e w' => e = .returned (.bool true) ∧ Below w.heap.size w w' := by
  have l1 := (row_of h).1
  unfold maxLen at l1
  have HA := Lib.hid h
  clear h
  by_cases hl : 4096 < len
  · have hd : decide (4096 < (len : Int)) = true := decide_eq_true (by omega)
    go_enter Try.func5, Try.ntmps5
    go_wp2_with fail
    refine (f6bigR_any _ _ _ _ (by omega)).mono ?_
    rw [hd]
    rintro e w1 ⟨rfl, rfl⟩
    go_wp2_with fail
    go_ret
    exact ⟨rfl, bR _⟩
  have hd : decide (4096 < (len : Int)) = false := decide_eq_false (by omega)
  go_enter Try.func5, Try.ntmps5
  go_wp2_with fail
  refine (f6bigR_any _ _ _ _ (by omega)).mono ?_
  rw [hd]
  rintro e w1 ⟨rfl, rfl⟩
  go_wp2_with fail
  refine (DrawStopAfter_any _ a len cap zs HA.out).mono ?_
  rintro en w1 ⟨t, u, i, l, m, q, e, k, hm, hq, he, hk, rfl, hb⟩
  have L0 := Lib.hid hb
  have H0 := Lib.hid (EbH.new w1 t u i l m e k 25 28)
  have CI := Lib.hid (fun W => StopAfterI_any t u i l m q e k W)
  have CS := Lib.hid (fun W => StopAfterS_any t u i l m q e k W)
  have SM := Lib.hid (fun n W => SwingManyI_any t u i l m q n e 0 W)
  have HC := stE_cases t u i l m q e k
  clear hb HA hd hl l1 hm hq he hk
  generalize stE t u i l m q e k = r at *
  obtain ⟨x, c⟩ := r
  have n0 : (x != x) = false := by simp
  have n1 : (c != c) = false := by simp
  simp only [Prod.mk.injEq] at CI CS HC
  unfold SmP at SM
  have HZ := Lib.hid (show w1.heap.size + 1 = w1.heap.size + 1 from rfl)
  go_wp2_with fail
  refine (CI.out _).mono ?_
  rintro en w2 ⟨rfl, hb⟩
  have H1 := Lib.hid (H0.out.keep hb)
  clear hb H0 HZ
  obtain ⟨g0, g1, g2, g3, g4, g5, g6⟩ := H1.out.cells
  go_wp2_with fail
  refine (CS.out _).mono ?_
  rintro en w3 ⟨rfl, hb⟩
  have H2 := Lib.hid (H1.out.keep hb)
  clear hb H1 g0 g1 g2 g3 g4 g5 g6
  have H3 := Lib.hid (H2.out.keep (bA (bR _) (.cells #[.int .i64 e, .int .i64 0] 28)))
  have X3 := Lib.hid (BoxL.new w3 [.int .i64 e, .int .i64 0] 28)
  obtain ⟨g0, g1, g2, g3, g4, g5, g6⟩ := H2.out.cells
  rcases HC with ⟨c', ⟨rfl, rfl⟩, hc⟩ | ⟨⟨rfl, rfl⟩, h50⟩ | ⟨n, ⟨rfl, rfl⟩, hn, hN⟩
  · have hc1 : (c != 0) = true := by rcases hc with rfl | rfl <;> rfl
    have hc3 : (c != 3) = true := by rcases hc with rfl | rfl <;> rfl
    clear hc
    have SM1 := Lib.hid (SM.out 50)
    generalize smE t u i l m q 50 e 0 = R at SM1
    obtain ⟨r0, r1, r2⟩ := R
    simp only at SM1
    clear SM
    go_upto_region 10 with fail
    generalize w3.alloc (.cells #[.int .i64 e, .int .i64 0] 28) = W3 at *
    generalize w3.heap.size = b10 at *
    clear g0 g1 g2 g3 g4 g5 g6 H2
    obtain ⟨g0, g1, g2, g3, g4, g5, g6⟩ := H3.out.cells
    obtain ⟨x0, x1, x2⟩ := X3.out.c2
    go_wp2_with fail
    refine (SM1.out _).mono ?_
    rintro en w4 ⟨rfl, hb⟩
    have L4 := Lib.hid (bT L0.out (H3.out.keep hb).bel)
    clear hb
    go_wp2_with fail
    go_ret
    exact ⟨rfl, by first | exact L4.out | exact bA L4.out _⟩
  · have SM1 := Lib.hid (SM.out 50)
    generalize smE t u i l m q 50 e 0 = R at SM1 h50
    obtain ⟨r0, r1, r2⟩ := R
    simp only [Prod.mk.injEq] at SM1 h50
    obtain ⟨rfl, rfl⟩ := h50
    clear SM
    go_upto_region 10 with fail
    generalize w3.alloc (.cells #[.int .i64 e, .int .i64 0] 28) = W3 at *
    generalize w3.heap.size = b10 at *
    clear g0 g1 g2 g3 g4 g5 g6 H2
    obtain ⟨g0, g1, g2, g3, g4, g5, g6⟩ := H3.out.cells
    obtain ⟨x0, x1, x2⟩ := X3.out.c2
    go_wp2_with fail
    refine (SM1.out _).mono ?_
    rintro en w4 ⟨rfl, hb⟩
    have L4 := Lib.hid (bT L0.out (H3.out.keep hb).bel)
    clear hb
    go_wp2_with fail
    go_ret
    exact ⟨rfl, by first | exact L4.out | exact bA L4.out _⟩
  · by_cases h2 : 1980 < (n : Int)
    · clear hN SM
      go_wp2_with fail
      go_ret
      exact ⟨rfl, by first | exact bT L0.out H2.out.bel | exact bT L0.out H3.out.bel⟩
    · obtain ⟨a1, a2⟩ := hN (by omega)
      have hw : IntKind.i64.wrap ((n : Int) + 20) = (n : Int) + 20 := wrI _ (by omega)
      have SM1 := Lib.hid (SM.out (n : Int))
      have SM2 := Lib.hid (SM.out ((n : Int) + 20))
      generalize smE t u i l m q (n : Int) e 0 = R at SM1 a1
      obtain ⟨r0, r1, r2⟩ := R
      generalize smE t u i l m q ((n : Int) + 20) e 0 = S at SM2 a2
      obtain ⟨s0, s1, s2⟩ := S
      simp only [Prod.mk.injEq] at SM1 SM2 a1 a2
      obtain ⟨rfl, rfl⟩ := a1
      obtain ⟨rfl, rfl⟩ := a2
      clear SM hN
      go_upto_region 14 with fail
      generalize w3.alloc (.cells #[.int .i64 e, .int .i64 0] 28) = W3 at *
      generalize w3.heap.size = b10 at *
      clear g0 g1 g2 g3 g4 g5 g6 H2
      obtain ⟨g0, g1, g2, g3, g4, g5, g6⟩ := H3.out.cells
      obtain ⟨x0, x1, x2⟩ := X3.out.c2
      go_wp2_with fail
      refine (SM1.out _).mono ?_
      rintro en w4 ⟨rfl, hb⟩
      have H4 := Lib.hid ((H3.out.keep hb).keep (bA (bR _) (.cells #[.int .i64 r0, .int .i64 n] 28)))
      have X4 := Lib.hid ((X3.out.keep hb).alloc (.cells #[.int .i64 r0, .int .i64 n] 28))
      have Y4 := Lib.hid (BoxL.new w4 [.int .i64 r0, .int .i64 n] 28)
      clear hb H3 X3 g0 g1 g2 g3 g4 g5 g6 x0 x1 x2
      obtain ⟨g0, g1, g2, g3, g4, g5, g6⟩ := H4.out.cells
      obtain ⟨x0, x1, x2⟩ := X4.out.c2
      go_upto_region 15 with fail
      generalize w4.alloc (.cells #[.int .i64 r0, .int .i64 n] 28) = W4 at *
      generalize w4.heap.size = b13 at *
      go_wp2_with fail
      refine (SM2.out _).mono ?_
      rintro en w5 ⟨rfl, hb⟩
      have L5 := Lib.hid (bT L0.out (H4.out.keep hb).bel)
      have Y5 := Lib.hid (Y4.out.keep hb)
      clear hb H4 X4 g0 g1 g2 g3 g4 g5 g6 x0 x1 x2
      obtain ⟨y0, y1, y2⟩ := Y5.out.c2
      have n13 : ¬ b13 = w5.heap.size := by omega
      go_wp2_with fail
      go_ret
      exact ⟨by first | rfl | simp, by first | exact L5.out | exact bA L5.out _⟩
end Go.Proofs.Ytkagciekoeaijaa

/-
  The walk of laws.FnLeastTorque.
-/
import Derived.Test.YtkagciekoeaijaaEsJ
import Derived.Test.YtkagciekoeaijaaEsM
import Derived.Test.YtkagciekoeaijaaEsY
namespace Go.Proofs.Ytkagciekoeaijaa
open Go.RowKit

theorem f6bigL_any (a : Option Addr) (len cap : Nat) (w : World) (_h : len ≤ 9223372036854775807) :
    Calls Try.prog 8 #[.slice a len cap] w fun e w' => e = .returned (.bool (decide (4096 < (len : Int)))) ∧ w = w' := by
  go_enter Try.func8, Try.ntmps8
  go_wp2_with fail
  go_ret
  exact ⟨rfl, rfl⟩
/-- What stands when both least numbers are known: the first escapement and the second, with their boxes. -/
def LtH (w : World) (b3 b10 b17 : Nat) (t u i l m t2 u2 i2 l2 m2 e : Int) (w' : World) : Prop := BoxL w' b3 [.int .i64 t, .int .i64 u, .int .i64 i, .int .i64 l, .int .i64 m] ∧ BoxL w' b10 [.int .i64 t2, .int .i64 u2, .int .i64 i2, .int .i64 l2, .int .i64 m2] ∧ BoxL w' b17 [.int .i64 e, .int .i64 0] ∧ Below w.heap.size w w'
theorem LtH.keep {w : World} {b3 b10 b17 : Nat} {t u i l m t2 u2 i2 l2 m2 e : Int} {w' x : World} (hb : Below w'.heap.size w' x) (h : LtH w b3 b10 b17 t u i l m t2 u2 i2 l2 m2 e w') : LtH w b3 b10 b17 t u i l m t2 u2 i2 l2 m2 e x := ⟨h.1.keep hb, h.2.1.keep hb, h.2.2.1.keep hb, bT h.2.2.2 hb⟩
set_option maxRecDepth 100000 in
set_option maxHeartbeats 8000000 in
theorem FnLeastTorque_walk (a : Option Addr) (len cap : Nat) (zs : List Int) (w : World) (h : IsRow .u8 w a len cap zs) :
    Calls Try.prog 6 #[.slice a len cap] w fun e w' => e = .returned (.bool true) ∧ Below w.heap.size w w' := by
  have l1 := (row_of h).1
  unfold maxLen at l1
  have HA := Lib.hid h
  clear h
  by_cases hl : 4096 < len
  · have hd : decide (4096 < (len : Int)) = true := decide_eq_true (by omega)
    go_enter Try.func6, Try.ntmps6
    go_wp2_with fail
    refine (f6bigL_any _ _ _ _ (by omega)).mono ?_
    rw [hd]
    rintro e w1 ⟨rfl, rfl⟩
    go_wp2_with fail
    go_ret
    exact ⟨rfl, bR _⟩
  have hd : decide (4096 < (len : Int)) = false := decide_eq_false (by omega)
  go_enter Try.func6, Try.ntmps6
  go_wp2_with fail
  refine (f6bigL_any _ _ _ _ (by omega)).mono ?_
  rw [hd]
  rintro e w1 ⟨rfl, rfl⟩
  go_wp2_with fail
  refine (DrawLeastTorque_any _ a len cap zs HA.out).mono ?_
  rintro en w1 ⟨t, u, i, l, m, n, e, k, hm, hn0, he, hk, rfl, hb⟩
  have L0 := Lib.hid hb
  have A1 := Lib.hid (HA.out.keep hb)
  have H0 := Lib.hid (EbH.new w1 t u i l m e k 25 28)
  have CI := Lib.hid (fun W => LeastTorqueI_any t u i l m n e k W)
  have CS := Lib.hid (fun W => LeastTorqueS_any t u i l m n e k W)
  have SM := Lib.hid (fun q W => SwingManyI_any t u i l m q n e 0 W)
  have HC := Lib.hid (ltE_facts t u i l m n e k)
  clear hb HA hd hl l1 hm he hk
  generalize ltE t u i l m n e k = r at *
  obtain ⟨x, c⟩ := r
  have n0 : (x != x) = false := by simp
  have n1 : (c != c) = false := by simp
  simp only at CI CS HC
  unfold SmP at SM
  go_wp2_with fail
  refine (CI.out _).mono ?_
  rintro en w2 ⟨rfl, hb⟩
  have H1 := Lib.hid (H0.out.keep hb)
  clear hb H0
  obtain ⟨g0, g1, g2, g3, g4, g5, g6⟩ := H1.out.cells
  go_wp2_with fail
  refine (CS.out _).mono ?_
  rintro en w3 ⟨rfl, hb⟩
  have H2 := Lib.hid (H1.out.keep hb)
  have A3 := Lib.hid (A1.out.keep H2.out.bel)
  clear hb H1 g0 g1 g2 g3 g4 g5 g6 A1 CI CS
  go_wp2_with fail
  refine (DrawLeastStart_any _ a len cap zs A3.out).mono ?_
  rintro en w4 ⟨t2, u2, i2, l2, m2, q2, n2, hq2, hn2, rfl, hb⟩
  have H4 := Lib.hid ((H2.out.keep hb).keep (bA (bR _) (.cells #[.int .i64 t2, .int .i64 u2, .int .i64 i2, .int .i64 l2, .int .i64 m2] 25)))
  have X4 := Lib.hid (BoxL.new w4 [.int .i64 t2, .int .i64 u2, .int .i64 i2, .int .i64 l2, .int .i64 m2] 25)
  have DI := Lib.hid (fun W => LeastStartI_any t2 u2 i2 l2 m2 q2 n2 W)
  have DS_ := Lib.hid (fun W => LeastStartS_any t2 u2 i2 l2 m2 q2 n2 W)
  have SM2 := Lib.hid (fun e W => SwingManyI_any t2 u2 i2 l2 m2 q2 n2 e 0 W)
  have HC2 := Lib.hid (lsE_facts t2 u2 i2 l2 m2 q2 n2)
  obtain ⟨FF, HFF⟩ : ∃ F : Int → Int × Int × Int, ∀ z, smE t2 u2 i2 l2 m2 q2 n2 z 0 = F z := ⟨_, fun _ => rfl⟩
  simp only [HFF] at SM2 HC2
  clear hb H2 A3 hq2 hn2 HFF
  generalize lsE t2 u2 i2 l2 m2 q2 n2 = r at *
  obtain ⟨y, c2⟩ := r
  have n2' : (y != y) = false := by simp
  have n3 : (c2 != c2) = false := by simp
  simp only at DI DS_ HC2
  unfold SmP at SM2
  go_upto_region 9 with fail
  generalize w4.alloc (.cells #[.int .i64 t2, .int .i64 u2, .int .i64 i2, .int .i64 l2, .int .i64 m2] 25) = W4 at *
  generalize w4.heap.size = b10 at *
  obtain ⟨x0, x1, x2, x3, x4, x5⟩ := X4.out.c5
  go_wp2_with fail
  refine (DI.out _).mono ?_
  rintro en w5 ⟨rfl, hb⟩
  have H5 := Lib.hid (H4.out.keep hb)
  have X5 := Lib.hid (X4.out.keep hb)
  clear hb H4 X4 x0 x1 x2 x3 x4 x5
  obtain ⟨x0, x1, x2, x3, x4, x5⟩ := X5.out.c5
  go_wp2_with fail
  refine (DS_.out _).mono ?_
  rintro en w6 ⟨rfl, hb⟩
  have H6 := Lib.hid (H5.out.keep hb)
  have X6 := Lib.hid (X5.out.keep hb)
  clear hb H5 X5 x0 x1 x2 x3 x4 x5 DI DS_
  obtain ⟨g0, g1, g2, g3, g4, g5, g6⟩ := H6.out.cells
  have Z6 := Lib.hid (show LtH w1 w1.heap.size b10 w6.heap.size t u i l m t2 u2 i2 l2 m2 e (w6.alloc (.cells #[.int .i64 e, .int .i64 0] 28)) from ⟨H6.out.1.alloc _, X6.out.alloc _, BoxL.new w6 [.int .i64 e, .int .i64 0] _, bA H6.out.bel _⟩)
  go_upto_region 14 with fail
  generalize w6.alloc (.cells #[.int .i64 e, .int .i64 0] 28) = W6 at *
  generalize w6.heap.size = b17 at *
  clear g0 g1 g2 g3 g4 g5 g6 H6 X6
  go_upto_if 88 with fail
  go_cut [] (fun wx => LtH w1 w1.heap.size b10 b17 t u i l m t2 u2 i2 l2 m2 e wx)
  case first =>
    rcases HC.out with hc | ⟨hc, hx, hp, hq1, hq2⟩
    · go_wp2_with fail
      go_meet
      exact Z6.out
    · subst hc
      have SA := Lib.hid (SM.out x)
      have SB := Lib.hid (SM.out (x - 1))
      have hw : IntKind.i64.wrap (x - 1) = x - 1 := wrI _ (by omega)
      generalize smE t u i l m x n e 0 = R at SA hp
      obtain ⟨r0, r1, r2⟩ := R
      generalize smE t u i l m (x - 1) n e 0 = S at SB hq1 hq2
      obtain ⟨s0, s1, s2⟩ := S
      simp only [Prod.mk.injEq] at SA SB hp hq1 hq2
      obtain ⟨rfl, rfl⟩ := hp
      subst hq1
      have hlt : ¬ r1 ≤ s1 := by omega
      clear SM HC hx hq2
      obtain ⟨g0, g1, g2, g3, g4, g5⟩ := Z6.out.1.c5
      obtain ⟨d0, d1, d2⟩ := Z6.out.2.2.1.c2
      go_wp2_with fail
      refine (SA.out _).mono ?_
      rintro en w7 ⟨rfl, hb⟩
      have Z7 := Lib.hid ((Z6.out.keep hb).keep (bA (bR _) (.cells #[.int .i64 r0, .int .i64 r1] 28)))
      have Y7 := Lib.hid (BoxL.new w7 [.int .i64 r0, .int .i64 r1] 28)
      clear hb Z6 g0 g1 g2 g3 g4 g5 d0 d1 d2
      obtain ⟨g0, g1, g2, g3, g4, g5⟩ := Z7.out.1.c5
      obtain ⟨d0, d1, d2⟩ := Z7.out.2.2.1.c2
      go_upto_region 16 with fail
      generalize w7.alloc (.cells #[.int .i64 r0, .int .i64 r1] 28) = W7 at *
      generalize w7.heap.size = b18 at *
      go_wp2_with fail
      refine (SB.out _).mono ?_
      rintro en w8 ⟨rfl, hb⟩
      have Z8 := Lib.hid ((Z7.out.keep hb).keep (bA (bR _) (.cells #[.int .i64 s0, .int .i64 s1] 28)))
      have Y8 := Lib.hid (Y7.out.keep hb)
      clear hb Z7 g0 g1 g2 g3 g4 g5 d0 d1 d2
      obtain ⟨y0, y1, y2⟩ := Y8.out.c2
      have n18 : ¬ b18 = w8.heap.size := by omega
      go_wp2_with fail
      go_meet
      exact Z8.out
  case rest =>
    have Z7 := Lib.hid hcut
    clear hcut Z6 HC SM
    generalize wc = w7 at *
    rcases HC2.out with hc | ⟨hc, hy, hp, hs⟩
    · go_wp2_with fail
      go_ret
      exact ⟨rfl, bT L0.out Z7.out.2.2.2⟩
    · subst hc
      have SA := Lib.hid (SM2.out y)
      have SB := Lib.hid (SM2.out (y - 1))
      have hw : IntKind.i64.wrap (y - 1) = y - 1 := wrI _ (by omega)
      generalize FF y = R at SA hp
      obtain ⟨r0, r1, r2⟩ := R
      generalize FF (y - 1) = S at SB hs
      obtain ⟨s0, s1, s2⟩ := S
      simp only [Prod.mk.injEq] at SA SB hp hs
      obtain ⟨rfl, rfl⟩ := hp
      have HS := Lib.hid hs
      clear SM2 HC2 hs hy
      obtain ⟨x0, x1, x2, x3, x4, x5⟩ := Z7.out.2.1.c5
      go_wp2_with fail
      refine (SA.out _).mono ?_
      rintro en w8 ⟨rfl, hb⟩
      have Z8 := Lib.hid ((Z7.out.keep hb).keep (bA (bR _) (.cells #[.int .i64 r0, .int .i64 r1] 28)))
      have Y8 := Lib.hid (BoxL.new w8 [.int .i64 r0, .int .i64 r1] 28)
      clear hb Z7 x0 x1 x2 x3 x4 x5
      obtain ⟨x0, x1, x2, x3, x4, x5⟩ := Z8.out.2.1.c5
      go_upto_region 22 with fail
      generalize w8.alloc (.cells #[.int .i64 r0, .int .i64 r1] 28) = W8 at *
      generalize w8.heap.size = b22 at *
      go_wp2_with fail
      refine (SB.out _).mono ?_
      rintro en w9 ⟨rfl, hb⟩
      have L9 := Lib.hid (bT L0.out (Z8.out.keep hb).2.2.2)
      have Y9 := Lib.hid (Y8.out.keep hb)
      clear hb Z8 x0 x1 x2 x3 x4 x5
      obtain ⟨y0, y1, y2⟩ := Y9.out.c2
      have n22 : ¬ b22 = w9.heap.size := by omega
      rcases HS.out with ⟨hy0, hs1⟩ | ⟨hy0, hs1, hs2⟩
      · subst hs1
        have h0 : (y == 0) = true := by simpa using hy0
        clear hy0
        go_wp2_with fail
        go_ret
        exact ⟨by first | rfl | simp, by first | exact L9.out | exact bA L9.out _⟩
      · subst hs1
        have h4 : decide (s1 < r1) = true := by simpa using hs2
        clear hs2
        go_wp2_with fail
        go_ret
        exact ⟨by first | rfl | simp, by first | exact L9.out | exact bA L9.out _⟩
end Go.Proofs.Ytkagciekoeaijaa

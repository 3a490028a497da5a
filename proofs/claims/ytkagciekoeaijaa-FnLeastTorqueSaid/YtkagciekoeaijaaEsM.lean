/-
  Least torques, the program's side.
-/
import Derived.Test.YtkagciekoeaijaaEsKT
namespace Go.Proofs.Ytkagciekoeaijaa
open Go.RowKit

theorem ltE_lu {t u i l m e k : Int} {N : Nat} (h : okBt t u i l m e k = true) (h2 : inB (N : Int) 1 2000 = true) : ltE t u i l m N e k = luE (atQ u i l m e N) 1000 := by
  unfold ltE luE
  rw [if_pos h, if_pos h2, Int.toNat_natCast]
set_option maxRecDepth 100000 in
set_option maxHeartbeats 2000000 in
theorem ltC_any (t u i l m e k : Int) (N x b1 b2 b3 : Nat) (W : World) (H : Esc t u i l m) (he : 0 ≤ e ∧ e ≤ m) (hk : 0 ≤ k ∧ k ≤ 1000000000) (hn : N ≤ 2000) (hx : x ≤ 1000) (h1 : BoxL W b1 [.int .i64 t, .int .i64 u, .int .i64 i, .int .i64 l, .int .i64 m]) (h2 : BoxL W b2 [.int .i64 N]) (h3 : BoxL W b3 [.int .i64 e, .int .i64 k]) :
    Calls Try.prog 53 #[.int .i64 x, .pointer (some ⟨b1, 0, none⟩), .pointer (some ⟨b2, 0, none⟩), .pointer (some ⟨b3, 0, none⟩)] W (BoolBel (atQ u i l m e N x) W) := by
  have AL := Lib.hid (show Calls Try.prog 54 #[.agg #[.int .i64 t, .int .i64 u, .int .i64 i, .int .i64 l, .int .i64 m], .int .i64 x, .int .i64 N, .agg #[.int .i64 e, .int .i64 k]] W (BoolBel (atQ u i l m e N x) W) from allTick_any t u i l m x e k N W H he (by omega) hk hn)
  obtain ⟨c0, c1, c2, c3, c4, c5⟩ := h1.c5
  obtain ⟨d0, d1, d2⟩ := h3.c2
  have g0 := h2.c 0 _ rfl
  clear H he hk hn hx h1 h2 h3
  generalize atQ u i l m e N x = r at *
  go_enter Try.func53, Try.ntmps53
  go_wp2_with fail
  refine AL.out.mono ?_
  rintro en w1 ⟨rfl, hb⟩
  have L := Lib.hid hb
  clear hb
  go_wp2_with fail
  go_ret
  exact ⟨rfl, L.out⟩
set_option maxRecDepth 100000 in
set_option maxHeartbeats 4000000 in
theorem LeastTorqueI_any (t u i l m n e k : Int) (w : World) :
    Calls Try.prog 24 #[.agg #[.int .i64 t, .int .i64 u, .int .i64 i, .int .i64 l, .int .i64 m], .int .i64 n, .agg #[.int .i64 e, .int .i64 k]] w (TwoBl (ltE t u i l m n e k).1 (ltE t u i l m n e k).2 w) := by
  have CO := Lib.hid (fun W => ValidBeatI_any t u i l m e k W)
  have B1 := Lib.hid (((BoxL.new w [.int .i64 t, .int .i64 u, .int .i64 i, .int .i64 l, .int .i64 m] 25).alloc (.cells #[.int .i64 n] 2)).alloc (.cells #[.int .i64 e, .int .i64 k] 28))
  have B2 := Lib.hid ((BoxL.at_ (w := w.alloc (.cells #[.int .i64 t, .int .i64 u, .int .i64 i, .int .i64 l, .int .i64 m] 25)) (b := w.heap.size + 1) (vs := [.int .i64 n]) (T := 2) (by simp)).alloc (.cells #[.int .i64 e, .int .i64 k] 28))
  have B3 := Lib.hid (BoxL.at_ (w := (w.alloc (.cells #[.int .i64 t, .int .i64 u, .int .i64 i, .int .i64 l, .int .i64 m] 25)).alloc (.cells #[.int .i64 n] 2)) (b := w.heap.size + 1 + 1) (vs := [.int .i64 e, .int .i64 k]) (T := 28) (by simp))
  have L0 := Lib.hid (bA (bA (bA (bR w) (.cells #[.int .i64 t, .int .i64 u, .int .i64 i, .int .i64 l, .int .i64 m] 25)) (.cells #[.int .i64 n] 2)) (.cells #[.int .i64 e, .int .i64 k] 28))
  cases h1 : okBt t u i l m e k
  · rw [ltE_1 h1]
    rw [h1] at CO
    go_enter Try.func24, Try.ntmps24
    go_wp2_with fail
    refine (CO.out _).mono ?_
    rintro en w1 ⟨rfl, hb⟩
    have L := Lib.hid (bT L0.out hb)
    clear hb B1 B2 B3 L0
    go_wp2_with fail
    go_ret2
    exact ⟨rfl, L.out⟩
  rw [h1] at CO
  cases h2 : inB n 1 2000
  · rw [ltE_2 h1 h2]
    go_enter Try.func24, Try.ntmps24
    go_wp2_with fail
    refine (CO.out _).mono ?_
    rintro en w1 ⟨rfl, hb⟩
    have L := Lib.hid (bT L0.out hb)
    have g0 := (B2.out.keep hb).c 0 _ rfl
    clear hb B1 B2 B3 L0
    go_wp2_with (go_at_call 49; refine (isBetween_any _ _ _ _).mono ?_; rintro e w1 ⟨rfl, rfl⟩)
    go_ret2
    exact ⟨rfl, L.out⟩
  have hn := inB_true.1 h2
  obtain ⟨N, rfl⟩ := Int.eq_ofNat_of_zero_le (show 0 ≤ n by omega)
  obtain ⟨hE, he, hk⟩ := okBt_bd h1
  rw [ltE_lu h1 h2]
  have CL := Lib.hid (fun (x : Nat) b1 b2 b3 W (hx : x ≤ 1000) => ltC_any t u i l m e k N x b1 b2 b3 W hE he hk (by omega) hx)
  have MO := Lib.hid (fun x y => atQ_mono (e := e) (n := N) hE (x := x) (y := y))
  clear hE he hk h1 hn
  generalize atQ u i l m e N = p at *
  go_enter Try.func24, Try.ntmps24
  go_wp2_with fail
  refine (CO.out _).mono ?_
  rintro en w1 ⟨rfl, hb⟩
  have L := Lib.hid (bT L0.out hb)
  have X1 := Lib.hid (B1.out.keep hb)
  have X2 := Lib.hid (B2.out.keep hb)
  have X3 := Lib.hid (B3.out.keep hb)
  clear hb B1 B2 B3 L0
  have g0 := X2.out.c 0 _ rfl
  have LU := Lib.hid (leastUpTo_anyT p 1000 w.heap.size (w.heap.size + 1) (w.heap.size + 1 + 1) w1 (by omega) (fun j W hj hW => CL.out j _ _ _ W (by omega) (X1.out.keep hW) (X2.out.keep hW) (X3.out.keep hW)) MO.out)
  generalize luE p 1000 = r at *
  go_wp2_with (go_at_call 49; refine (isBetween_any _ _ _ _).mono ?_; rintro e w1 ⟨rfl, rfl⟩)
  refine LU.out.mono ?_
  rintro en w2 ⟨rfl, hb⟩
  have L2 := Lib.hid (bT L.out hb)
  clear hb
  go_wp2_with fail
  go_ret2
  exact ⟨rfl, L2.out⟩
end Go.Proofs.Ytkagciekoeaijaa

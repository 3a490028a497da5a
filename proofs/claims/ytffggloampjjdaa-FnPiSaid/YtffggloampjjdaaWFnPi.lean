/-
  The walk of laws.FnPi.
-/
import Derived.Test.YtffggloampjjdaaRoll
import Derived.Test.YtffggloampjjdaaAd
import Derived.Test.YtffggloampjjdaaPi
namespace Go.Proofs.Ytffggloampjjdaa
open Go.RowKit

def NumDraw (lo hi : Int) (w : World) (e : Ending) (w' : World) : Prop := ∃ n : Int, lo ≤ n ∧ n ≤ hi ∧ e = .returned (.int .i64 n) ∧ Below w.heap.size w w'
set_option maxHeartbeats 2000000 in
theorem DrawPiBounds_any (w : World) (a : Option Addr) (len cap : Nat) (zs : List Int) (h : IsRow .u8 w a len cap zs) :
    Calls Try.prog 29 #[.slice a len cap] w (NumDraw (-1) 1000000001 w) := by
  go_enter Try.func29, Try.ntmps29
  go_wp2_with fail
  refine (l00From_any w a len cap zs h).mono ?_
  rintro e w1 ⟨rfl, s1, hb⟩
  have S1 := Lib.hid s1
  have HB := Lib.hid hb
  have hp : w.heap.size ≤ w.heap.size := Nat.le_refl _
  generalize hpp : w.heap.size = p at s1 S1 ⊢
  have HP := Lib.hid (show w.heap.size ≤ p by omega)
  clear s1 hb
  go_wp2_with fail
  refine (pick_any _ p a len cap 0 50000 S1.out (by omega) (by omega) (by omega)).mono ?_
  rintro e w2 ⟨v, v0, v1, rfl, s2, g2⟩
  have S2 := Lib.hid s2
  have B2 := Lib.hid (below_grown HB.out g2 HP.out)
  clear s2 g2
  go_wp2_with fail
  refine (oneQ_any _ p a len cap _ 3 S2.out (by omega) (by omega) (by omega)).mono ?_
  rintro e w3 ⟨b, rfl, s3, g3⟩
  have S3 := Lib.hid s3
  have B3 := Lib.hid (below_grown B2.out g3 HP.out)
  clear s3 g3
  cases b
  · go_wp2_with fail
    go_ret
    exact ⟨v, by omega, by omega, rfl, B3.out⟩
  · go_wp2_with fail
    refine (among_any _ p a len cap _ _ 8 (-1) (1000000001) (S3.out.keep (bA (bR _) _)) (by omega) (by omega) (by omega) (by have := S3.out.lt; omega) (by simp) ?hnu).mono ?_
    case hnu =>
      intro i hi
      match i, hi with
      | 0, _ => exact ⟨_, by simp [go_sem]; rfl, by omega, by omega⟩
      | 1, _ => exact ⟨_, by simp [go_sem]; rfl, by omega, by omega⟩
      | 2, _ => exact ⟨_, by simp [go_sem]; rfl, by omega, by omega⟩
      | 3, _ => exact ⟨_, by simp [go_sem]; rfl, by omega, by omega⟩
      | 4, _ => exact ⟨_, by simp [go_sem]; rfl, by omega, by omega⟩
      | 5, _ => exact ⟨_, by simp [go_sem]; rfl, by omega, by omega⟩
      | 6, _ => exact ⟨_, by simp [go_sem]; rfl, by omega, by omega⟩
      | 7, _ => exact ⟨_, by simp [go_sem]; rfl, by omega, by omega⟩
    rintro e w4 ⟨u, u0, u1, rfl, s4, g4⟩
    have B4 := Lib.hid (below_grown (bA B3.out _) g4 HP.out)
    go_wp2_with fail
    go_ret
    exact ⟨u, u0, u1, rfl, B4.out⟩
theorem pi_facts {n p : Int} (h0 : 0 ≤ p) (h1 : p ≤ n) (h2 : n ≤ 1000000000) : piL n ≤ piU n ∧ piU n - piL n ≤ 2 ∧ piL p + piL (n - p) ≤ piL n ∧ piU n ≤ piU p + piU (n - p) ∧ (0 ≤ piL n ∧ piL n ≤ 4000000000 ∧ piU n ≤ 4000000000) ∧ (0 ≤ piL p ∧ piL p ≤ 4000000000 ∧ 0 ≤ piU p ∧ piU p ≤ 4000000000) ∧ 0 ≤ piL (n - p) ∧ piL (n - p) ≤ 4000000000 ∧ 0 ≤ piU (n - p) ∧ piU (n - p) ≤ 4000000000 := by
  unfold piL piU upq; omega
set_option maxRecDepth 100000 in
set_option maxHeartbeats 4000000 in
theorem FnPi_walk (a : Option Addr) (len cap : Nat) (zs : List Int) (w : World) (h : IsRow .u8 w a len cap zs) :
    Calls Try.prog 10 #[.slice a len cap] w fun e w' => e = .returned (.bool true) ∧ Below w.heap.size w w' := by
  have l1 := (row_of h).1
  unfold maxLen at l1
  have HA := Lib.hid h
  clear h
  by_cases hl : 4096 < len
  · have hd : decide (4096 < (len : Int)) = true := decide_eq_true (by omega)
    go_enter Try.func10, Try.ntmps10
    go_wp2_with fail
    refine (f6bigR_any _ _ _ _ (by omega)).mono ?_
    rw [hd]
    rintro e w1 ⟨rfl, rfl⟩
    go_wp2_with fail
    go_ret
    exact ⟨rfl, bR _⟩
  have hd : decide (4096 < (len : Int)) = false := decide_eq_false (by omega)
  go_enter Try.func10, Try.ntmps10
  go_wp2_with fail
  refine (f6bigR_any _ _ _ _ (by omega)).mono ?_
  rw [hd]
  rintro e w1 ⟨rfl, rfl⟩
  go_wp2_with fail
  refine (DrawPiBounds_any _ a len cap zs HA.out).mono ?_
  rintro e w1 ⟨n, n0, n1, rfl, hb⟩
  have B1 := Lib.hid hb
  have A1 := Lib.hid (HA.out.keep hb)
  clear hb HA hd hl
  go_wp2_with fail
  refine (PiBoundsI_any n _).mono ?_
  rintro e w2 ⟨rfl, hb⟩
  have B2 := Lib.hid (bT B1.out hb)
  have A2 := Lib.hid (A1.out.keep hb)
  clear hb
  go_wp2_with fail
  refine (PiBoundsS_any n _).mono ?_
  rintro e w3 ⟨rfl, hb⟩
  have B3 := Lib.hid (bT B2.out hb)
  have A3 := Lib.hid (A2.out.keep hb)
  clear hb B1 B2 A1 A2
  cases hn : inB n 0 1000000000
  · rw [pbF_no hn]
    go_wp2_with fail
    go_ret
    exact ⟨rfl, B3.out⟩
  · rw [pbF_yes hn]
    have hn1 := inB_true.1 hn
    have e1 : (piL n != piL n) = false := by simp
    have e2 : (piU n != piU n) = false := by simp
    go_wp2_with fail
    refine (f6roll_any _ a len cap zs _ A3.out).mono ?_
    rintro e w4 ⟨rfl, s4, hb⟩
    have S4 := Lib.hid s4
    have B4 := Lib.hid (bT B3.out hb)
    have HP := Lib.hid B3.out.size
    clear hb s4
    generalize w3.heap.size = p at S4 HP ⊢
    go_wp2_with fail
    refine (below_any _ p a len cap 0 _ S4.out (by omega) (by omega) (by omega)).mono ?_
    rintro e w5 ⟨q, q0, q1, rfl, s5, g5⟩
    have B5 := Lib.hid (below_grown B4.out g5 HP.out)
    clear s5 g5
    have f := pi_facts q0 (show q ≤ n by omega) hn1.2
    have hq : inB q 0 1000000000 = true := inB_true.2 (by omega)
    have hq2 : inB (n - q) 0 1000000000 = true := inB_true.2 (by omega)
    go_wp2_with fail
    refine (PiBoundsI_any q _).mono ?_
    rw [pbF_yes hq]
    rintro e w6 ⟨rfl, hb⟩
    have B6 := Lib.hid (bT B5.out hb)
    clear hb
    go_wp2_with fail
    refine (PiBoundsI_any (n - q) _).mono ?_
    rw [pbF_yes hq2]
    rintro e w7 ⟨rfl, hb⟩
    have B7 := Lib.hid (bT B6.out hb)
    clear hb
    generalize piL n = x at *
    generalize piU n = y at *
    generalize piL q = x1 at *
    generalize piU q = y1 at *
    generalize piL (n - q) = x2 at *
    generalize piU (n - q) = y2 at *
    obtain ⟨f1, f2, f3, f4, f5, f6, f7⟩ := f
    go_wp2_with fail
    go_ret
    exact ⟨rfl, B7.out⟩
end Go.Proofs.Ytffggloampjjdaa

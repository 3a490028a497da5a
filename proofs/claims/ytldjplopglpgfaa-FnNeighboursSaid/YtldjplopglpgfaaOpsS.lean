/-
  Contracts of spec.AddRatio, SubRatio, MulRatio, DivRatio, and what an operation returns.
-/
import Derived.Test.YtldjplopglpgfaaAr1
import Derived.Test.YtldjplopglpgfaaMkC
import Derived.Test.YtldjplopglpgfaaAr2
namespace Go.Proofs.Ytldjplopglpgfaa
open Go.RowKit

/-- What an operation returns: the terms and the code of the ratio x / y; ErrInvalid if an operand is not valid. -/
def oA (v : Bool) (x y : Int) : Int := if v then rA x y else 0
def oB (v : Bool) (x y : Int) : Int := if v then rB x y else 0
def oC (v : Bool) (x y : Int) : Int := if v then rC x y else 1
theorem o_no (x y : Int) : oA false x y = 0 ∧ oB false x y = 0 ∧ oC false x y = 1 := ⟨rfl, rfl, rfl⟩
theorem o_yes (x y : Int) : oA true x y = rA x y ∧ oB true x y = rB x y ∧ oC true x y = rC x y := ⟨rfl, rfl, rfl⟩
theorem o_make {x y : Int} (h : y ≠ 0) : oA true x y = (if lowOk x y then mkA x y else 0) ∧ oB true x y = (if lowOk x y then mkB x y else 0) ∧ oC true x y = (if lowOk x y then 0 else 2) := r_make h
theorem v_no1 {n d p q : Int} (h : okR n d = false) : (okR n d && okR p q) = false := by simp [h]
theorem v_no2 {n d p q : Int} (h : okR p q = false) : (okR n d && okR p q) = false := by simp [h]
theorem v_yes {n d p q : Int} (h1 : okR n d = true) (h2 : okR p q = true) : (okR n d && okR p q) = true := by simp [h1, h2]

set_option maxHeartbeats 1000000 in
theorem SubRatioS_any (n d p q : Int) (w : World) :
    Calls Try.prog 15 #[.agg #[.int .i64 n, .int .i64 d], .agg #[.int .i64 p, .int .i64 q]] w fun e w' => e = .returned (.tuple #[.agg #[.int .i64 (oA (okR n d && okR p q) (addX n d (-p) q) (mulX d q)), .int .i64 (oB (okR n d && okR p q) (addX n d (-p) q) (mulX d q))], .int .i64 (oC (okR n d && okR p q) (addX n d (-p) q) (mulX d q))]) ∧ Below w.heap.size w w' := by
  cases h1 : okR n d
  · have HZ := Lib.hid (o_no (addX n d (-p) q) (mulX d q))
    have HV := Lib.hid (v_no1 (p := p) (q := q) h1)
    go_enter Try.func15, Try.ntmps15
    go_wp2_with fail
    refine (l02Ok_any _ _ _).mono ?_
    rintro e w1 ⟨rfl, hb1⟩
    obtain ⟨hc1, hf1⟩ := bcell hb1
    go_wp2_with fail
    refine bodyPost_ret (v := .tuple #[.agg #[.int .i64 0, .int .i64 0], .int .i64 1]) ?_ rfl ⟨?_, ((bT (bA (bA (bA (bR _) _) _) _) hb1).setCell (by simp; omega) _).setCell (by simp; omega) _⟩
    · simp [results, Try.results15, go_sem, hc1]
    · first | exact ret_rc HZ.out.1.symm HZ.out.2.1.symm HZ.out.2.2.symm | (rw [HV.out]; exact ret_rc HZ.out.1.symm HZ.out.2.1.symm HZ.out.2.2.symm)
  · cases h2 : okR p q
    · have HZ := Lib.hid (o_no (addX n d (-p) q) (mulX d q))
      have HV := Lib.hid (v_no2 (n := n) (d := d) h2)
      go_enter Try.func15, Try.ntmps15
      go_wp2_with fail
      refine (l02Ok_any _ _ _).mono ?_
      rintro e w1 ⟨rfl, hb1⟩
      obtain ⟨hc1, hf1⟩ := bcell hb1
      have hs1 : w.heap.size + 1 + 1 < w1.heap.size := bsize hb1 (by simp)
      have hs1' : w.heap.size + 1 < w1.heap.size := by omega
      go_wp2_with fail
      refine (l02Ok_any _ _ _).mono ?_
      rintro e w2 ⟨rfl, hb2⟩
      obtain ⟨hc2, hf2⟩ := bcell hb2
      go_wp2_with fail
      refine bodyPost_ret (v := .tuple #[.agg #[.int .i64 0, .int .i64 0], .int .i64 1]) ?_ rfl ⟨?_, ((bT (bT (bA (bA (bA (bR _) _) _) _) hb1) hb2).setCell (by simp; omega) _).setCell (by simp; omega) _⟩
      · simp [results, Try.results15, go_sem, hc1, hc2, hs1]
      · first | exact ret_rc HZ.out.1.symm HZ.out.2.1.symm HZ.out.2.2.symm | (rw [HV.out]; exact ret_rc HZ.out.1.symm HZ.out.2.1.symm HZ.out.2.2.symm)
    · have HV := Lib.hid (v_yes h1 h2)
      obtain ⟨b1, b2, a1', a2'⟩ := okR_bd h1
      obtain ⟨d1, d2, c1, c2⟩ := okR_bd h2
      have HZ := Lib.hid (o_make (x := addX n d (-p) q) (mulX_pos b1 d1))
      go_enter Try.func15, Try.ntmps15
      go_wp2_with fail
      refine (l02Ok_any _ _ _).mono ?_
      rintro e w1 ⟨rfl, hb1⟩
      obtain ⟨hc1, hf1⟩ := bcell hb1
      have hs1 : w.heap.size + 1 + 1 < w1.heap.size := bsize hb1 (by simp)
      have hs1' : w.heap.size + 1 < w1.heap.size := by omega
      have hs1'' : w.heap.size < w1.heap.size := by omega
      go_wp2_with fail
      refine (l02Ok_any _ _ _).mono ?_
      rintro e w2 ⟨rfl, hb2⟩
      obtain ⟨hc2, hf2⟩ := bcell hb2
      have hs2 : w.heap.size + 1 + 1 < w2.heap.size := bsize hb2 hs1
      have hs2' : w.heap.size + 1 < w2.heap.size := by omega
      have hs2'' : w.heap.size < w2.heap.size := by omega
      have hB2 := bT (bT (bA (bA (bA (bR w) _) _) _) hb1) hb2
      go_wp2_with fail
      go_region_with (first
        | (go_at_call 30; refine (l02Neg_any _ _ _ ?_ ?_).mono ?_; omega; omega; rintro e w3 ⟨rfl, hb3'⟩; have hb3 := bU hb3'; clear hb3'; obtain ⟨hc3, hf3⟩ := bcell hb3; have hs3 : w.heap.size + 1 + 1 < w3.heap.size := bsize hb3 hs2; have hs3' : w.heap.size < w3.heap.size := by omega)
        | (go_at_call 29; refine (l02Add_any _ _ _ _ _ ?_ ?_ ?_ ?_ ?_ ?_ ?_ ?_).mono ?_; omega; omega; omega; omega; omega; omega; omega; omega; rintro e w4 ⟨rfl, hb4⟩; obtain ⟨hc4, hf4⟩ := bcell hb4; have hs4 : w.heap.size + 1 + 1 < w4.heap.size := bsize hb4 hs3)
        | (go_at_call 28; refine (l02Code_any _ _ _ _).mono ?_; rintro e w5 ⟨rfl, hb5⟩; obtain ⟨hc5, hf5⟩ := bcell hb5; have hs5 : w.heap.size + 1 + 1 < w5.heap.size := bsize hb5 hs4; generalize (if lowOk (addX n d (-p) q) (mulX d q) = true then mkA (addX n d (-p) q) (mulX d q) else 0) = a at *; generalize (if lowOk (addX n d (-p) q) (mulX d q) = true then mkB (addX n d (-p) q) (mulX d q) else 0) = b at *; generalize (if lowOk (addX n d (-p) q) (mulX d q) = true then (0 : Int) else 2) = c at *))
      all_goals go_wp2_with fail
      all_goals refine bodyPost_ret (v := .tuple #[.agg #[.int .i64 a, .int .i64 b], .int .i64 c]) ?_ rfl ⟨?_, ((bT (bT (bT hB2 hb3) hb4) hb5).setCell (by simp; omega) _).setCell (by simp; omega) _⟩
      all_goals first | (simp [Act.put, results, Try.results15, go_sem, hc1, hc2, hs1, hs2, hc3, hc4, hc5, hs3, hs4]; done) | exact ret_rc HZ.out.1.symm HZ.out.2.1.symm HZ.out.2.2.symm | (rw [HV.out]; exact ret_rc HZ.out.1.symm HZ.out.2.1.symm HZ.out.2.2.symm)

end Go.Proofs.Ytldjplopglpgfaa

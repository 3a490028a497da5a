/-
  Contracts of impl and spec SubRatio, DivRatio.
-/
import Derived.Test.YtcklcledchboiaaDoorOps
namespace Go.Proofs.YtcklcledchboiaaDoor
open Go.RowKit

set_option maxHeartbeats 1000000 in
theorem SubRatioI_any (n d p q : Int) (w : World) (a0 a1 : Addr) (hS : Sent w a0 a1) :
    Calls Tryd.prog 62 #[.agg #[.int .i64 n, .int .i64 d], .agg #[.int .i64 p, .int .i64 q]] w fun e w' => e = .returned (.tuple #[.agg #[.int .i64 (oA (okR n d && okR p q) (addX n d (-p) q) (mulX d q)), .int .i64 (oB (okR n d && okR p q) (addX n d (-p) q) (mulX d q))], .int .i64 (oC (okR n d && okR p q) (addX n d (-p) q) (mulX d q))]) ∧ Below w.heap.size w w' := by
  have HS := Lib.hid hS
  clear hS
  cases h1 : okR n d
  · have HZ := Lib.hid (o_no (addX n d (-p) q) (mulX d q))
    have HV := Lib.hid (v_no1 (p := p) (q := q) h1)
    go_enter Tryd.func62, Tryd.ntmps62
    go_wp2_with fail
    refine (valid_any _ _ _).mono ?_
    rintro e w1 ⟨rfl, hb1⟩
    obtain ⟨hc1, hf1⟩ := bcell hb1
    go_wp2_with fail
    refine bodyPost_ret (v := .tuple #[.agg #[.int .i64 0, .int .i64 0], .int .i64 1]) ?_ rfl ⟨?_, ((bT (bA (bA (bA (bR _) _) _) _) hb1).setCell (by simp; omega) _).setCell (by simp; omega) _⟩
    · simp [results, Tryd.results62, go_sem, hc1]
    · first | exact ret_rc HZ.out.1.symm HZ.out.2.1.symm HZ.out.2.2.symm | (rw [HV.out]; exact ret_rc HZ.out.1.symm HZ.out.2.1.symm HZ.out.2.2.symm)
  · cases h2 : okR p q
    · have HZ := Lib.hid (o_no (addX n d (-p) q) (mulX d q))
      have HV := Lib.hid (v_no2 (n := n) (d := d) h2)
      go_enter Tryd.func62, Tryd.ntmps62
      go_wp2_with fail
      refine (valid_any _ _ _).mono ?_
      rintro e w1 ⟨rfl, hb1⟩
      obtain ⟨hc1, hf1⟩ := bcell hb1
      have hs1 : w.heap.size + 1 + 1 < w1.heap.size := bsize hb1 (by simp)
      have hs1' : w.heap.size + 1 < w1.heap.size := by omega
      go_wp2_with fail
      refine (valid_any _ _ _).mono ?_
      rintro e w2 ⟨rfl, hb2⟩
      obtain ⟨hc2, hf2⟩ := bcell hb2
      go_wp2_with fail
      refine bodyPost_ret (v := .tuple #[.agg #[.int .i64 0, .int .i64 0], .int .i64 1]) ?_ rfl ⟨?_, ((bT (bT (bA (bA (bA (bR _) _) _) _) hb1) hb2).setCell (by simp; omega) _).setCell (by simp; omega) _⟩
      · simp [results, Tryd.results62, go_sem, hc1, hc2, hs1]
      · first | exact ret_rc HZ.out.1.symm HZ.out.2.1.symm HZ.out.2.2.symm | (rw [HV.out]; exact ret_rc HZ.out.1.symm HZ.out.2.1.symm HZ.out.2.2.symm)
    · have HV := Lib.hid (v_yes h1 h2)
      obtain ⟨b1, b2, a1', a2'⟩ := okR_bd h1
      obtain ⟨d1, d2, c1, c2⟩ := okR_bd h2
      have HZ := Lib.hid (o_yes (addX n d (-p) q) (mulX d q))
      obtain ⟨x1, x2⟩ := addX_bd (p := -p) a1' a2' (show -1000000000 ≤ d by omega) b2 (show -1000000000 ≤ -p by omega) (show -p ≤ 1000000000 by omega) (show -1000000000 ≤ q by omega) d2
      obtain ⟨y1, y2⟩ := mulX_bd (show -1000000000 ≤ d by omega) b2 (show -1000000000 ≤ q by omega) d2
      go_enter Tryd.func62, Tryd.ntmps62
      go_wp2_with fail
      refine (valid_any _ _ _).mono ?_
      rintro e w1 ⟨rfl, hb1⟩
      obtain ⟨hc1, hf1⟩ := bcell hb1
      have hs1 : w.heap.size + 1 + 1 < w1.heap.size := bsize hb1 (by simp)
      have hs1' : w.heap.size + 1 < w1.heap.size := by omega
      have hs1'' : w.heap.size < w1.heap.size := by omega
      go_wp2_with fail
      refine (valid_any _ _ _).mono ?_
      rintro e w2 ⟨rfl, hb2⟩
      obtain ⟨hc2, hf2⟩ := bcell hb2
      have hs2 : w.heap.size + 1 + 1 < w2.heap.size := bsize hb2 hs1
      have hs2' : w.heap.size + 1 < w2.heap.size := by omega
      have hs2'' : w.heap.size < w2.heap.size := by omega
      have hB2 := bT (bT (bA (bA (bA (bR w) _) _) _) hb1) hb2
      have hS2 := Lib.hid (HS.out.keep hB2)
      clear HS
      go_wp2_with fail
      go_region_with (first
        | (go_at_call 99; refine (negated_any _ _ _ (by omega) (by omega)).mono ?_; rintro e w3 ⟨rfl, hb3'⟩; have hb3 := bU hb3'; clear hb3'; obtain ⟨hc3, hf3⟩ := bcell hb3; have hs3 : w.heap.size + 1 + 1 < w3.heap.size := bsize hb3 hs2; have hs3' : w.heap.size < w3.heap.size := by omega)
        | (go_at_call 97; refine (plus_any _ _ _ _ _ ?_ ?_ ?_ ?_ ?_ ?_ ?_ ?_).mono ?_; omega; omega; omega; omega; omega; omega; omega; omega; rintro e w4 ⟨rfl, hb4⟩; obtain ⟨hc4, hf4⟩ := bcell hb4; have hs4 : w.heap.size + 1 + 1 < w4.heap.size := bsize hb4 hs3)
        | (go_at_call 96; refine (MakeRatioI_any _ _ _ a0 a1 ?_ ?_ ?_ ?_ ?_).mono ?_; exact (hS2.out.keep hb3).keep hb4; omega; omega; omega; omega; rintro e w5 ⟨rfl, hb5⟩; obtain ⟨hc5, hf5⟩ := bcell hb5; have hs5 : w.heap.size + 1 + 1 < w5.heap.size := bsize hb5 hs4; generalize rA (addX n d (-p) q) (mulX d q) = a at *; generalize rB (addX n d (-p) q) (mulX d q) = b at *; generalize rC (addX n d (-p) q) (mulX d q) = c at *))
      all_goals go_wp2_with fail
      all_goals refine bodyPost_ret (v := .tuple #[.agg #[.int .i64 a, .int .i64 b], .int .i64 c]) ?_ rfl ⟨?_, ((bT (bT (bT hB2 hb3) hb4) hb5).setCell (by simp; omega) _).setCell (by simp; omega) _⟩
      all_goals first | (simp [Act.put, results, Tryd.results62, go_sem, hc1, hc2, hs1, hs2, hc3, hc4, hc5, hs3, hs4]; done) | exact ret_rc HZ.out.1.symm HZ.out.2.1.symm HZ.out.2.2.symm | (rw [HV.out]; exact ret_rc HZ.out.1.symm HZ.out.2.1.symm HZ.out.2.2.symm)

end Go.Proofs.YtcklcledchboiaaDoor

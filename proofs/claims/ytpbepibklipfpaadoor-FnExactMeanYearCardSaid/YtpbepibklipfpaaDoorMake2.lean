/-
  The contract of spec.MakeRatio.
-/
import Derived.Test.YtpbepibklipfpaaDoorMkC
namespace Go.Proofs.YtpbepibklipfpaaDoor
open Go.RowKit

set_option maxHeartbeats 400000 in
theorem MakeRatioS_any (n d : Int) (w : World) (h1 : -9223372036854775808 ≤ n) (h2 : n ≤ 9223372036854775807) (h3 : -9223372036854775808 ≤ d) (h4 : d ≤ 9223372036854775807) :
    Calls Tryd.prog 36 #[.int .i64 n, .int .i64 d] w fun e w' => e = .returned (.tuple #[.agg #[.int .i64 (rA n d), .int .i64 (rB n d)], .int .i64 (rC n d)]) ∧ Below w.heap.size w w' := by
  by_cases hd : d = 0
  · subst hd
    have HZ := Lib.hid (r_zero n)
    go_enter Tryd.func36, Tryd.ntmps36
    go_wp2_with fail
    exact bodyPost_ret (v := .tuple #[.agg #[.int .i64 0, .int .i64 0], .int .i64 6]) (by simp [results, Tryd.results36, go_sem]) rfl ⟨ret_rc HZ.out.1.symm HZ.out.2.1.symm HZ.out.2.2.symm, bA (bR _) _⟩
  · have hz : (d == 0) = false := by simpa using hd
    have HM := Lib.hid (r_make (n := n) hd)
    go_enter Tryd.func36, Tryd.ntmps36
    go_wp2_with fail
    refine (l02Make_any _ _ _ hd h1 h2 h3 h4).mono ?_
    rintro e w1 ⟨rfl, hb1⟩
    obtain ⟨hc1, hf1⟩ := bcell hb1
    have hs1 : w.heap.size < w1.heap.size := bsize hb1 (by simp)
    go_wp2_with fail
    refine (l02Code_any _ _ _ _).mono ?_
    rintro e w2 ⟨rfl, hb2⟩
    obtain ⟨hc2, hf2⟩ := bcell hb2
    have hs2 : w.heap.size < w2.heap.size := bsize hb2 hs1
    generalize (if lowOk n d = true then mkA n d else 0) = a at *
    generalize (if lowOk n d = true then mkB n d else 0) = b at *
    generalize (if lowOk n d = true then (0 : Int) else 2) = c at *
    go_wp2_with fail
    refine bodyPost_ret (v := .tuple #[.agg #[.int .i64 a, .int .i64 b], .int .i64 c]) ?_ rfl ⟨ret_rc HM.out.1.symm HM.out.2.1.symm HM.out.2.2.symm, ((bT (bT (bA (bR _) _) hb1) hb2).setCell (by simp) _).setCell (by simp) _⟩
    simp [results, Tryd.results36, go_sem, hc1, hc2, hs1]
end Go.Proofs.YtpbepibklipfpaaDoor

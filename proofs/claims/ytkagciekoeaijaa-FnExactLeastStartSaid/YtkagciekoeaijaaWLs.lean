/-
  The walk of laws.FnExactLeastStart.
-/
import Derived.Test.YtkagciekoeaijaaEsQ
import Derived.Test.YtkagciekoeaijaaAgg
namespace Go.Proofs.Ytkagciekoeaijaa
open Go.RowKit

set_option maxRecDepth 100000 in
set_option maxHeartbeats 2000000 in
theorem FnExactLeastStart_walk (t u i l m : Int) (q : Int) (n : Int) (w : World) (_hq : -9223372036854775808 ≤ q ∧ q ≤ 9223372036854775807) (_hn : -9223372036854775808 ≤ n ∧ n ≤ 9223372036854775807) :
    Calls Try.prog 7 #[.agg #[.int .i64 t, .int .i64 u, .int .i64 i, .int .i64 l, .int .i64 m], .int .i64 q, .int .i64 n] w fun e w' => e = .returned (.bool true) ∧ Below w.heap.size w w' := by
  have CS := Lib.hid (fun W => LeastStartS_any t u i l m q n W)
  have CI := Lib.hid (fun W => LeastStartI_any t u i l m q n W)
  generalize lsE t u i l m q n = r at *
  obtain ⟨r0, r1⟩ := r
  simp only at CS CI
  have n0 : (r0 != r0) = false := by simp
  have n1 : (r1 != r1) = false := by simp
  have H0 := Lib.hid (EsH.new w t u i l m 52)
  go_enter Try.func7, Try.ntmps7
  go_wp2_with fail
  refine (toEscapement_any _ _ _ _ _ _).mono ?_
  rintro en w1 ⟨rfl, hb⟩
  have H1 := Lib.hid (H0.out.keep hb)
  clear hb H0
  obtain ⟨c0, c1, c2, c3, c4, c5⟩ := H1.out.1.c5
  go_wp2_with fail
  refine (CS.out _).mono ?_
  rintro en w2 ⟨rfl, hb⟩
  have H2 := Lib.hid (H1.out.keep hb)
  clear hb c0 c1 c2 c3 c4 c5 H1
  obtain ⟨c0, c1, c2, c3, c4, c5⟩ := H2.out.1.c5
  go_wp2_with fail
  refine (toEscapement_any _ _ _ _ _ _).mono ?_
  rintro en w3 ⟨rfl, hb⟩
  have H3 := Lib.hid (H2.out.keep hb)
  clear hb c0 c1 c2 c3 c4 c5 H2
  obtain ⟨c0, c1, c2, c3, c4, c5⟩ := H3.out.1.c5
  go_wp2_with fail
  refine (CI.out _).mono ?_
  rintro en w4 ⟨rfl, hb⟩
  have H4 := Lib.hid (H3.out.keep hb)
  clear hb c0 c1 c2 c3 c4 c5 H3
  obtain ⟨c0, c1, c2, c3, c4, c5⟩ := H4.out.1.c5
  go_wp2_with fail
  go_ret
  exact ⟨rfl, H4.out.2⟩
end Go.Proofs.Ytkagciekoeaijaa


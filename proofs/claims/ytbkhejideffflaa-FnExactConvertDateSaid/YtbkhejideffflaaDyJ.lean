/-
  Days of calendars, the program's side: ValidDate, WeekdayOf, DaysBetween.
-/
import Derived.Test.YtbkhejideffflaaDyI
namespace Go.Proofs.Ytbkhejideffflaa
open Go.RowKit

set_option maxRecDepth 100000 in
set_option maxHeartbeats 8000000 in
theorem ValidDateI_any (c : Cal) (d0 d1 d2 : Int) (x : Value) (w : World) (h : IsC w x c) (hb1 : -9223372036854775808 ≤ d1 ∧ d1 ≤ 9223372036854775807) :
    Calls Try.prog 15 #[x, .agg #[.int .i64 d0, .int .i64 d1, .int .i64 d2]] w (BoolBel (vdE c d0 d1 d2) w) := by
  obtain ⟨u, v, rfl, hs, hM, hR⟩ := h
  obtain ⟨a1, n1, rfl, l1, _⟩ := hM.open
  obtain ⟨a2, n2, rfl, l2, _⟩ := hR.open
  have HSZ := Lib.hid hs
  have H0 := Lib.hid (CpH.new w c a1 n1 a2 n2 d0 d1 d2)
  have HI := Lib.hid (fun (w2 : World) (hb : Below w.heap.size w w2) => show IsC w2 (.agg #[.string c.nm, .slice a1 c.ms.length n1, .slice a2 c.rs.length n2, .int .i64 c.wk]) c from ⟨_, _, rfl, hs, hM.keep hb, hR.keep hb⟩)
  clear hM hR hs
  obtain ⟨c0, c1, c2, c3, c4, e0, e1, e2, e3, _⟩ := H0.out
  go_enter Try.func15, Try.ntmps15
  go_wp2_with fail
  generalize (w.alloc (.cells #[.string c.nm, .slice a1 c.ms.length n1, .slice a2 c.rs.length n2, .int .i64 c.wk] 33)).alloc (.cells #[.int .i64 d0, .int .i64 d1, .int .i64 d2] 35) = W0 at *
  refine (DayOfI_any c d0 d1 d2 _ _ (HI.out _ H0.out.bel) hb1).mono ?_
  rintro e w1 ⟨rfl, hb⟩
  have H1 := Lib.hid (H0.out.keep hb)
  clear c0 c1 c2 c3 c4 e0 e1 e2 e3 H0 hb
  obtain ⟨c0, c1, c2, c3, c4, e0, e1, e2, e3, _⟩ := H1.out
  generalize hA : (doE c d0 d1 d2).1 = A
  generalize hB : (doE c d0 d1 d2).2 = B
  have HN := Lib.hid (show (decide (B = 0)) = vdE c d0 d1 d2 from by rw [← hB]; exact Bool.eq_iff_iff.2 (by simp only [decide_eq_true_eq]; exact doE_code))
  clear hA hB
  go_wp2_with fail
  go_ret
  exact ⟨by rw [← HN.out]; rfl, H1.out.bel⟩
set_option maxRecDepth 100000 in
set_option maxHeartbeats 8000000 in
theorem WeekdayOfI_any (c : Cal) (d0 d1 d2 f : Int) (x : Value) (w : World) (h : IsC w x c) (hb1 : -9223372036854775808 ≤ d1 ∧ d1 ≤ 9223372036854775807) :
    Calls Try.prog 27 #[x, .agg #[.int .i64 d0, .int .i64 d1, .int .i64 d2], .int .i64 f] w (TwoR2 (wdE c d0 d1 d2 f).1 (wdE c d0 d1 d2 f).2 w) := by
  obtain ⟨u, v, rfl, hs, hM, hR⟩ := h
  obtain ⟨a1, n1, rfl, l1, _⟩ := hM.open
  obtain ⟨a2, n2, rfl, l2, _⟩ := hR.open
  have HSZ := Lib.hid hs
  have H0 := Lib.hid (CpH.new w c a1 n1 a2 n2 d0 d1 d2)
  have HI := Lib.hid (fun (w2 : World) (hb : Below w.heap.size w w2) => show IsC w2 (.agg #[.string c.nm, .slice a1 c.ms.length n1, .slice a2 c.rs.length n2, .int .i64 c.wk]) c from ⟨_, _, rfl, hs, hM.keep hb, hR.keep hb⟩)
  clear hM hR hs
  obtain ⟨c0, c1, c2, c3, c4, e0, e1, e2, e3, _⟩ := H0.out
  go_enter Try.func27, Try.ntmps27
  go_wp2_with fail
  generalize (w.alloc (.cells #[.string c.nm, .slice a1 c.ms.length n1, .slice a2 c.rs.length n2, .int .i64 c.wk] 33)).alloc (.cells #[.int .i64 d0, .int .i64 d1, .int .i64 d2] 35) = W0 at *
  refine (DayOfI_any c d0 d1 d2 _ _ (HI.out _ H0.out.bel) hb1).mono ?_
  rintro e w1 ⟨rfl, hb⟩
  have H1 := Lib.hid (H0.out.keep hb)
  clear c0 c1 c2 c3 c4 e0 e1 e2 e3 H0 hb
  obtain ⟨c0, c1, c2, c3, c4, e0, e1, e2, e3, _⟩ := H1.out
  generalize hA : (doE c d0 d1 d2).1 = A
  generalize hB : (doE c d0 d1 d2).2 = B
  cases h1 : okC c
  · have HN := Lib.hid (wdE_1 (a0 := d0) (a1 := d1) (a2 := d2) (f := f) h1)
    obtain rfl : B = 1 := by rw [← hB, doE_1 h1]
    clear hA hB
    go_wp2_with fail
    go_ret2
    exact ⟨by rw [HN.out]; rfl, H1.out.bel⟩
  cases h2 : okD c d0 d1 d2
  · have HN := Lib.hid (wdE_2 (f := f) h1 h2)
    obtain rfl : B = 2 := by rw [← hB, doE_2 h1 h2]
    clear hA hB
    go_wp2_with fail
    go_ret2
    exact ⟨by rw [HN.out]; rfl, H1.out.bel⟩
  obtain rfl : B = 0 := by rw [← hB, doE_0 h1 h2]
  obtain rfl : A = dyN c d0 d1 d2 := by rw [← hA, doE_0 h1 h2]
  clear hA hB
  go_wp2_with fail
  refine (isBetween_any _ _ _ _).mono ?_
  rintro e w9 ⟨rfl, rfl⟩
  cases h3 : inB f 1 c.wk
  · have HN := Lib.hid (wdE_3 (a0 := d0) (a1 := d1) (a2 := d2) h1 h3)
    go_wp2_with fail
    go_ret2
    exact ⟨by rw [HN.out]; rfl, H1.out.bel⟩
  have HN := Lib.hid (wdE_0 h1 h2 h3)
  obtain ⟨_, _, _, g1, g2⟩ := dyN_bd h1 h2
  have b3 := inB_true.1 h3
  have hwk := (okC_parts h1).2.2.2
  have hw0 : ¬ c.wk = 0 := by omega
  have hw1 : 0 < c.wk := by omega
  generalize dyN c d0 d1 d2 = n at *
  have r1 := Int.emod_nonneg (n + f - 1) hw0
  have r2 := Int.emod_lt_of_pos (n + f - 1) hw1
  have r3 : 0 ≤ n + f - 1 := by omega
  have r4 : (f - 1 + n).tmod c.wk = (n + f - 1) % c.wk := by rw [show f - 1 + n = n + f - 1 by omega]; exact Int.tmod_eq_emod_of_nonneg r3
  have r5 : (f - 1 + n) % c.wk = (n + f - 1) % c.wk := by rw [show f - 1 + n = n + f - 1 by omega]
  have v0 : IntKind.i64.wrap (f - 1) = f - 1 := IntWalk.i64_in _ (by omega)
  have v1 : IntKind.i64.wrap (f - 1 + n) = f - 1 + n := IntWalk.i64_in _ (by omega)
  have v2 : IntKind.i64.wrap ((n + f - 1) % c.wk) = (n + f - 1) % c.wk := IntWalk.i64_in _ (by omega)
  have v3 : IntKind.i64.wrap ((n + f - 1) % c.wk + 1) = (n + f - 1) % c.wk + 1 := IntWalk.i64_in _ (by omega)
  clear h1 h2 h3
  go_wp2_with fail
  go_ret2
  exact ⟨by rw [HN.out]; rfl, H1.out.bel⟩
set_option maxRecDepth 100000 in
set_option maxHeartbeats 8000000 in
theorem DaysBetweenI_any (c : Cal) (d0 d1 d2 b0 b1 b2 : Int) (x : Value) (w : World) (h : IsC w x c) (hb1 : -9223372036854775808 ≤ d1 ∧ d1 ≤ 9223372036854775807) (hb2 : -9223372036854775808 ≤ b1 ∧ b1 ≤ 9223372036854775807) :
    Calls Try.prog 25 #[x, .agg #[.int .i64 d0, .int .i64 d1, .int .i64 d2], .agg #[.int .i64 b0, .int .i64 b1, .int .i64 b2]] w (TwoR2 (dbE c d0 d1 d2 b0 b1 b2).1 (dbE c d0 d1 d2 b0 b1 b2).2 w) := by
  obtain ⟨u, v, rfl, hs, hM, hR⟩ := h
  obtain ⟨a1, n1, rfl, l1, _⟩ := hM.open
  obtain ⟨a2, n2, rfl, l2, _⟩ := hR.open
  have HSZ := Lib.hid hs
  have H0 := Lib.hid (CpH.new w c a1 n1 a2 n2 d0 d1 d2)
  have HI := Lib.hid (fun (w2 : World) (hb : Below w.heap.size w w2) => show IsC w2 (.agg #[.string c.nm, .slice a1 c.ms.length n1, .slice a2 c.rs.length n2, .int .i64 c.wk]) c from ⟨_, _, rfl, hs, hM.keep hb, hR.keep hb⟩)
  clear hM hR hs
  have H1 := Lib.hid (H0.out.keep (bA (bR ((w.alloc (.cells #[.string c.nm, .slice a1 c.ms.length n1, .slice a2 c.rs.length n2, .int .i64 c.wk] 33)).alloc (.cells #[.int .i64 d0, .int .i64 d1, .int .i64 d2] 35))) (.cells #[.int .i64 b0, .int .i64 b1, .int .i64 b2] 35)))
  have R0 := Lib.hid (BoxL.at_ (w := (w.alloc (.cells #[.string c.nm, .slice a1 c.ms.length n1, .slice a2 c.rs.length n2, .int .i64 c.wk] 33)).alloc (.cells #[.int .i64 d0, .int .i64 d1, .int .i64 d2] 35)) (b := w.heap.size + 1 + 1) (vs := [.int .i64 b0, .int .i64 b1, .int .i64 b2]) (T := 35) (by simp))
  clear H0
  obtain ⟨c0, c1, c2, c3, c4, e0, e1, e2, e3, _⟩ := H1.out
  obtain ⟨f0, f1, f2, _⟩ := R0.out.c3
  go_enter Try.func25, Try.ntmps25
  go_wp2_with fail
  generalize ((w.alloc (.cells #[.string c.nm, .slice a1 c.ms.length n1, .slice a2 c.rs.length n2, .int .i64 c.wk] 33)).alloc (.cells #[.int .i64 d0, .int .i64 d1, .int .i64 d2] 35)).alloc (.cells #[.int .i64 b0, .int .i64 b1, .int .i64 b2] 35) = W0 at *
  refine (DayOfI_any c d0 d1 d2 _ _ (HI.out _ H1.out.bel) hb1).mono ?_
  rintro e w1 ⟨rfl, hb⟩
  have H2 := Lib.hid (H1.out.keep hb)
  have R1 := Lib.hid (R0.out.keep hb)
  clear c0 c1 c2 c3 c4 e0 e1 e2 e3 f0 f1 f2 H1 R0 hb
  have H1 := Lib.hid H2.out
  clear H2
  obtain ⟨c0, c1, c2, c3, c4, e0, e1, e2, e3, _⟩ := H1.out
  obtain ⟨f0, f1, f2, _⟩ := R1.out.c3
  generalize hA : (doE c d0 d1 d2).1 = A
  generalize hB : (doE c d0 d1 d2).2 = B
  cases h1 : okC c
  · have HN := Lib.hid (dbE_1 (a0 := d0) (a1 := d1) (a2 := d2) (b0 := b0) (b1 := b1) (b2 := b2) h1)
    obtain rfl : B = 1 := by rw [← hB, doE_1 h1]
    clear hA hB
    go_wp2_with fail
    go_ret2
    exact ⟨by rw [HN.out]; rfl, H1.out.bel⟩
  cases h2 : okD c d0 d1 d2
  · have HN := Lib.hid (dbE_2 (b0 := b0) (b1 := b1) (b2 := b2) h1 h2)
    obtain rfl : B = 2 := by rw [← hB, doE_2 h1 h2]
    clear hA hB
    go_wp2_with fail
    go_ret2
    exact ⟨by rw [HN.out]; rfl, H1.out.bel⟩
  obtain rfl : B = 0 := by rw [← hB, doE_0 h1 h2]
  obtain rfl : A = dyN c d0 d1 d2 := by rw [← hA, doE_0 h1 h2]
  clear hA hB
  go_wp2_with fail
  refine (DayOfI_any c b0 b1 b2 _ _ (HI.out _ H1.out.bel) hb2).mono ?_
  rintro e w2 ⟨rfl, hb⟩
  have H2 := Lib.hid (H1.out.keep hb)
  clear c0 c1 c2 c3 c4 e0 e1 e2 e3 f0 f1 f2 H1 R1 hb
  have H1 := Lib.hid H2.out
  clear H2
  generalize hA : (doE c b0 b1 b2).1 = A
  generalize hB : (doE c b0 b1 b2).2 = B
  cases h3 : okD c b0 b1 b2
  · have HN := Lib.hid (dbE_3 (a0 := d0) (a1 := d1) (a2 := d2) h1 h3)
    obtain rfl : B = 2 := by rw [← hB, doE_2 h1 h3]
    clear hA hB
    go_wp2_with fail
    go_ret2
    exact ⟨by rw [HN.out]; rfl, H1.out.bel⟩
  obtain rfl : B = 0 := by rw [← hB, doE_0 h1 h3]
  obtain rfl : A = dyN c b0 b1 b2 := by rw [← hA, doE_0 h1 h3]
  have HN := Lib.hid (dbE_0 h1 h2 h3)
  obtain ⟨_, _, _, g1, g2⟩ := dyN_bd h1 h2
  obtain ⟨_, _, _, g3, g4⟩ := dyN_bd h1 h3
  clear hA hB h1 h2 h3
  generalize dyN c d0 d1 d2 = n at *
  generalize dyN c b0 b1 b2 = m at *
  have v0 : IntKind.i64.wrap (m - n) = m - n := IntWalk.i64_in _ (by omega)
  go_wp2_with fail
  go_ret2
  exact ⟨by rw [HN.out]; rfl, H1.out.bel⟩
end Go.Proofs.Ytbkhejideffflaa

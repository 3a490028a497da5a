/-
  One swing, the program's side.
-/
import Derived.Test.YtkagciekoeaijaaEsAJ
import Derived.Test.YtkagciekoeaijaaEsB
namespace Go.Proofs.Ytkagciekoeaijaa
open Go.RowKit

theorem okQs_one (q : Int) : okQs [q] = inB q 0 1000 := by simp [okQs]
/-- One swing is a list of one. -/
theorem swE_sa (t u i l m q e k : Int) : swE t u i l m q e k = ((saE t u i l m [q] e k).1, (saE t u i l m [q] e k).2.1, (decide ((saE t u i l m [q] e k).2.2.2 = 0) && decide ((saE t u i l m [q] e k).2.2.1.length = 0)), (saE t u i l m [q] e k).2.2.2) := by
  cases h1 : okBt t u i l m e k
  · have c := cdE_1 (q := q) h1
    rw [saE_1 h1, swE_no (by omega), c]; rfl
  · cases h2 : inB q 0 1000
    · have c := cdE_2 h1 h2
      rw [saE_2 h1 (by rw [okQs_one]; exact h2), swE_no (by omega), c]; rfl
    · have c := cdE_0 h1 h2
      have h3 : okQs [q] = true := by rw [okQs_one]; exact h2
      cases ht : tkS u l q e
      · rw [swE_miss c ht, saE_0 h1 h3 (alF_miss ht)]; rfl
      · by_cases hk : k = 1000000000
        · rw [swE_full c ht hk, saE_5 h1 h3 (alF_full ht hk)]; rfl
        · rw [swE_tick c ht hk, saE_0 h1 h3 (alF_tick ht hk)]; rfl
theorem one_row (w : World) (q : Int) (T : TypeId) : Sl64 (w.alloc (.cells #[.int .i64 q] T)) (.slice (some ⟨w.heap.size, 0, none⟩) 1 1) [q] :=
  ⟨_, 1, rfl, fun _ => ⟨w.heap.size, rfl, by simp, fun i hi => by
    obtain rfl : i = 0 := by simp at hi; omega
    simp [go_sem, at0]⟩⟩
set_option maxRecDepth 100000 in
set_option maxHeartbeats 4000000 in
theorem SwingI_any (t u i l m q e k : Int) (w : World) :
    Calls Try.prog 19 #[.agg #[.int .i64 t, .int .i64 u, .int .i64 i, .int .i64 l, .int .i64 m], .int .i64 q, .agg #[.int .i64 e, .int .i64 k]] w (SgP (swE t u i l m q e k) w) := by
  have T0 := Lib.hid (show TrB3 w w.heap.size (w.heap.size + 1) (w.heap.size + 1 + 1) t u i l m e k (((w.alloc (.cells #[.int .i64 t, .int .i64 u, .int .i64 i, .int .i64 l, .int .i64 m] 25)).alloc (.cells #[.int .i64 e, .int .i64 k] 28)).alloc (.cells #[.int .i64 0, .int .i64 0] 28)) from
    ⟨((BoxL.new w [.int .i64 t, .int .i64 u, .int .i64 i, .int .i64 l, .int .i64 m] 25).alloc _).alloc _, (BoxL.at_ (w := w.alloc (.cells #[.int .i64 t, .int .i64 u, .int .i64 i, .int .i64 l, .int .i64 m] 25)) (b := w.heap.size + 1) (vs := [.int .i64 e, .int .i64 k]) (by simp)).alloc _, BoxL.at_ (vs := [.int .i64 0, .int .i64 0]) (by simp), bA (bA (bA (bR w) _) _) _⟩)
  have lw6 : w.heap.size ≤ w.heap.size + 1 + 1 := by omega
  have SA := Lib.hid (fun v W (h : Sl64 W v [q]) => SwingAlongI_any t u i l m e k [q] v W h (by simp))
  rw [swE_sa]
  generalize saE t u i l m [q] e k = R at *
  obtain ⟨x, y, ms, c⟩ := R
  unfold SaP at SA
  simp only at SA ⊢
  go_enter Try.func19, Try.ntmps19
  go_upto_region 1 with fail
  generalize ((w.alloc (.cells #[.int .i64 t, .int .i64 u, .int .i64 i, .int .i64 l, .int .i64 m] 25)).alloc (.cells #[.int .i64 e, .int .i64 k] 28)).alloc (.cells #[.int .i64 0, .int .i64 0] 28) = W0 at *
  generalize w.heap.size + 1 + 1 = b6 at *
  generalize w.heap.size + 1 = b5 at *
  obtain ⟨c0, c1, c2, c3, c4, c5⟩ := T0.out.1.c5
  obtain ⟨d0, d1, d2⟩ := T0.out.2.1.c2
  have n5 : ¬ b5 = W0.heap.size := by omega
  go_wp2_with fail
  refine (SA.out _ _ (one_row _ _ _)).mono ?_
  rintro en w1 ⟨v, rfl, hr, hb⟩
  have T1 := Lib.hid ((T0.out.keep (bA (bR _) _)).keep hb)
  clear hb T0 c0 c1 c2 c3 c4 c5 d0 d1 d2
  obtain ⟨ao, cp, rfl, _⟩ := sl64_of hr
  clear hr
  obtain ⟨z0, z1, z2⟩ := T1.out.2.2.1.c2
  obtain ⟨f0, f1⟩ := T1.out.2.2.1.f2
  have n6 : ¬ b6 = w1.heap.size := by omega
  have Z := Lib.hid (((T1.out.2.2.1.setE (i := 0) (v := .int .i64 x) rfl).setE (i := 1) (v := .int .i64 y) rfl).alloc (.cells #[.int .i64 x, .int .i64 y] 28)).c2
  by_cases hc : c = 0
  · have h0 : (c == 0) = true := by simpa using hc
    have h1 : decide (c = 0) = true := by simpa using hc
    have H2 := Lib.hid (show (((ms.length : Nat) : Int) == 0) = decide (ms.length = 0) by by_cases h : ms.length = 0 <;> simp [h])
    have h2 := Lib.hid h1
    clear hc h1
    go_wp2_with fail
    refine bodyPost_ret (v := .tuple #[.agg #[.int .i64 x, .int .i64 y], .bool (((ms.length : Nat) : Int) == 0), .int .i64 c]) ?_ rfl ⟨by rw [H2.out, h2.out, Bool.true_and], ?_⟩
    · have z := Z.out
      simp [results, Try.results19, go_sem, z.1, z.2.1]
    · exact bA (bsetS (bsetS T1.out.2.2.2 lw6) lw6) _
  · have h0 : (c == 0) = false := by simpa using hc
    have h1 : decide (c = 0) = false := by simpa using hc
    have h2 := Lib.hid h1
    clear hc h1
    go_wp2_with fail
    refine bodyPost_ret (v := .tuple #[.agg #[.int .i64 x, .int .i64 y], .bool false, .int .i64 c]) ?_ rfl ⟨by rw [h2.out, Bool.false_and], ?_⟩
    · have z := Z.out
      simp [results, Try.results19, go_sem, z.1, z.2.1]
    · exact bA (bsetS (bsetS T1.out.2.2.2 lw6) lw6) _
end Go.Proofs.Ytkagciekoeaijaa

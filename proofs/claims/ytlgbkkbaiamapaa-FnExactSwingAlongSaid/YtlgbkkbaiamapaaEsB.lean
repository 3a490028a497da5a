/-
  One swing, the document's side.
-/
import Derived.Test.YtlgbkkbaiamapaaEsU
namespace Go.Proofs.Ytlgbkkbaiamapaa
open Go.RowKit

/-- Three boxes. -/
def TrB3 (w : World) (b3 b5 b6 : Nat) (t u i l m e k : Int) (w' : World) : Prop := BoxL w' b3 [.int .i64 t, .int .i64 u, .int .i64 i, .int .i64 l, .int .i64 m] ∧ BoxL w' b5 [.int .i64 e, .int .i64 k] ∧ BoxL w' b6 [.int .i64 0, .int .i64 0] ∧ Below w.heap.size w w'
theorem TrB3.keep {w : World} {b3 b5 b6 : Nat} {t u i l m e k : Int} {w' w2 : World} (hb : Below w'.heap.size w' w2) (H : TrB3 w b3 b5 b6 t u i l m e k w') : TrB3 w b3 b5 b6 t u i l m e k w2 := ⟨H.1.keep hb, H.2.1.keep hb, H.2.2.1.keep hb, bT H.2.2.2 hb⟩
theorem bsetS {w w' : World} {b o : Nat} {v : Value} (h : Below w.heap.size w w') (hn : w.heap.size ≤ b) : Below w.heap.size w (w'.setCell ⟨b, o, none⟩ v) := h.setCell hn v
/-- What Swing returns: energy, ticks, whether it ticked, the code. -/
def swE (t u i l m q e k : Int) : Int × Int × Bool × Int := if cdE t u i l m q e k = 0 then (if tkS u l q e = true then (if k = 1000000000 then (0, 0, false, 5) else (nxS u i l m q e, k + 1, true, 0)) else (nxS u i l m q e, k, false, 0)) else (0, 0, false, cdE t u i l m q e k)
theorem swE_no {t u i l m q e k : Int} (h : ¬ cdE t u i l m q e k = 0) : swE t u i l m q e k = (0, 0, false, cdE t u i l m q e k) := by simp [swE, h]
theorem swE_miss {t u i l m q e k : Int} (h : cdE t u i l m q e k = 0) (ht : tkS u l q e = false) : swE t u i l m q e k = (nxS u i l m q e, k, false, 0) := by simp [swE, h, ht]
theorem swE_full {t u i l m q e k : Int} (h : cdE t u i l m q e k = 0) (ht : tkS u l q e = true) (hk : k = 1000000000) : swE t u i l m q e k = (0, 0, false, 5) := by unfold swE; rw [if_pos h, if_pos ht, if_pos hk]
theorem swE_tick {t u i l m q e k : Int} (h : cdE t u i l m q e k = 0) (ht : tkS u l q e = true) (hk : ¬ k = 1000000000) : swE t u i l m q e k = (nxS u i l m q e, k + 1, true, 0) := by simp [swE, h, ht, hk]
def SgP (r : Int × Int × Bool × Int) (w : World) (en : Ending) (w' : World) : Prop := en = .returned (.tuple #[.agg #[.int .i64 r.1, .int .i64 r.2.1], .bool r.2.2.1, .int .i64 r.2.2.2]) ∧ Below w.heap.size w w'
set_option maxRecDepth 100000 in
set_option maxHeartbeats 4000000 in
theorem SwingS_any (t u i l m q e k : Int) (w : World) :
    Calls Try.prog 17 #[.agg #[.int .i64 t, .int .i64 u, .int .i64 i, .int .i64 l, .int .i64 m], .int .i64 q, .agg #[.int .i64 e, .int .i64 k]] w (SgP (swE t u i l m q e k) w) := by
  have CO := Lib.hid (fun W => l11Code_any t u i l m q e k W)
  have T0 := Lib.hid (show TrB3 w w.heap.size (w.heap.size + 1) (w.heap.size + 1 + 1) t u i l m e k (((w.alloc (.cells #[.int .i64 t, .int .i64 u, .int .i64 i, .int .i64 l, .int .i64 m] 25)).alloc (.cells #[.int .i64 e, .int .i64 k] 31)).alloc (.cells #[.int .i64 0, .int .i64 0] 31)) from
    ⟨((BoxL.new w [.int .i64 t, .int .i64 u, .int .i64 i, .int .i64 l, .int .i64 m] 25).alloc _).alloc _, (BoxL.at_ (w := w.alloc (.cells #[.int .i64 t, .int .i64 u, .int .i64 i, .int .i64 l, .int .i64 m] 25)) (b := w.heap.size + 1) (vs := [.int .i64 e, .int .i64 k]) (by simp)).alloc _, BoxL.at_ (vs := [.int .i64 0, .int .i64 0]) (by simp), bA (bA (bA (bR w) _) _) _⟩)
  have n36 : ¬ w.heap.size = w.heap.size + 1 + 1 := by omega
  have n56 : ¬ w.heap.size + 1 = w.heap.size + 1 + 1 := by omega
  have lw6 : w.heap.size ≤ w.heap.size + 1 + 1 := by omega
  by_cases hc : cdE t u i l m q e k = 0
  · have SM := Lib.hid (swE_miss hc)
    have SF := Lib.hid (swE_full hc)
    have ST := Lib.hid (swE_tick hc)
    rw [hc] at CO
    obtain ⟨h1, h2⟩ := cdE_of hc
    obtain ⟨hE, he, hk⟩ := okBt_bd h1
    have SW := Lib.hid (fun W => l11Swing_any t u i l m q e W hE he (inB_true.1 h2))
    clear hE he h1 h2 hc
    generalize nxS u i l m q e = x at *
    generalize swE t u i l m q e k = R at *
    go_enter Try.func17, Try.ntmps17
    go_wp2_with fail
    generalize ((w.alloc (.cells #[.int .i64 t, .int .i64 u, .int .i64 i, .int .i64 l, .int .i64 m] 25)).alloc (.cells #[.int .i64 e, .int .i64 k] 31)).alloc (.cells #[.int .i64 0, .int .i64 0] 31) = W0 at *
    generalize w.heap.size + 1 + 1 = b6 at *
    generalize w.heap.size + 1 = b5 at *
    refine (CO.out _).mono ?_
    rintro en w1 ⟨rfl, hb⟩
    have T1 := Lib.hid (T0.out.keep hb)
    clear hb T0
    obtain ⟨c0, c1, c2, c3, c4, c5⟩ := T1.out.1.c5
    obtain ⟨d0, d1, d2⟩ := T1.out.2.1.c2
    go_wp2_with fail
    refine (SW.out _).mono ?_
    rintro en w2 ⟨rfl, hb⟩
    have T2 := Lib.hid (T1.out.keep hb)
    clear hb T1 c0 c1 c2 c3 c4 c5 d0 d1 d2
    obtain ⟨d0, d1, d2⟩ := T2.out.2.1.c2
    obtain ⟨z0, z1, z2⟩ := T2.out.2.2.1.c2
    obtain ⟨f0, f1⟩ := T2.out.2.2.1.f2
    cases ht : tkS u l q e
    · have HN := Lib.hid (SM.out ht)
      go_wp2_with fail
      refine bodyPost_ret (v := .tuple #[.agg #[.int .i64 x, .int .i64 k], .bool false, .int .i64 0]) ?_ rfl ⟨by rw [HN.out], ?_⟩
      · simp [results, Try.results17, go_sem, z0, z1]
      · exact bsetS (bsetS T2.out.2.2.2 lw6) lw6
    · by_cases hk1 : k = 1000000000
      · have HN := Lib.hid (SF.out ht hk1)
        have hq1 : (k == 1000000000) = true := by simpa using hk1
        clear hk1
        go_wp2_with fail
        refine bodyPost_ret (v := .tuple #[.agg #[.int .i64 0, .int .i64 0], .bool false, .int .i64 5]) ?_ rfl ⟨by rw [HN.out], ?_⟩
        · simp [results, Try.results17, go_sem, z0, z1]
        · exact bsetS (bsetS T2.out.2.2.2 lw6) lw6
      · have HN := Lib.hid (ST.out ht hk1)
        have hq1 : (k == 1000000000) = false := by simpa using hk1
        go_wp2_with fail
        refine bodyPost_ret (v := .tuple #[.agg #[.int .i64 x, .int .i64 (k + 1)], .bool true, .int .i64 0]) ?_ rfl ⟨by rw [HN.out], ?_⟩
        · simp [results, Try.results17, go_sem, z0, z1]
        · exact bsetS (bsetS T2.out.2.2.2 lw6) lw6
  · rw [swE_no hc]
    generalize cdE t u i l m q e k = z at *
    have hz : (z != 0) = true := by simpa using hc
    go_enter Try.func17, Try.ntmps17
    go_wp2_with fail
    generalize ((w.alloc (.cells #[.int .i64 t, .int .i64 u, .int .i64 i, .int .i64 l, .int .i64 m] 25)).alloc (.cells #[.int .i64 e, .int .i64 k] 31)).alloc (.cells #[.int .i64 0, .int .i64 0] 31) = W0 at *
    generalize w.heap.size + 1 + 1 = b6 at *
    refine (CO.out _).mono ?_
    rintro en w1 ⟨rfl, hb⟩
    have T1 := Lib.hid (T0.out.keep hb)
    clear hb T0
    obtain ⟨z0, z1, z2⟩ := T1.out.2.2.1.c2
    obtain ⟨f0, f1⟩ := T1.out.2.2.1.f2
    go_wp2_with fail
    refine bodyPost_ret (v := .tuple #[.agg #[.int .i64 0, .int .i64 0], .bool false, .int .i64 z]) ?_ rfl ⟨rfl, ?_⟩
    · simp [results, Try.results17, go_sem, z0, z1]
    · exact bsetS (bsetS T1.out.2.2.2 lw6) lw6
end Go.Proofs.Ytlgbkkbaiamapaa

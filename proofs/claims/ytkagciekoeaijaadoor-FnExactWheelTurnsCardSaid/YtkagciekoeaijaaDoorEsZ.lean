/-
  Turns of the escape wheel: both sides.
-/
import Derived.Test.YtkagciekoeaijaaDoorEsC
import Derived.Test.YtkagciekoeaijaaDoorMakeR
namespace Go.Proofs.YtkagciekoeaijaaDoor
open Go.RowKit

/-- Terms of the turns, and code. -/
def wtE (t u i l m e k : Int) : Int × Int × Int := if okBt t u i l m e k = true then (rA k (2 * t), rB k (2 * t), rC k (2 * t)) else (0, 0, 1)
theorem wtE_1 {t u i l m e k : Int} (h : okBt t u i l m e k = false) : wtE t u i l m e k = (0, 0, 1) := by simp [wtE, h]
theorem wtE_0 {t u i l m e k : Int} (h : okBt t u i l m e k = true) : wtE t u i l m e k = (rA k (2 * t), rB k (2 * t), rC k (2 * t)) := by simp [wtE, h]
def TrZ (w : World) (b c d : Nat) (t u i l m e k : Int) (w' : World) : Prop := EbH w b c t u i l m e k w' ∧ BoxL w' d [.int .i64 0, .int .i64 0]
theorem TrZ.keep {w : World} {b c d : Nat} {t u i l m e k : Int} {w' w2 : World} (H : TrZ w b c d t u i l m e k w') (hb : Below w'.heap.size w' w2) : TrZ w b c d t u i l m e k w2 := ⟨H.1.keep hb, H.2.keep hb⟩
theorem TrZ.new (w : World) (t u i l m e k : Int) (T T2 T3 : TypeId) : TrZ w w.heap.size (w.heap.size + 1) (w.heap.size + 1 + 1) t u i l m e k (((w.alloc (.cells #[.int .i64 t, .int .i64 u, .int .i64 i, .int .i64 l, .int .i64 m] T)).alloc (.cells #[.int .i64 e, .int .i64 k] T2)).alloc (.cells #[.int .i64 0, .int .i64 0] T3)) :=
  ⟨EbH.keep (bA (bR _) _) (EbH.new w t u i l m e k T T2), BoxL.at_ (vs := [.int .i64 0, .int .i64 0]) (by simp)⟩
def WtBl (r : Int × Int × Int) (w : World) : Ending → World → Prop := fun en w' => en = .returned (.tuple #[.agg #[.int .i64 r.1, .int .i64 r.2.1], .int .i64 r.2.2]) ∧ Below w.heap.size w w'
set_option maxRecDepth 100000 in
set_option maxHeartbeats 4000000 in
theorem WheelTurnsS_any (t u i l m e k : Int) (w : World) :
    Calls Tryd.prog 15 #[.agg #[.int .i64 t, .int .i64 u, .int .i64 i, .int .i64 l, .int .i64 m], .agg #[.int .i64 e, .int .i64 k]] w (WtBl (wtE t u i l m e k) w) := by
  unfold WtBl
  have CO := Lib.hid (fun W => l11Beat_any t u i l m e k W)
  have H0 := Lib.hid (TrZ.new w t u i l m e k 25 27 41)
  have lw6 : w.heap.size ≤ w.heap.size + 1 + 1 := by omega
  cases h1 : okBt t u i l m e k
  · rw [wtE_1 h1]
    rw [h1] at CO
    go_enter Tryd.func15, Tryd.ntmps15
    go_wp2_with fail
    generalize ((w.alloc (.cells #[.int .i64 t, .int .i64 u, .int .i64 i, .int .i64 l, .int .i64 m] 25)).alloc (.cells #[.int .i64 e, .int .i64 k] 27)).alloc (.cells #[.int .i64 0, .int .i64 0] 41) = W0 at *
    generalize w.heap.size + 1 + 1 = b6 at *
    generalize w.heap.size + 1 = b5 at *
    refine (CO.out _).mono ?_
    rintro en w1 ⟨rfl, hb⟩
    have H1 := Lib.hid (H0.out.keep hb)
    have L := Lib.hid H1.out.1.bel
    obtain ⟨z0, z1, z2⟩ := H1.out.2.c2
    obtain ⟨f0, f1⟩ := H1.out.2.f2
    clear hb H0 H1
    go_wp2_with fail
    refine bodyPost_ret (v := .tuple #[.agg #[.int .i64 0, .int .i64 0], .int .i64 1]) ?_ rfl ⟨rfl, ?_⟩
    · simp [results, Tryd.results15, go_sem, z0, z1]
    first | exact L.out | exact bA L.out _ | exact (L.out.setCell lw6 _).setCell lw6 _
  rw [wtE_0 h1]
  rw [h1] at CO
  obtain ⟨hE, he, hk⟩ := okBt_bd h1
  have ht := hE.ht
  have hw : IntKind.i64.wrap (2 * t) = 2 * t := IntWalk.i64_in _ (by omega)
  have HM := Lib.hid (r_make (n := k) (d := 2 * t) (by omega))
  go_enter Tryd.func15, Tryd.ntmps15
  go_wp2_with fail
  generalize ((w.alloc (.cells #[.int .i64 t, .int .i64 u, .int .i64 i, .int .i64 l, .int .i64 m] 25)).alloc (.cells #[.int .i64 e, .int .i64 k] 27)).alloc (.cells #[.int .i64 0, .int .i64 0] 41) = W0 at *
  generalize w.heap.size + 1 + 1 = b6 at *
  generalize w.heap.size + 1 = b5 at *
  refine (CO.out _).mono ?_
  rintro en w1 ⟨rfl, hb⟩
  have H1 := Lib.hid (H0.out.keep hb)
  clear hb H0
  obtain ⟨c0, c1, c2, c3, c4, c5, c6⟩ := H1.out.1.cells
  go_wp2_with fail
  try rw [hw]
  refine (l02Make_any k (2 * t) _ (by omega) (by omega) (by omega) (by omega) (by omega)).mono ?_
  rintro en w2 ⟨rfl, hb⟩
  have H2 := Lib.hid (H1.out.keep hb)
  clear hb c0 c1 c2 c3 c4 c5 c6 H1
  go_wp2_with fail
  refine (l02Code_any _ _ _ _).mono ?_
  rintro en w3 ⟨rfl, hb⟩
  have H3 := Lib.hid (H2.out.keep hb)
  have L := Lib.hid H3.out.1.bel
  obtain ⟨z0, z1, z2⟩ := H3.out.2.c2
  obtain ⟨f0, f1⟩ := H3.out.2.f2
  clear hb H2 H3
  generalize (if lowOk k (2 * t) = true then mkA k (2 * t) else 0) = a at *
  generalize (if lowOk k (2 * t) = true then mkB k (2 * t) else 0) = b at *
  generalize (if lowOk k (2 * t) = true then (0 : Int) else 2) = c at *
  go_wp2_with fail
  refine bodyPost_ret (v := .tuple #[.agg #[.int .i64 a, .int .i64 b], .int .i64 c]) (by simp [results, Tryd.results15, go_sem, z0, z1]) rfl ⟨ret_rc HM.out.1.symm HM.out.2.1.symm HM.out.2.2.symm, ?_⟩
  first | exact L.out | exact bA L.out _ | exact (L.out.setCell (by omega) _).setCell (by omega) _
set_option maxRecDepth 100000 in
set_option maxHeartbeats 4000000 in
theorem WheelTurnsI_any (t u i l m e k : Int) (w : World) (a0 a1 : Addr) (hS : Sent w a0 a1) :
    Calls Tryd.prog 14 #[.agg #[.int .i64 t, .int .i64 u, .int .i64 i, .int .i64 l, .int .i64 m], .agg #[.int .i64 e, .int .i64 k]] w (WtBl (wtE t u i l m e k) w) := by
  unfold WtBl
  have CO := Lib.hid (fun W => ValidBeatI_any t u i l m e k W)
  have HS := Lib.hid hS
  clear hS
  have H0 := Lib.hid (TrZ.new w t u i l m e k 25 27 41)
  have lw6 : w.heap.size ≤ w.heap.size + 1 + 1 := by omega
  cases h1 : okBt t u i l m e k
  · rw [wtE_1 h1]
    rw [h1] at CO
    go_enter Tryd.func14, Tryd.ntmps14
    go_wp2_with fail
    generalize ((w.alloc (.cells #[.int .i64 t, .int .i64 u, .int .i64 i, .int .i64 l, .int .i64 m] 25)).alloc (.cells #[.int .i64 e, .int .i64 k] 27)).alloc (.cells #[.int .i64 0, .int .i64 0] 41) = W0 at *
    generalize w.heap.size + 1 + 1 = b6 at *
    generalize w.heap.size + 1 = b5 at *
    refine (CO.out _).mono ?_
    rintro en w1 ⟨rfl, hb⟩
    have H1 := Lib.hid (H0.out.keep hb)
    have L := Lib.hid H1.out.1.bel
    obtain ⟨z0, z1, z2⟩ := H1.out.2.c2
    obtain ⟨f0, f1⟩ := H1.out.2.f2
    clear hb H0 H1
    go_wp2_with fail
    refine bodyPost_ret (v := .tuple #[.agg #[.int .i64 0, .int .i64 0], .int .i64 1]) ?_ rfl ⟨rfl, ?_⟩
    · simp [results, Tryd.results14, go_sem, z0, z1]
    first | exact L.out | exact bA L.out _ | exact (L.out.setCell lw6 _).setCell lw6 _
  rw [wtE_0 h1]
  rw [h1] at CO
  obtain ⟨hE, he, hk⟩ := okBt_bd h1
  have ht := hE.ht
  have hw : IntKind.i64.wrap (2 * t) = 2 * t := IntWalk.i64_in _ (by omega)
  go_enter Tryd.func14, Tryd.ntmps14
  go_wp2_with fail
  generalize ((w.alloc (.cells #[.int .i64 t, .int .i64 u, .int .i64 i, .int .i64 l, .int .i64 m] 25)).alloc (.cells #[.int .i64 e, .int .i64 k] 27)).alloc (.cells #[.int .i64 0, .int .i64 0] 41) = W0 at *
  generalize w.heap.size + 1 + 1 = b6 at *
  generalize w.heap.size + 1 = b5 at *
  refine (CO.out _).mono ?_
  rintro en w1 ⟨rfl, hb⟩
  have H1 := Lib.hid (H0.out.keep hb)
  have S1 := Lib.hid (HS.out.keep H1.out.1.bel)
  clear hb H0
  obtain ⟨c0, c1, c2, c3, c4, c5, c6⟩ := H1.out.1.cells
  go_wp2_with fail
  try rw [hw]
  refine (MakeRatioI_any k (2 * t) _ a0 a1 S1.out (by omega) (by omega) (by omega) (by omega)).mono ?_
  rintro en w2 ⟨rfl, hb⟩
  have H3 := Lib.hid (H1.out.keep hb)
  have L := Lib.hid H3.out.1.bel
  obtain ⟨z0, z1, z2⟩ := H3.out.2.c2
  obtain ⟨f0, f1⟩ := H3.out.2.f2
  clear hb c0 c1 c2 c3 c4 c5 c6 H1 H3
  go_wp2_with fail
  refine bodyPost_ret (v := .tuple #[.agg #[.int .i64 (rA k (2 * t)), .int .i64 (rB k (2 * t))], .int .i64 (rC k (2 * t))]) (by simp [results, Tryd.results14, go_sem, z0, z1]) rfl ⟨rfl, ?_⟩
  first | exact L.out | exact bA L.out _ | exact (L.out.setCell (by omega) _).setCell (by omega) _
end Go.Proofs.YtkagciekoeaijaaDoor

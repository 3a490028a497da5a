/-
  Escapements, the program's side: settle.
-/
import Derived.Test.YtlgbkkbaiamapaaEsO
import Derived.Test.YtlgbkkbaiamapaaEsT
import Derived.WalkMore
import Derived.ScopeJumps
namespace Go.Proofs.Ytlgbkkbaiamapaa
open Go.RowKit

/-- What settle returns. -/
def SeP (r : Int × Nat × Bool) (k : Int) (w : World) (en : Ending) (w' : World) : Prop := en = .returned (.tuple #[.agg #[.int .i64 r.1, .int .i64 (k + (r.2.1 : Int))], .bool r.2.2]) ∧ Below w.heap.size w w'
/-- A whole swing by two functions. -/
def NxF (f : Int → Int) (g : Int → Bool) (e k : Int) (w : World) (en : Ending) (w' : World) : Prop := en = .returned (.tuple #[.agg #[.int .i64 (f e), .int .i64 (if g e = true then k + 1 else k)], .bool (g e)]) ∧ Below w.heap.size w w'
/-- The number in a box's first cell. -/
def cel0 (b : Nat) (w : World) : Nat := match w.cell? ⟨b, 0, none⟩ with | some (.int _ x) => x.toNat | _ => 0
theorem cel0_of {b : Nat} {w : World} {x : Int} (h : w.cell? ⟨b, 0, none⟩ = some (.int .i64 x)) : cel0 b w = x.toNat := by unfold cel0; rw [h]
/-- What stands at the label of settle. -/
def SeR (f : Int → Int) (g : Int → Bool) (m e k e1 k1 : Int) (n : Nat) : Prop :=
  (0 ≤ e1 ∧ e1 ≤ m) ∧ k1 = k + (n : Int) ∧ (n : Int) + e1 ≤ e ∧ (stlF f g e1).1 = (stlF f g e).1 ∧ (stlF f g e1).2.1 + n = (stlF f g e).2.1 ∧ (stlF f g e1).2.2 = (stlF f g e).2.2
theorem SeR.next {f : Int → Int} {g : Int → Bool} {m e k e1 k1 : Int} {n : Nat} (H : SeR f g m e k e1 k1 n) (hg : g e1 = true) (h0 : 0 ≤ f e1) (hlt : f e1 < e1) : SeR f g m e k (f e1) (k1 + 1) (n + 1) := by
  obtain ⟨h1, h2, h3, h4, h5, h6⟩ := H
  have hG := stlF_go (f := f) (t := g) hg ⟨h0, hlt⟩
  rw [hG] at h4 h5 h6
  simp only at h4 h5 h6
  exact ⟨⟨h0, by omega⟩, by omega, by omega, h4, by omega, h6⟩
/-- Three boxes. -/
def TrB (w : World) (b3 b5 b6 : Nat) (t u i l m e k : Int) (w' : World) : Prop := BoxL w' b3 [.int .i64 t, .int .i64 u, .int .i64 i, .int .i64 l, .int .i64 m] ∧ BoxL w' b5 [.int .i64 e, .int .i64 k] ∧ BoxL w' b6 [.int .i64 0, .int .i64 0] ∧ Below w.heap.size w w'
theorem TrB.keep {w : World} {b3 b5 b6 : Nat} {t u i l m e k : Int} {w' w2 : World} (hb : Below w'.heap.size w' w2) (H : TrB w b3 b5 b6 t u i l m e k w') : TrB w b3 b5 b6 t u i l m e k w2 := ⟨H.1.keep hb, H.2.1.keep hb, H.2.2.1.keep hb, bT H.2.2.2 hb⟩
def SeJ (w : World) (b3 b5 b6 : Nat) (f : Int → Int) (g : Int → Bool) (t u i l m q e k : Int) (a' : Act) (w' : World) : Prop :=
  ∃ (e1 k1 : Int) (n : Nat) (u8 u9 u10 u11 u12 u13 u14 u15 u16 u17 u18 u19 u20 u21 u22 u23 u24 u25 u26 u27 : Value), (a' = { tmps := #[.agg #[.int .i64 t, .int .i64 u, .int .i64 i, .int .i64 l, .int .i64 m], .int .i64 q, .agg #[.int .i64 e, .int .i64 k], .pointer (some ⟨b3, 0, none⟩), undef, .pointer (some ⟨b5, 0, none⟩), .pointer (some ⟨b6, 0, none⟩), .bool false, u8, u9, u10, u11, u12, u13, u14, u15, u16, u17, u18, u19, u20, u21, u22, u23, u24, u25, u26, u27], defers := [] }) ∧ SeR f g m e k e1 k1 n ∧ TrB w b3 b5 b6 t u i l m e1 k1 w'
set_option maxRecDepth 100000 in
set_option maxHeartbeats 4000000 in
theorem settle_any (t u i l m q e k : Int) (w : World) (H : Esc t u i l m) (he : 0 ≤ e ∧ e ≤ m) (hq : 0 ≤ q ∧ q ≤ 1000) (hk : 0 ≤ k ∧ k ≤ 1000000000) :
    Calls Try.prog 44 #[.agg #[.int .i64 t, .int .i64 u, .int .i64 i, .int .i64 l, .int .i64 m], .int .i64 q, .agg #[.int .i64 e, .int .i64 k]] w (SeP (stlF (nxS u i l m q) (tkS u l q) e) k w) := by
  have HF := Lib.hid (monF H hq)
  have NX := Lib.hid (fun e k W (he : 0 ≤ e ∧ e ≤ m) (hk : 0 ≤ k ∧ k ≤ 9000000000) => show Calls Try.prog 43 #[.agg #[.int .i64 t, .int .i64 u, .int .i64 i, .int .i64 l, .int .i64 m], .int .i64 q, .agg #[.int .i64 e, .int .i64 k]] W (NxF (nxS u i l m q) (tkS u l q) e k W) from next_any t u i l m e k q W H he hq hk)
  have HM := Lib.hid H.hm.2
  have HK := Lib.hid hk
  have T0 := Lib.hid (show TrB w w.heap.size (w.heap.size + 1) (w.heap.size + 1 + 1) t u i l m e k (((w.alloc (.cells #[.int .i64 t, .int .i64 u, .int .i64 i, .int .i64 l, .int .i64 m] 25)).alloc (.cells #[.int .i64 e, .int .i64 k] 31)).alloc (.cells #[.int .i64 0, .int .i64 0] 31)) from
    ⟨((BoxL.new w [.int .i64 t, .int .i64 u, .int .i64 i, .int .i64 l, .int .i64 m] 25).alloc _).alloc _, (BoxL.at_ (w := w.alloc (.cells #[.int .i64 t, .int .i64 u, .int .i64 i, .int .i64 l, .int .i64 m] 25)) (b := w.heap.size + 1) (vs := [.int .i64 e, .int .i64 k]) (by simp)).alloc _, BoxL.at_ (vs := [.int .i64 0, .int .i64 0]) (by simp), bA (bA (bA (bR w) _) _) _⟩)
  have R0 := Lib.hid (show SeR (nxS u i l m q) (tkS u l q) m e k e k 0 from ⟨he, by omega, by omega, rfl, rfl, rfl⟩)
  clear H hq hk
  generalize nxS u i l m q = f at *
  generalize tkS u l q = g at *
  go_enter Try.func44, Try.ntmps44
  go_wp2_with fail
  generalize ((w.alloc (.cells #[.int .i64 t, .int .i64 u, .int .i64 i, .int .i64 l, .int .i64 m] 25)).alloc (.cells #[.int .i64 e, .int .i64 k] 31)).alloc (.cells #[.int .i64 0, .int .i64 0] 31) = W0 at *
  have n35 : ¬ w.heap.size = w.heap.size + 1 := by omega
  have n36 : ¬ w.heap.size = w.heap.size + 1 + 1 := by omega
  have n56 : ¬ w.heap.size + 1 = w.heap.size + 1 + 1 := by omega
  have lw5 : w.heap.size ≤ w.heap.size + 1 := by omega
  have lw6 : w.heap.size ≤ w.heap.size + 1 + 1 := by omega
  generalize w.heap.size + 1 + 1 = b6 at *
  generalize w.heap.size + 1 = b5 at *
  refine wp_scope_jumps 0 (SeJ w w.heap.size b5 b6 f g t u i l m q e k) (fun _ w' => cel0 b5 w') rfl ?_ ?_
  · refine wp_seq (wp_label ?_)
    obtain ⟨e1, k1, n, hr, hT⟩ : ∃ e1 k1 n, SeR f g m e k e1 k1 n ∧ TrB w w.heap.size b5 b6 t u i l m e1 k1 W0 := ⟨e, k, 0, R0.out, T0.out⟩
    clear T0 R0
    have HR := Lib.hid hr
    have h3 := hr.2.2.1
    have h2 := hr.2.1
    have hx := hr.1
    have hk0 := HK.out
    have hm0 := HM.out
    have N1 := Lib.hid (fun W => NX.out e1 k1 W hx (by omega))
    have hmm : 0 ≤ k1 ∧ k1 ≤ 1000100000 := by omega
    clear hr h3 h2 hk0 hm0
    obtain ⟨c0, c1, c2, c3, c4, c5⟩ := hT.1.c5
    obtain ⟨d0, d1, d2⟩ := hT.2.1.c2
    have T1 := Lib.hid hT
    clear hT
    go_wp2_with fail
    refine (N1.out _).mono ?_
    rintro en w1 ⟨rfl, hb⟩
    have T2 := Lib.hid (T1.out.keep hb)
    clear hb c0 c1 c2 c3 c4 c5 d0 d1 d2
    obtain ⟨d0, d1, d2⟩ := T2.out.2.1.c2
    obtain ⟨f0, f1⟩ := T2.out.2.1.f2
    obtain ⟨j0, j1, j2⟩ := T2.out.2.2.1.c2
    obtain ⟨q0, q1⟩ := T2.out.2.2.1.f2
    have hb0 := HF.out.bd e1 hx.1 hx.2
    have n5 : ¬ b5 = w1.heap.size := by omega
    have n6 : ¬ b6 = w1.heap.size := by omega
    cases hg : g e1
    · obtain ⟨g1, g2, g3⟩ := HR.out.2.2.2
      rw [stlF_no hg] at g1 g2 g3
      simp only at g1 g2 g3
      have HV := Lib.hid (show SeP (e1, n, false) k w = SeP (stlF f g e) k w by rw [show stlF f g e = (e1, n, false) from Prod.ext g1.symm (Prod.ext (by simp only; omega) g3.symm)])
      have HK2 := Lib.hid HR.out.2.1
      clear g1 g2 g3
      have Z := Lib.hid (((T2.out.2.2.1.setE (i := 0) (v := .int .i64 e1) rfl).setE (i := 1) (v := .int .i64 k1) rfl).alloc (.cells #[.int .i64 (f e1), .int .i64 (k1)] 31)).c2
      go_wp2_with fail
      simp only [Exit.jump]
      refine bodyPost_ret (v := .tuple #[.agg #[.int .i64 e1, .int .i64 k1], .bool false]) ?_ rfl (HV.out ▸ ⟨by rw [HK2.out], ?_⟩)
      · have z := Z.out
        simp [results, Try.results44, go_sem, z.1, z.2.1]
      · exact bA (bsetE (bsetE T2.out.2.2.2 lw6) lw6) _
    · by_cases hlt : f e1 < e1
      · have HN := Lib.hid (HR.out.next hg hb0.1 hlt)
        have Z5 := Lib.hid (show BoxL (((w1.setCell ⟨b5, 0, none⟩ (.int .i64 (f e1))).setCell ⟨b5, 1, none⟩ (.int .i64 (k1 + 1))).alloc (.cells #[.int .i64 (f e1), .int .i64 (k1 + 1)] 31)) b5 [.int .i64 (f e1), .int .i64 (k1 + 1)] from ((T2.out.2.1.setE (i := 0) (v := .int .i64 (f e1)) rfl).setE (i := 1) (v := .int .i64 (k1 + 1)) rfl).alloc _)
        have Z3 := Lib.hid (show BoxL (((w1.setCell ⟨b5, 0, none⟩ (.int .i64 (f e1))).setCell ⟨b5, 1, none⟩ (.int .i64 (k1 + 1))).alloc (.cells #[.int .i64 (f e1), .int .i64 (k1 + 1)] 31)) w.heap.size [.int .i64 t, .int .i64 u, .int .i64 i, .int .i64 l, .int .i64 m] from ((T2.out.1.other n35).other n35).alloc _)
        have Z6 := Lib.hid (show BoxL (((w1.setCell ⟨b5, 0, none⟩ (.int .i64 (f e1))).setCell ⟨b5, 1, none⟩ (.int .i64 (k1 + 1))).alloc (.cells #[.int .i64 (f e1), .int .i64 (k1 + 1)] 31)) b6 [.int .i64 0, .int .i64 0] from ((T2.out.2.2.1.other (Ne.symm n56)).other (Ne.symm n56)).alloc _)
        have ZB := Lib.hid (bA (bsetE (o := 1) (v := .int .i64 (k1 + 1)) (bsetE (o := 0) (v := .int .i64 (f e1)) T2.out.2.2.2 lw5) lw5) (.cells #[.int .i64 (f e1), .int .i64 (k1 + 1)] 31))
        have M0 := Lib.hid (cel0_of (Z5.out.c 0 _ rfl))
        go_wp2_with fail
        go_step3
        refine ⟨rfl, ?_⟩
        exact ⟨_, _, _, _, _, _, _, _, _, _, _, _, _, _, _, _, _, _, _, _, _, _, _, rfl, HN.out, Z3.out, Z5.out, Z6.out, ZB.out⟩
      · obtain ⟨g1, g2, g3⟩ := HR.out.2.2.2
        rw [stlF_end hg hlt] at g1 g2 g3
        simp only at g1 g2 g3
        have HV := Lib.hid (show SeP (e1, n, true) k w = SeP (stlF f g e) k w by rw [show stlF f g e = (e1, n, true) from Prod.ext g1.symm (Prod.ext (by simp only; omega) g3.symm)])
        have HK2 := Lib.hid HR.out.2.1
        clear g1 g2 g3
        have Z := Lib.hid (((T2.out.2.2.1.setE (i := 0) (v := .int .i64 e1) rfl).setE (i := 1) (v := .int .i64 k1) rfl).alloc (.cells #[.int .i64 (f e1), .int .i64 (k1 + 1)] 31)).c2
        go_wp2_with fail
        simp only [Exit.jump]
        refine bodyPost_ret (v := .tuple #[.agg #[.int .i64 e1, .int .i64 k1], .bool true]) ?_ rfl (HV.out ▸ ⟨by rw [HK2.out], ?_⟩)
        · have z := Z.out
          simp [results, Try.results44, go_sem, z.1, z.2.1]
        · exact bA (bsetE (bsetE T2.out.2.2.2 lw6) lw6) _
  · rintro a' w' ⟨e1, k1, n, u8, u9, u10, u11, u12, u13, u14, u15, u16, u17, u18, u19, u20, u21, u22, u23, u24, u25, u26, u27, rfl, hr, hT⟩
    clear T0 R0
    have HR := Lib.hid hr
    have h3 := hr.2.2.1
    have h2 := hr.2.1
    have hx := hr.1
    have hk0 := HK.out
    have hm0 := HM.out
    have N1 := Lib.hid (fun W => NX.out e1 k1 W hx (by omega))
    have hmm : 0 ≤ k1 ∧ k1 ≤ 1000100000 := by omega
    clear hr h3 h2 hk0 hm0
    obtain ⟨c0, c1, c2, c3, c4, c5⟩ := hT.1.c5
    obtain ⟨d0, d1, d2⟩ := hT.2.1.c2
    have M1 := Lib.hid (cel0_of d0)
    have T1 := Lib.hid hT
    clear hT
    go_wp2_with fail
    refine (N1.out _).mono ?_
    rintro en w1 ⟨rfl, hb⟩
    have T2 := Lib.hid (T1.out.keep hb)
    clear hb c0 c1 c2 c3 c4 c5 d0 d1 d2
    obtain ⟨d0, d1, d2⟩ := T2.out.2.1.c2
    obtain ⟨f0, f1⟩ := T2.out.2.1.f2
    obtain ⟨j0, j1, j2⟩ := T2.out.2.2.1.c2
    obtain ⟨q0, q1⟩ := T2.out.2.2.1.f2
    have hb0 := HF.out.bd e1 hx.1 hx.2
    have n5 : ¬ b5 = w1.heap.size := by omega
    have n6 : ¬ b6 = w1.heap.size := by omega
    cases hg : g e1
    · obtain ⟨g1, g2, g3⟩ := HR.out.2.2.2
      rw [stlF_no hg] at g1 g2 g3
      simp only at g1 g2 g3
      have HV := Lib.hid (show SeP (e1, n, false) k w = SeP (stlF f g e) k w by rw [show stlF f g e = (e1, n, false) from Prod.ext g1.symm (Prod.ext (by simp only; omega) g3.symm)])
      have HK2 := Lib.hid HR.out.2.1
      clear g1 g2 g3
      have Z := Lib.hid (((T2.out.2.2.1.setE (i := 0) (v := .int .i64 e1) rfl).setE (i := 1) (v := .int .i64 k1) rfl).alloc (.cells #[.int .i64 (f e1), .int .i64 (k1)] 31)).c2
      go_wp2_with fail
      simp only [Exit.jump]
      refine bodyPost_ret (v := .tuple #[.agg #[.int .i64 e1, .int .i64 k1], .bool false]) ?_ rfl (HV.out ▸ ⟨by rw [HK2.out], ?_⟩)
      · have z := Z.out
        simp [results, Try.results44, go_sem, z.1, z.2.1]
      · exact bA (bsetE (bsetE T2.out.2.2.2 lw6) lw6) _
    · by_cases hlt : f e1 < e1
      · have HN := Lib.hid (HR.out.next hg hb0.1 hlt)
        have Z5 := Lib.hid (show BoxL (((w1.setCell ⟨b5, 0, none⟩ (.int .i64 (f e1))).setCell ⟨b5, 1, none⟩ (.int .i64 (k1 + 1))).alloc (.cells #[.int .i64 (f e1), .int .i64 (k1 + 1)] 31)) b5 [.int .i64 (f e1), .int .i64 (k1 + 1)] from ((T2.out.2.1.setE (i := 0) (v := .int .i64 (f e1)) rfl).setE (i := 1) (v := .int .i64 (k1 + 1)) rfl).alloc _)
        have Z3 := Lib.hid (show BoxL (((w1.setCell ⟨b5, 0, none⟩ (.int .i64 (f e1))).setCell ⟨b5, 1, none⟩ (.int .i64 (k1 + 1))).alloc (.cells #[.int .i64 (f e1), .int .i64 (k1 + 1)] 31)) w.heap.size [.int .i64 t, .int .i64 u, .int .i64 i, .int .i64 l, .int .i64 m] from ((T2.out.1.other n35).other n35).alloc _)
        have Z6 := Lib.hid (show BoxL (((w1.setCell ⟨b5, 0, none⟩ (.int .i64 (f e1))).setCell ⟨b5, 1, none⟩ (.int .i64 (k1 + 1))).alloc (.cells #[.int .i64 (f e1), .int .i64 (k1 + 1)] 31)) b6 [.int .i64 0, .int .i64 0] from ((T2.out.2.2.1.other (Ne.symm n56)).other (Ne.symm n56)).alloc _)
        have ZB := Lib.hid (bA (bsetE (o := 1) (v := .int .i64 (k1 + 1)) (bsetE (o := 0) (v := .int .i64 (f e1)) T2.out.2.2.2 lw5) lw5) (.cells #[.int .i64 (f e1), .int .i64 (k1 + 1)] 31))
        have M0 := Lib.hid (cel0_of (Z5.out.c 0 _ rfl))
        go_wp2_with fail
        go_step3
        refine ⟨rfl, ?_⟩
        exact ⟨⟨_, _, _, _, _, _, _, _, _, _, _, _, _, _, _, _, _, _, _, _, _, _, _, rfl, HN.out, Z3.out, Z5.out, Z6.out, ZB.out⟩, by rw [M0.out, M1.out]; omega⟩
      · obtain ⟨g1, g2, g3⟩ := HR.out.2.2.2
        rw [stlF_end hg hlt] at g1 g2 g3
        simp only at g1 g2 g3
        have HV := Lib.hid (show SeP (e1, n, true) k w = SeP (stlF f g e) k w by rw [show stlF f g e = (e1, n, true) from Prod.ext g1.symm (Prod.ext (by simp only; omega) g3.symm)])
        have HK2 := Lib.hid HR.out.2.1
        clear g1 g2 g3
        have Z := Lib.hid (((T2.out.2.2.1.setE (i := 0) (v := .int .i64 e1) rfl).setE (i := 1) (v := .int .i64 k1) rfl).alloc (.cells #[.int .i64 (f e1), .int .i64 (k1 + 1)] 31)).c2
        go_wp2_with fail
        simp only [Exit.jump]
        refine bodyPost_ret (v := .tuple #[.agg #[.int .i64 e1, .int .i64 k1], .bool true]) ?_ rfl (HV.out ▸ ⟨by rw [HK2.out], ?_⟩)
        · have z := Z.out
          simp [results, Try.results44, go_sem, z.1, z.2.1]
        · exact bA (bsetE (bsetE T2.out.2.2.2 lw6) lw6) _
end Go.Proofs.Ytlgbkkbaiamapaa

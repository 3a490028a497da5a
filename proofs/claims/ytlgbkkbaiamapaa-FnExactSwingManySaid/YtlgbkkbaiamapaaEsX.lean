/-
  Swings with one torque, the document's side.
-/
import Derived.Test.YtlgbkkbaiamapaaEsB
namespace Go.Proofs.Ytlgbkkbaiamapaa
open Go.RowKit

/-- The state behind n swings; none if there are too many ticks. -/
def mnF (f : Int → Int) (g : Int → Bool) : Nat → Int → Int → Option (Int × Int)
  | 0, e, k => some (e, k)
  | n + 1, e, k => if g e = true then (if k = 1000000000 then none else mnF f g n (f e) (k + 1)) else mnF f g n (f e) k
theorem mnF_full {f : Int → Int} {g : Int → Bool} {n : Nat} {e k : Int} (h : g e = true) (hk : k = 1000000000) : mnF f g (n + 1) e k = none := by simp [mnF, h, hk]
theorem mnF_tick {f : Int → Int} {g : Int → Bool} {n : Nat} {e k : Int} (h : g e = true) (hk : ¬ k = 1000000000) : mnF f g (n + 1) e k = mnF f g n (f e) (k + 1) := by simp [mnF, h, hk]
theorem mnF_miss {f : Int → Int} {g : Int → Bool} {n : Nat} {e k : Int} (h : g e = false) : mnF f g (n + 1) e k = mnF f g n (f e) k := by simp [mnF, h]
/-- What SwingMany returns: energy, ticks, code. -/
def smE (t u i l m q n e k : Int) : Int × Int × Int := if cdE t u i l m q e k = 0 then (if inB n 0 2000 = true then (match mnF (nxS u i l m q) (tkS u l q) n.toNat e k with | none => (0, 0, 5) | some r => (r.1, r.2, 0)) else (0, 0, 2)) else (0, 0, cdE t u i l m q e k)
theorem smE_no {t u i l m q n e k : Int} (h : ¬ cdE t u i l m q e k = 0) : smE t u i l m q n e k = (0, 0, cdE t u i l m q e k) := by simp [smE, h]
theorem smE_2 {t u i l m q n e k : Int} (h : cdE t u i l m q e k = 0) (h2 : inB n 0 2000 = false) : smE t u i l m q n e k = (0, 0, 2) := by simp [smE, h, h2]
theorem smE_5 {t u i l m q e k : Int} {n : Nat} (h : cdE t u i l m q e k = 0) (h2 : inB (n : Int) 0 2000 = true) (h3 : mnF (nxS u i l m q) (tkS u l q) n e k = none) : smE t u i l m q n e k = (0, 0, 5) := by simp [smE, h, h2, h3]
theorem smE_0 {t u i l m q e k a b : Int} {n : Nat} (h : cdE t u i l m q e k = 0) (h2 : inB (n : Int) 0 2000 = true) (h3 : mnF (nxS u i l m q) (tkS u l q) n e k = some (a, b)) : smE t u i l m q n e k = (a, b, 0) := by simp [smE, h, h2, h3]
def SmP (r : Int × Int × Int) (w : World) (en : Ending) (w' : World) : Prop := en = .returned (.tuple #[.agg #[.int .i64 r.1, .int .i64 r.2.1], .int .i64 r.2.2]) ∧ Below w.heap.size w w'
theorem BoxL.setS {w : World} {b i : Nat} {vs : List Value} {v u : Value} (h : BoxL w b vs) (hi : vs[i]? = some u) : BoxL (w.setCell ⟨b, i, none⟩ v) b (vs.set i v) := by
  have hl : i < vs.length := by
    by_cases hl : i < vs.length
    · exact hl
    · rw [List.getElem?_eq_none (by omega)] at hi; cases hi
  have c0 := h.c i u hi
  refine ⟨fun j y e => ?_, fun j y e => ?_, by simpa [World.setCell] using h.lt⟩
  · by_cases hj : j = i
    · subst hj
      rw [List.getElem?_set_self hl] at e
      cases e
      simp [go_sem, c0]
    · rw [List.getElem?_set_ne (Ne.symm hj)] at e
      have := h.c j y e
      simp [go_sem, this]
  · by_cases hj : j = i
    · subst hj
      have := h.f j u hi
      simp [go_sem, this]
    · rw [List.getElem?_set_ne (Ne.symm hj)] at e
      have := h.f j y e
      simp [go_sem, this]
/-- The three boxes of SwingMany. -/
theorem TrB3.put {w : World} {b3 b5 b6 : Nat} {t u i l m e k : Int} {wr : World} (h : TrB3 w b3 b5 b6 t u i l m e k wr) (hw5 : w.heap.size ≤ b5) (n35 : ¬ b3 = b5) (n65 : ¬ b6 = b5) (x y : Int) : TrB3 w b3 b5 b6 t u i l m x y ((wr.setCell ⟨b5, 0, none⟩ (.int .i64 x)).setCell ⟨b5, 1, none⟩ (.int .i64 y)) :=
  ⟨(h.1.other n35).other n35, BoxL.setS (BoxL.setS h.2.1 (i := 0) (v := .int .i64 x) rfl) (i := 1) (v := .int .i64 y) rfl, (h.2.2.1.other n65).other n65, bsetS (bsetS h.2.2.2 hw5) hw5⟩
set_option maxRecDepth 100000 in
set_option maxHeartbeats 4000000 in
theorem SwingManyS_any (t u i l m q n e k : Int) (w : World) :
    Calls Try.prog 20 #[.agg #[.int .i64 t, .int .i64 u, .int .i64 i, .int .i64 l, .int .i64 m], .int .i64 q, .int .i64 n, .agg #[.int .i64 e, .int .i64 k]] w (SmP (smE t u i l m q n e k) w) := by
  have CO := Lib.hid (fun W => l11Code_any t u i l m q e k W)
  have T0 := Lib.hid (show TrB3 w w.heap.size (w.heap.size + 1) (w.heap.size + 1 + 1) t u i l m e k (((w.alloc (.cells #[.int .i64 t, .int .i64 u, .int .i64 i, .int .i64 l, .int .i64 m] 25)).alloc (.cells #[.int .i64 e, .int .i64 k] 31)).alloc (.cells #[.int .i64 0, .int .i64 0] 31)) from
    ⟨((BoxL.new w [.int .i64 t, .int .i64 u, .int .i64 i, .int .i64 l, .int .i64 m] 25).alloc _).alloc _, (BoxL.at_ (w := w.alloc (.cells #[.int .i64 t, .int .i64 u, .int .i64 i, .int .i64 l, .int .i64 m] 25)) (b := w.heap.size + 1) (vs := [.int .i64 e, .int .i64 k]) (by simp)).alloc _, BoxL.at_ (vs := [.int .i64 0, .int .i64 0]) (by simp), bA (bA (bA (bR w) _) _) _⟩)
  have n35 : ¬ w.heap.size = w.heap.size + 1 := by omega
  have n36 : ¬ w.heap.size = w.heap.size + 1 + 1 := by omega
  have n56 : ¬ w.heap.size + 1 = w.heap.size + 1 + 1 := by omega
  have lw5 : w.heap.size ≤ w.heap.size + 1 := by omega
  have lw6 : w.heap.size ≤ w.heap.size + 1 + 1 := by omega
  by_cases hc : cdE t u i l m q e k = 0
  · rw [hc] at CO
    obtain ⟨h1, h2⟩ := cdE_of hc
    cases hn : inB n 0 2000
    · rw [smE_2 hc hn]
      clear h1 h2 hc
      go_enter Try.func20, Try.ntmps20
      go_wp2_with fail
      generalize ((w.alloc (.cells #[.int .i64 t, .int .i64 u, .int .i64 i, .int .i64 l, .int .i64 m] 25)).alloc (.cells #[.int .i64 e, .int .i64 k] 31)).alloc (.cells #[.int .i64 0, .int .i64 0] 31) = W0 at *
      generalize w.heap.size + 1 + 1 = b6 at *
      generalize w.heap.size + 1 = b5 at *
      refine (CO.out _).mono ?_
      rintro en w1 ⟨rfl, hb⟩
      have T1 := Lib.hid (T0.out.keep hb)
      clear hb T0
      obtain ⟨z0, z1, z2⟩ := T1.out.2.2.1.c2
      obtain ⟨f0, f1⟩ := T1.out.2.2.1.f2
      go_wp2_with (go_at_call 39; refine (l00In_any _ _ _ _).mono ?_; rintro e w1 ⟨rfl, rfl⟩)
      refine bodyPost_ret (v := .tuple #[.agg #[.int .i64 0, .int .i64 0], .int .i64 2]) ?_ rfl ⟨rfl, ?_⟩
      · simp [results, Try.results20, go_sem, z0, z1]
      · exact bsetS (bsetS T1.out.2.2.2 lw6) lw6
    · obtain ⟨N, rfl⟩ := Int.eq_ofNat_of_zero_le (inB_true.1 hn).1
      have hN : N ≤ 2000 := by have := (inB_true.1 hn).2; omega
      have S5 := Lib.hid (smE_5 hc hn)
      have S0 := Lib.hid (fun a b => smE_0 (a := a) (b := b) hc hn)
      obtain ⟨hE, he, hk⟩ := okBt_bd h1
      have HI := Lib.hid (And.intro he hk)
      have HF := Lib.hid (monF hE (inB_true.1 h2))
      have SW := Lib.hid (fun e k W => SwingS_any t u i l m q e k W)
      have HC := Lib.hid (fun e k (he : 0 ≤ e ∧ e ≤ m) (hk : 0 ≤ k ∧ k ≤ 1000000000) => cdE_0 (q := q) (okBt_yes (okBt_es h1) (inB_true.2 he) (inB_true.2 hk)) h2)
      have SE := Lib.hid (fun e k (he : 0 ≤ e ∧ e ≤ m) (hk : 0 ≤ k ∧ k ≤ 1000000000) => show swE t u i l m q e k = (if tkS u l q e = true then (if k = 1000000000 then (0, 0, false, 5) else (nxS u i l m q e, k + 1, true, 0)) else (nxS u i l m q e, k, false, 0)) from by unfold swE; rw [if_pos (HC.out e k he hk)])
      clear hE he hk h1 h2 hc HC
      generalize smE t u i l m q N e k = R at *
      generalize nxS u i l m q = f at *
      generalize tkS u l q = g at *
      go_enter Try.func20, Try.ntmps20
      go_wp2_with fail
      generalize ((w.alloc (.cells #[.int .i64 t, .int .i64 u, .int .i64 i, .int .i64 l, .int .i64 m] 25)).alloc (.cells #[.int .i64 e, .int .i64 k] 31)).alloc (.cells #[.int .i64 0, .int .i64 0] 31) = W0 at *
      generalize w.heap.size + 1 + 1 = b6 at *
      generalize w.heap.size + 1 = b5 at *
      refine (CO.out _).mono ?_
      rintro en w1 ⟨rfl, hb⟩
      have T1 := Lib.hid (T0.out.keep hb)
      clear hb T0
      go_wp2_with (go_at_call 39; refine (l00In_any _ _ _ _).mono ?_; rintro e w1 ⟨rfl, rfl⟩)
      go_loopw [11] (fun v wr => ∃ (j : Nat) (e1 k1 : Int), v = .int .i64 j ∧ j ≤ N ∧ (0 ≤ e1 ∧ e1 ≤ m) ∧ (0 ≤ k1 ∧ k1 ≤ 1000000000) ∧ mnF f g (N - j) e1 k1 = mnF f g N e k ∧ TrB3 w w.heap.size b5 b6 t u i l m e1 k1 wr) (fun v _ => N - (intOf v).toNat)
      case atStart => exact ⟨0, e, k, rfl, Nat.zero_le _, HI.out.1, HI.out.2, rfl, T1.out⟩
      case round =>
        obtain ⟨j, e1, k1, rfl, hj, he1, hk1, hs, hT⟩ := hrel
        have T2 := Lib.hid hT
        have HS := Lib.hid hs
        clear hT hs T1
        by_cases hlt : j < N
        · obtain ⟨r, hr⟩ : ∃ r, N - j = r + 1 := ⟨N - j - 1, by omega⟩
          have SW1 := Lib.hid (fun W => SW.out e1 k1 W)
          have SE1 := Lib.hid (SE.out e1 k1 he1 hk1)
          have hb3 := HF.out.bd e1 he1.1 he1.2
          unfold SgP at SW1
          generalize swE t u i l m q e1 k1 = S at *
          obtain ⟨x, y, tk, c⟩ := S
          simp only at SW1
          have HJ := T2.out
          obtain ⟨c0, c1, c2, c3, c4, c5⟩ := HJ.1.c5
          obtain ⟨d0, d1, d2⟩ := HJ.2.1.c2
          clear HJ
          go_wp2_with fail
          refine (SW1.out _).mono ?_
          rintro en w3 ⟨rfl, hb⟩
          have T3 := Lib.hid (T2.out.keep hb)
          clear hb T2 c0 c1 c2 c3 c4 c5 d0 d1 d2
          have HJ := T3.out
          obtain ⟨d0, d1, d2⟩ := HJ.2.1.c2
          obtain ⟨f0, f1⟩ := HJ.2.1.f2
          obtain ⟨z0, z1, z2⟩ := HJ.2.2.1.c2
          obtain ⟨y0, y1⟩ := HJ.2.2.1.f2
          clear HJ
          have n5 : ¬ b5 = w3.heap.size := by omega
          have n6 : ¬ b6 = w3.heap.size := by omega
          have hsw := SE1.out
          clear SE1
          cases hg : g e1
          · rw [hg] at hsw
            rw [if_neg (by decide)] at hsw
            simp only [Prod.mk.injEq] at hsw
            obtain ⟨rfl, rfl, rfl, rfl⟩ := hsw
            have HN := Lib.hid (show mnF f g r (f e1) y = mnF f g N e k by rw [← HS.out, hr, mnF_miss hg])
            have T4 := Lib.hid ((T3.out.put lw5 n35 (Ne.symm n56) (f e1) y).keep (bA (bR _) (.cells #[.int .i64 (f e1), .int .i64 y] 31)))
            go_wp2_with fail
            go_roundw
            case rel => exact ⟨j + 1, f e1, y, by go_num, by omega, hb3, hk1, by rw [show N - (j + 1) = r by omega]; exact HN.out, T4.out⟩
            case measure => simp [intOf]; omega
          · rw [hg, if_pos rfl] at hsw
            by_cases hk2 : k1 = 1000000000
            · rw [if_pos hk2] at hsw
              simp only [Prod.mk.injEq] at hsw
              obtain ⟨rfl, rfl, rfl, rfl⟩ := hsw
              have HN := Lib.hid (S5.out (by rw [← HS.out, hr, mnF_full hg hk2]))
              have Z := Lib.hid ((BoxL.setS (BoxL.setS T3.out.2.2.1 (i := 0) (v := .int .i64 0) rfl) (i := 1) (v := .int .i64 0) rfl).alloc (.cells #[.int .i64 0, .int .i64 0] 31)).c2
              go_wp2_with fail
              refine bodyPost_ret (v := .tuple #[.agg #[.int .i64 0, .int .i64 0], .int .i64 5]) ?_ rfl ⟨by rw [HN.out], ?_⟩
              · have z := Z.out
                simp [results, Try.results20, go_sem, z.1, z.2.1]
              · exact bA (bsetS (bsetS T3.out.2.2.2 lw6) lw6) _
            · rw [if_neg hk2] at hsw
              simp only [Prod.mk.injEq] at hsw
              obtain ⟨rfl, rfl, rfl, rfl⟩ := hsw
              have HN := Lib.hid (show mnF f g r (f e1) (k1 + 1) = mnF f g N e k by rw [← HS.out, hr, mnF_tick hg hk2])
              have T4 := Lib.hid ((T3.out.put lw5 n35 (Ne.symm n56) (f e1) (k1 + 1)).keep (bA (bR _) (.cells #[.int .i64 (f e1), .int .i64 (k1 + 1)] 31)))
              go_wp2_with fail
              go_roundw
              case rel => exact ⟨j + 1, f e1, k1 + 1, by go_num, by omega, hb3, by omega, by rw [show N - (j + 1) = r by omega]; exact HN.out, T4.out⟩
              case measure => simp [intOf]; omega
        · obtain rfl : j = N := by omega
          have HN := Lib.hid (S0.out e1 k1 (by rw [← HS.out, Nat.sub_self]; rfl))
          have HJ := T2.out
          obtain ⟨d0, d1, d2⟩ := HJ.2.1.c2
          obtain ⟨z0, z1, z2⟩ := HJ.2.2.1.c2
          obtain ⟨y0, y1⟩ := HJ.2.2.1.f2
          clear HJ
          go_wp2_with fail
          refine bodyPost_ret (v := .tuple #[.agg #[.int .i64 e1, .int .i64 k1], .int .i64 0]) ?_ rfl ⟨by rw [HN.out], ?_⟩
          · simp [results, Try.results20, go_sem, z0, z1]
          · exact bsetS (bsetS T2.out.2.2.2 lw6) lw6
  · rw [smE_no hc]
    generalize cdE t u i l m q e k = z at *
    have hz : (z != 0) = true := by simpa using hc
    have hz2 : (z == 0) = false := by simpa using hc
    go_enter Try.func20, Try.ntmps20
    go_wp2_with fail
    generalize ((w.alloc (.cells #[.int .i64 t, .int .i64 u, .int .i64 i, .int .i64 l, .int .i64 m] 25)).alloc (.cells #[.int .i64 e, .int .i64 k] 31)).alloc (.cells #[.int .i64 0, .int .i64 0] 31) = W0 at *
    generalize w.heap.size + 1 + 1 = b6 at *
    refine (CO.out _).mono ?_
    rintro en w1 ⟨rfl, hb⟩
    have T1 := Lib.hid (T0.out.keep hb)
    clear hb T0
    obtain ⟨z0, z1, z2⟩ := T1.out.2.2.1.c2
    obtain ⟨f0, f1⟩ := T1.out.2.2.1.f2
    go_wp2_with fail
    refine bodyPost_ret (v := .tuple #[.agg #[.int .i64 0, .int .i64 0], .int .i64 z]) ?_ rfl ⟨rfl, ?_⟩
    · simp [results, Try.results20, go_sem, z0, z1]
    · exact bsetS (bsetS T1.out.2.2.2 lw6) lw6
end Go.Proofs.Ytlgbkkbaiamapaa

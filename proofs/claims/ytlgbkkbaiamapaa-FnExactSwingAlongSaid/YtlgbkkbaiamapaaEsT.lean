/-
  Escapements, the document's side: swings, steady energies, stops, least torques.
-/
import Derived.Test.YtlgbkkbaiamapaaEsS
namespace Go.Proofs.Ytlgbkkbaiamapaa
open Go.RowKit

theorem l00MinE_any (x y : Int) (w : World) :
    Calls Try.prog 49 #[.int .i64 x, .int .i64 y] w fun e w' => e = .returned (.int .i64 (min x y)) ∧ w = w' := by
  by_cases h : x < y
  · go_enter Try.func49, Try.ntmps49
    go_wp2
    go_ret
    exact ⟨ret_int (by omega), rfl⟩
  · go_enter Try.func49, Try.ntmps49
    go_wp2
    go_ret
    exact ⟨ret_int (by omega), rfl⟩
/-- The code of an escapement, a state and a torque. -/
def cdE (t u i l m q e k : Int) : Int := if okBt t u i l m e k = true then (if inB q 0 1000 = true then 0 else 2) else 1
theorem cdE_1 {t u i l m q e k : Int} (h : okBt t u i l m e k = false) : cdE t u i l m q e k = 1 := by simp [cdE, h]
theorem cdE_2 {t u i l m q e k : Int} (h : okBt t u i l m e k = true) (h2 : inB q 0 1000 = false) : cdE t u i l m q e k = 2 := by simp [cdE, h, h2]
theorem cdE_0 {t u i l m q e k : Int} (h : okBt t u i l m e k = true) (h2 : inB q 0 1000 = true) : cdE t u i l m q e k = 0 := by simp [cdE, h, h2]
theorem cdE_of {t u i l m q e k : Int} (h : cdE t u i l m q e k = 0) : okBt t u i l m e k = true ∧ inB q 0 1000 = true := by
  cases h1 : okBt t u i l m e k
  · rw [cdE_1 h1] at h; cases h
  · cases h2 : inB q 0 1000
    · rw [cdE_2 h1 h2] at h; cases h
    · exact ⟨rfl, rfl⟩
def IntBl (n : Int) (w : World) (e : Ending) (w' : World) : Prop := e = .returned (.int .i64 n) ∧ Below w.heap.size w w'
def TwoBl (a b : Int) (w : World) (e : Ending) (w' : World) : Prop := e = .returned (.tuple #[.int .i64 a, .int .i64 b]) ∧ Below w.heap.size w w'
theorem l11Code_any (t u i l m q e k : Int) (w : World) :
    Calls Try.prog 37 #[.agg #[.int .i64 t, .int .i64 u, .int .i64 i, .int .i64 l, .int .i64 m], .int .i64 q, .agg #[.int .i64 e, .int .i64 k]] w (IntBl (cdE t u i l m q e k) w) := by
  have CO := Lib.hid (fun W => l11Beat_any t u i l m e k W)
  have L0 := Lib.hid (bA (bA (bR w) (.cells #[.int .i64 t, .int .i64 u, .int .i64 i, .int .i64 l, .int .i64 m] 25)) (.cells #[.int .i64 e, .int .i64 k] 31))
  cases h1 : okBt t u i l m e k
  · rw [cdE_1 h1]
    rw [h1] at CO
    go_enter Try.func37, Try.ntmps37
    go_wp2_with fail
    refine (CO.out _).mono ?_
    rintro en w1 ⟨rfl, hb⟩
    have L := Lib.hid (bT L0.out hb)
    clear hb
    go_wp2_with fail
    go_ret
    exact ⟨rfl, L.out⟩
  rw [h1] at CO
  cases h2 : inB q 0 1000
  · rw [cdE_2 h1 h2]
    go_enter Try.func37, Try.ntmps37
    go_wp2_with fail
    refine (CO.out _).mono ?_
    rintro en w1 ⟨rfl, hb⟩
    have L := Lib.hid (bT L0.out hb)
    clear hb
    go_wp2_with (go_at_call 39; refine (l00In_any _ _ _ _).mono ?_; rintro e w1 ⟨rfl, rfl⟩)
    go_ret
    exact ⟨rfl, L.out⟩
  · rw [cdE_0 h1 h2]
    go_enter Try.func37, Try.ntmps37
    go_wp2_with fail
    refine (CO.out _).mono ?_
    rintro en w1 ⟨rfl, hb⟩
    have L := Lib.hid (bT L0.out hb)
    clear hb
    go_wp2_with (go_at_call 39; refine (l00In_any _ _ _ _).mono ?_; rintro e w1 ⟨rfl, rfl⟩)
    go_ret
    exact ⟨rfl, L.out⟩
def SwP (n : Int) (b : Bool) (w : World) (e : Ending) (w' : World) : Prop := e = .returned (.tuple #[.int .i64 n, .bool b]) ∧ Below w.heap.size w w'
set_option maxHeartbeats 1000000 in
theorem l11Swing_any (t u i l m q e : Int) (w : World) (H : Esc t u i l m) (he : 0 ≤ e ∧ e ≤ m) (hq : 0 ≤ q ∧ q ≤ 1000) :
    Calls Try.prog 38 #[.agg #[.int .i64 t, .int .i64 u, .int .i64 i, .int .i64 l, .int .i64 m], .int .i64 q, .int .i64 e] w (SwP (nxS u i l m q e) (tkS u l q e) w) := by
  have hm := H.hm
  have hu := H.hu
  obtain ⟨h1, h2⟩ := el_bd H.hl (e := e) ⟨he.1, by omega⟩
  obtain ⟨h3, h4⟩ := leS_bd H.hl (e := e) ⟨he.1, by omega⟩
  obtain ⟨h5, h6⟩ := iq_bd H.hi hq
  have hi := H.hi
  clear H
  have HL := Lib.hid (show leS l e = e - (e * l + 999) / 1000 from rfl)
  cases ht : tkS u l q e
  · rw [nxS_no ht]
    by_cases h0 : q = 0
    · subst h0
      clear ht h5 h6
      rw [HL.out] at h3 h4 ⊢
      go_enter Try.func38, Try.ntmps38
      go_wp2_with fail
      go_ret2
      exact ⟨rfl, bA (bR _) _⟩
    · have h7 : ¬ u ≤ leS l e := fun h => by rw [tkS_up h0 h] at ht; cases ht
      have h8 : (q == 0) = false := by simpa using h0
      clear ht h5 h6
      rw [HL.out] at h3 h4 h7 ⊢
      have h9 : decide (e - (e * l + 999) / 1000 < u) = true := by simp; omega
      go_enter Try.func38, Try.ntmps38
      go_wp2_with fail
      go_ret2
      exact ⟨rfl, bA (bR _) _⟩
  · obtain ⟨h0, h7⟩ := tkS_bd ht
    have h8 : (q == 0) = false := by simpa using h0
    rw [nxS_yes ht]
    clear ht
    rw [HL.out] at h3 h4 h7 ⊢
    have h9 : decide (e - (e * l + 999) / 1000 < u) = false := by simp; omega
    go_enter Try.func38, Try.ntmps38
    go_wp2_with (go_at_call 49; refine (l00MinE_any _ _ _).mono ?_; rintro e w1 ⟨rfl, rfl⟩)
    go_ret2
    exact ⟨rfl, bA (bR _) _⟩
/-- What keeps an escapement's box. -/
def EsH (w : World) (b : Nat) (t u i l m : Int) (w' : World) : Prop := BoxL w' b [.int .i64 t, .int .i64 u, .int .i64 i, .int .i64 l, .int .i64 m] ∧ Below w.heap.size w w'
theorem EsH.keep {w : World} {b : Nat} {t u i l m : Int} {w' w2 : World} (hb : Below w'.heap.size w' w2) (H : EsH w b t u i l m w') : EsH w b t u i l m w2 := ⟨H.1.keep hb, bT H.2 hb⟩
theorem EsH.new (w : World) (t u i l m : Int) (T : TypeId) : EsH w w.heap.size t u i l m (w.alloc (.cells #[.int .i64 t, .int .i64 u, .int .i64 i, .int .i64 l, .int .i64 m] T)) := ⟨BoxL.new w [.int .i64 t, .int .i64 u, .int .i64 i, .int .i64 l, .int .i64 m] T, bA (bR _) _⟩
/-- One swing's functions. -/
structure MonF (f : Int → Int) (t : Int → Bool) (m : Int) : Prop where
  bd : ∀ e, 0 ≤ e → e ≤ m → 0 ≤ f e ∧ f e ≤ m
  mono : ∀ a b, a ≤ b → t a = true → t b = true ∧ f a ≤ f b
theorem monF {t u i l m q : Int} (H : Esc t u i l m) (hq : 0 ≤ q ∧ q ≤ 1000) : MonF (nxS u i l m q) (tkS u l q) m :=
  ⟨fun _ h1 h2 => nxS_bd H hq ⟨h1, h2⟩, fun _ _ h ht => ⟨tkS_mono H.hl hq.1 (Int.le_refl _) h ht, nxS_mono H.hl H.hi.1 hq.1 (Int.le_refl _) h ht⟩⟩
/-- The steady energy and the code. -/
def sdE (t u i l m q : Int) : Int × Int := if okEs t u i l m = true then (if inB q 0 1000 = true then (if (stlF (nxS u i l m q) (tkS u l q) m).2.2 = true then ((stlF (nxS u i l m q) (tkS u l q) m).1, 0) else (0, 3)) else (0, 2)) else (0, 1)
theorem sdE_1 {t u i l m q : Int} (h : okEs t u i l m = false) : sdE t u i l m q = (0, 1) := by simp [sdE, h]
theorem sdE_2 {t u i l m q : Int} (h : okEs t u i l m = true) (h2 : inB q 0 1000 = false) : sdE t u i l m q = (0, 2) := by simp [sdE, h, h2]
theorem sdE_3 {t u i l m q : Int} (h : okEs t u i l m = true) (h2 : inB q 0 1000 = true) (h3 : (stlF (nxS u i l m q) (tkS u l q) m).2.2 = false) : sdE t u i l m q = (0, 3) := by simp [sdE, h, h2, h3]
theorem sdE_0 {t u i l m q : Int} (h : okEs t u i l m = true) (h2 : inB q 0 1000 = true) (h3 : (stlF (nxS u i l m q) (tkS u l q) m).2.2 = true) : sdE t u i l m q = ((stlF (nxS u i l m q) (tkS u l q) m).1, 0) := by simp [sdE, h, h2, h3]
theorem retT {a b c d : Int} (h : a = b) (h' : c = d) : Ending.returned (.tuple #[.int .i64 a, .int .i64 c]) = .returned (.tuple #[.int .i64 b, .int .i64 d]) := by rw [h, h']
set_option maxRecDepth 100000 in
set_option maxHeartbeats 4000000 in
theorem SteadyEnergyS_any (t u i l m q : Int) (w : World) :
    Calls Try.prog 28 #[.agg #[.int .i64 t, .int .i64 u, .int .i64 i, .int .i64 l, .int .i64 m], .int .i64 q] w (TwoBl (sdE t u i l m q).1 (sdE t u i l m q).2 w) := by
  have CO := Lib.hid (fun W => l11Ok_any t u i l m W)
  have H0 := Lib.hid (EsH.new w t u i l m 25)
  cases h1 : okEs t u i l m
  · rw [sdE_1 h1]
    rw [h1] at CO
    go_enter Try.func28, Try.ntmps28
    go_wp2_with fail
    refine (CO.out _).mono ?_
    rintro en w1 ⟨rfl, hb⟩
    have L := Lib.hid (H0.out.keep hb).2
    clear hb H0
    go_wp2_with fail
    go_ret2
    exact ⟨rfl, L.out⟩
  rw [h1] at CO
  cases h2 : inB q 0 1000
  · rw [sdE_2 h1 h2]
    go_enter Try.func28, Try.ntmps28
    go_wp2_with fail
    refine (CO.out _).mono ?_
    rintro en w1 ⟨rfl, hb⟩
    have L := Lib.hid (H0.out.keep hb).2
    clear hb H0
    go_wp2_with (go_at_call 39; refine (l00In_any _ _ _ _).mono ?_; rintro e w1 ⟨rfl, rfl⟩)
    go_ret2
    exact ⟨rfl, L.out⟩
  have HE := Lib.hid (esc_of h1)
  have HQ := Lib.hid (inB_true.1 h2)
  have HF := Lib.hid (monF HE.out HQ.out)
  have SW := Lib.hid (fun e W (he : 0 ≤ e ∧ e ≤ m) => l11Swing_any t u i l m q e W HE.out he HQ.out)
  have S3 := Lib.hid (sdE_3 h1 h2)
  have S0 := Lib.hid (sdE_0 h1 h2)
  have hm : 0 ≤ m := by have := HE.out.hm; have := HE.out.hu; omega
  clear h1
  generalize nxS u i l m q = f at *
  generalize tkS u l q = g at *
  go_enter Try.func28, Try.ntmps28
  go_wp2_with fail
  refine (CO.out _).mono ?_
  rintro en w1 ⟨rfl, hb⟩
  have H1 := Lib.hid (H0.out.keep hb)
  clear hb H0
  obtain ⟨c0, c1, c2, c3, c4, c5⟩ := H1.out.1.c5
  go_wp2_with (go_at_call 39; refine (l00In_any _ _ _ _).mono ?_; rintro e w1 ⟨rfl, rfl⟩)
  clear c0 c1 c2 c3 c4 c5 h2
  go_loopw [6] (fun v wr => ∃ x : Int, v = .int .i64 x ∧ (0 ≤ x ∧ x ≤ m) ∧ (g x = true → f x ≤ x) ∧ ((stlF f g x).1 = (stlF f g m).1 ∧ (stlF f g x).2.2 = (stlF f g m).2.2) ∧ Below w1.heap.size w1 wr) (fun v _ => (intOf v).toNat)
  case atStart => exact ⟨m, rfl, ⟨hm, Int.le_refl _⟩, fun _ => (HF.out.bd m hm (Int.le_refl _)).2, ⟨rfl, rfl⟩, bR _⟩
  case round =>
    obtain ⟨x, rfl, hx, hfx, hs, hb⟩ := hrel
    have H2 := Lib.hid (H1.out.keep hb)
    have HB := Lib.hid hb
    have HS := Lib.hid hs
    have HX := Lib.hid hfx
    clear hb hs hfx
    obtain ⟨c0, c1, c2, c3, c4, c5⟩ := H2.out.1.c5
    go_wp2_with fail
    refine (SW.out _ _ hx).mono ?_
    rintro en w2 ⟨rfl, hb2⟩
    cases hg : g x
    · have HR := Lib.hid (S3.out (by rw [← HS.out.2, stlF_no hg]))
      go_wp2_with fail
      go_ret2
      exact ⟨by rw [HR.out]; rfl, bT H2.out.2 hb2⟩
    · by_cases hfe : f x = x
      · have HR := Lib.hid (S0.out (by rw [← HS.out.2, stlF_end hg (by omega)]))
        have HV := Lib.hid (show x = (stlF f g m).1 by rw [← HS.out.1, stlF_end hg (by omega)])
        have hq1 : (f x == x) = true := by simpa using hfe
        go_wp2_with fail
        go_ret2
        exact ⟨by rw [HR.out]; exact retT HV.out rfl, bT H2.out.2 hb2⟩
      · have hq1 : (f x == x) = false := by simpa using hfe
        have hb3 := HF.out.bd x hx.1 hx.2
        have hlt : f x < x := by have := HX.out hg; omega
        have HG := Lib.hid (stlF_go (f := f) (t := g) hg ⟨hb3.1, hlt⟩)
        have HM := Lib.hid (show g (f x) = true → f (f x) ≤ f x from fun h => (HF.out.mono _ _ (HX.out hg) h).2)
        clear hg hfe
        go_wp2_with fail
        go_roundw
        case rel =>
          refine ⟨f x, rfl, hb3, HM.out, ⟨?_, ?_⟩, bT HB.out hb2⟩
          · rw [← HS.out.1, HG.out]
          · rw [← HS.out.2, HG.out]
        case measure => simp [intOf]; omega
end Go.Proofs.Ytlgbkkbaiamapaa

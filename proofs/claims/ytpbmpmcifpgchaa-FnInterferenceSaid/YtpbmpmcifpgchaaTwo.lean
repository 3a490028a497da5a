/-
  Whether two profiles engage: impl.engagement.code, spec.l10Two.
-/
import Derived.Test.YtpbmpmcifpgchaaEn
namespace Go.Proofs.Ytpbmpmcifpgchaa
open Go.RowKit

/-- Module and angle are the same. -/
def sameB (m s c h m2 s2 c2 h2 : Int) : Bool := decide (m = m2 ∧ s = s2 ∧ c = c2 ∧ h = h2)
/-- The code of two profiles. -/
def twC (t m k s c h t2 m2 k2 s2 c2 h2 : Int) : Int := if okPf t m k s c h = true then (if okPf t2 m2 k2 s2 c2 h2 = true then (if sameB m s c h m2 s2 c2 h2 = true then 0 else 6) else 1) else 1
theorem twC_n1 {t m k s c h t2 m2 k2 s2 c2 h2 : Int} (e : okPf t m k s c h = false) : twC t m k s c h t2 m2 k2 s2 c2 h2 = 1 := by simp [twC, e]
theorem twC_n2 {t m k s c h t2 m2 k2 s2 c2 h2 : Int} (e : okPf t2 m2 k2 s2 c2 h2 = false) : twC t m k s c h t2 m2 k2 s2 c2 h2 = 1 := by simp [twC, e]
theorem twC_n3 {t m k s c h t2 m2 k2 s2 c2 h2 : Int} (e : okPf t m k s c h = true) (e2 : okPf t2 m2 k2 s2 c2 h2 = true) (e3 : ¬ (m = m2 ∧ s = s2 ∧ c = c2 ∧ h = h2)) : twC t m k s c h t2 m2 k2 s2 c2 h2 = 6 := by
  have e4 : sameB m s c h m2 s2 c2 h2 = false := decide_eq_false e3
  simp [twC, e, e2, e4]
theorem twC_yes {t m k s c h t2 k2 : Int} (e : okPf t m k s c h = true) (e2 : okPf t2 m k2 s c h = true) : twC t m k s c h t2 m k2 s c h = 0 := by simp [twC, e, e2, sameB]
theorem twC_zero {t m k s c h t2 m2 k2 s2 c2 h2 : Int} (e : twC t m k s c h t2 m2 k2 s2 c2 h2 = 0) : okPf t m k s c h = true ∧ okPf t2 m2 k2 s2 c2 h2 = true ∧ m2 = m ∧ s2 = s ∧ c2 = c ∧ h2 = h := by
  cases o1 : okPf t m k s c h
  · rw [twC_n1 o1] at e; omega
  cases o2 : okPf t2 m2 k2 s2 c2 h2
  · rw [twC_n2 o2] at e; omega
  by_cases hs : m = m2 ∧ s = s2 ∧ c = c2 ∧ h = h2
  · obtain ⟨rfl, rfl, rfl, rfl⟩ := hs
    exact ⟨rfl, rfl, rfl, rfl, rfl, rfl⟩
  · rw [twC_n3 o1 o2 hs] at e; omega
set_option maxRecDepth 100000 in
set_option maxHeartbeats 4000000 in
theorem code_any (t m k s c h t2 m2 k2 s2 c2 h2 : Int) (w : World) :
    Calls Try.prog 39 #[.agg #[.int .i64 t, .int .i64 m, .int .i64 k, .int .i64 s, .int .i64 c, .int .i64 h, .int .i64 t2, .int .i64 m2, .int .i64 k2, .int .i64 s2, .int .i64 c2, .int .i64 h2]] w (IntB (twC t m k s c h t2 m2 k2 s2 c2 h2) w) := by
  have H0 := Lib.hid (EgH.new w t m k s c h t2 m2 k2 s2 c2 h2 61)
  cases o1 : okPf t m k s c h
  · rw [twC_n1 o1]
    go_enter Try.func39, Try.ntmps39
    go_wp2_with fail
    refine (ValidProfileI_any _ _ _ _ _ _ _).mono ?_
    rw [o1]
    rintro e w1 ⟨rfl, hb⟩
    go_wp2_with fail
    go_ret
    exact ⟨rfl, bT H0.out.bel hb⟩
  cases o2 : okPf t2 m2 k2 s2 c2 h2
  · rw [twC_n2 o2]
    go_enter Try.func39, Try.ntmps39
    go_wp2_with fail
    refine (ValidProfileI_any _ _ _ _ _ _ _).mono ?_
    rw [o1]
    rintro e w1 ⟨rfl, hb⟩
    have H1 := Lib.hid (H0.out.keep hb)
    clear hb
    obtain ⟨g0, g1, g2, g3, g4, g5, g6, g7, g8, g9, g10, g11, g12, g13⟩ := H1.out
    go_wp2_with fail
    refine (ValidProfileI_any _ _ _ _ _ _ _).mono ?_
    rw [o2]
    rintro e w2 ⟨rfl, hb⟩
    go_wp2_with fail
    go_ret
    exact ⟨rfl, bT H1.out.bel hb⟩
  have C6 := Lib.hid (fun q => twC_n3 (t := t) (m := m) (k := k) (s := s) (c := c) (h := h) (t2 := t2) (m2 := m2) (k2 := k2) (s2 := s2) (c2 := c2) (h2 := h2) o1 o2 q)
  have OK := Lib.hid (And.intro o1 o2)
  clear o1 o2
  by_cases hm : m = m2
  · subst hm
    by_cases hs : s = s2
    · subst hs
      by_cases hc : c = c2
      · subst hc
        by_cases hh : h = h2
        · subst hh
          rw [twC_yes OK.out.1 OK.out.2]
          go_enter Try.func39, Try.ntmps39
          go_wp2_with fail
          refine (ValidProfileI_any _ _ _ _ _ _ _).mono ?_
          rw [OK.out.1]
          rintro e w1 ⟨rfl, hb⟩
          have H1 := Lib.hid (H0.out.keep hb)
          clear hb
          obtain ⟨g0, g1, g2, g3, g4, g5, g6, g7, g8, g9, g10, g11, g12, g13⟩ := H1.out
          go_wp2_with fail
          refine (ValidProfileI_any _ _ _ _ _ _ _).mono ?_
          rw [OK.out.2]
          rintro e w2 ⟨rfl, hb⟩
          have H2 := Lib.hid (H1.out.keep hb)
          clear hb g0 g1 g2 g3 g4 g5 g6 g7 g8 g9 g10 g11 g12 g13
          obtain ⟨g0, g1, g2, g3, g4, g5, g6, g7, g8, g9, g10, g11, g12, g13⟩ := H2.out
          go_wp2_with fail
          go_ret
          exact ⟨rfl, H2.out.bel⟩
        · rw [C6.out (fun q => hh q.2.2.2)]
          have hh' : (h == h2) = false := by simpa using hh
          go_enter Try.func39, Try.ntmps39
          go_wp2_with fail
          refine (ValidProfileI_any _ _ _ _ _ _ _).mono ?_
          rw [OK.out.1]
          rintro e w1 ⟨rfl, hb⟩
          have H1 := Lib.hid (H0.out.keep hb)
          clear hb
          obtain ⟨g0, g1, g2, g3, g4, g5, g6, g7, g8, g9, g10, g11, g12, g13⟩ := H1.out
          go_wp2_with fail
          refine (ValidProfileI_any _ _ _ _ _ _ _).mono ?_
          rw [OK.out.2]
          rintro e w2 ⟨rfl, hb⟩
          have H2 := Lib.hid (H1.out.keep hb)
          clear hb g0 g1 g2 g3 g4 g5 g6 g7 g8 g9 g10 g11 g12 g13
          obtain ⟨g0, g1, g2, g3, g4, g5, g6, g7, g8, g9, g10, g11, g12, g13⟩ := H2.out
          go_wp2_with fail
          go_ret
          exact ⟨rfl, H2.out.bel⟩
      · rw [C6.out (fun q => hc q.2.2.1)]
        have hc' : (c == c2) = false := by simpa using hc
        go_enter Try.func39, Try.ntmps39
        go_wp2_with fail
        refine (ValidProfileI_any _ _ _ _ _ _ _).mono ?_
        rw [OK.out.1]
        rintro e w1 ⟨rfl, hb⟩
        have H1 := Lib.hid (H0.out.keep hb)
        clear hb
        obtain ⟨g0, g1, g2, g3, g4, g5, g6, g7, g8, g9, g10, g11, g12, g13⟩ := H1.out
        go_wp2_with fail
        refine (ValidProfileI_any _ _ _ _ _ _ _).mono ?_
        rw [OK.out.2]
        rintro e w2 ⟨rfl, hb⟩
        have H2 := Lib.hid (H1.out.keep hb)
        clear hb g0 g1 g2 g3 g4 g5 g6 g7 g8 g9 g10 g11 g12 g13
        obtain ⟨g0, g1, g2, g3, g4, g5, g6, g7, g8, g9, g10, g11, g12, g13⟩ := H2.out
        go_wp2_with fail
        go_ret
        exact ⟨rfl, H2.out.bel⟩
    · rw [C6.out (fun q => hs q.2.1)]
      have hs' : (s == s2) = false := by simpa using hs
      go_enter Try.func39, Try.ntmps39
      go_wp2_with fail
      refine (ValidProfileI_any _ _ _ _ _ _ _).mono ?_
      rw [OK.out.1]
      rintro e w1 ⟨rfl, hb⟩
      have H1 := Lib.hid (H0.out.keep hb)
      clear hb
      obtain ⟨g0, g1, g2, g3, g4, g5, g6, g7, g8, g9, g10, g11, g12, g13⟩ := H1.out
      go_wp2_with fail
      refine (ValidProfileI_any _ _ _ _ _ _ _).mono ?_
      rw [OK.out.2]
      rintro e w2 ⟨rfl, hb⟩
      have H2 := Lib.hid (H1.out.keep hb)
      clear hb g0 g1 g2 g3 g4 g5 g6 g7 g8 g9 g10 g11 g12 g13
      obtain ⟨g0, g1, g2, g3, g4, g5, g6, g7, g8, g9, g10, g11, g12, g13⟩ := H2.out
      go_wp2_with fail
      go_ret
      exact ⟨rfl, H2.out.bel⟩
  · rw [C6.out (fun q => hm q.1)]
    have hm' : (m != m2) = true := by simpa using hm
    go_enter Try.func39, Try.ntmps39
    go_wp2_with fail
    refine (ValidProfileI_any _ _ _ _ _ _ _).mono ?_
    rw [OK.out.1]
    rintro e w1 ⟨rfl, hb⟩
    have H1 := Lib.hid (H0.out.keep hb)
    clear hb
    obtain ⟨g0, g1, g2, g3, g4, g5, g6, g7, g8, g9, g10, g11, g12, g13⟩ := H1.out
    go_wp2_with fail
    refine (ValidProfileI_any _ _ _ _ _ _ _).mono ?_
    rw [OK.out.2]
    rintro e w2 ⟨rfl, hb⟩
    have H2 := Lib.hid (H1.out.keep hb)
    clear hb g0 g1 g2 g3 g4 g5 g6 g7 g8 g9 g10 g11 g12 g13
    obtain ⟨g0, g1, g2, g3, g4, g5, g6, g7, g8, g9, g10, g11, g12, g13⟩ := H2.out
    go_wp2_with fail
    go_ret
    exact ⟨rfl, H2.out.bel⟩
def PqH (w : World) (b b2 : Nat) (t m k s c h t2 m2 k2 s2 c2 h2 : Int) (w' : World) : Prop := PfH w b t m k s c h w' ∧ PfH w b2 t2 m2 k2 s2 c2 h2 w'
theorem PqH.keep {w : World} {b b2 : Nat} {t m k s c h t2 m2 k2 s2 c2 h2 : Int} {w' x : World} (hb : Below w'.heap.size w' x) (H : PqH w b b2 t m k s c h t2 m2 k2 s2 c2 h2 w') : PqH w b b2 t m k s c h t2 m2 k2 s2 c2 h2 x := ⟨H.1.keep hb, H.2.keep hb⟩
theorem PqH.new (w : World) (t m k s c h t2 m2 k2 s2 c2 h2 : Int) (T U : TypeId) : PqH w w.heap.size (w.heap.size + 1) t m k s c h t2 m2 k2 s2 c2 h2 ((w.alloc (.cells #[.int .i64 t, .int .i64 m, .int .i64 k, .int .i64 s, .int .i64 c, .int .i64 h] T)).alloc (.cells #[.int .i64 t2, .int .i64 m2, .int .i64 k2, .int .i64 s2, .int .i64 c2, .int .i64 h2] U)) :=
  ⟨(PfH.new w t m k s c h T).keep (bA (bR _) _), ⟨by simp [go_sem], by simp [go_sem], by simp [go_sem], by simp [go_sem], by simp [go_sem], by simp [go_sem], by simp, bA (bA (bR _) _) _⟩⟩
theorem PqH.bel {w : World} {b b2 : Nat} {t m k s c h t2 m2 k2 s2 c2 h2 : Int} {w' : World} (H : PqH w b b2 t m k s c h t2 m2 k2 s2 c2 h2 w') : Below w.heap.size w w' := H.1.bel
set_option maxRecDepth 100000 in
set_option maxHeartbeats 4000000 in
theorem l10Two_any (t m k s c h t2 m2 k2 s2 c2 h2 : Int) (w : World) :
    Calls Try.prog 36 #[.agg #[.int .i64 t, .int .i64 m, .int .i64 k, .int .i64 s, .int .i64 c, .int .i64 h], .agg #[.int .i64 t2, .int .i64 m2, .int .i64 k2, .int .i64 s2, .int .i64 c2, .int .i64 h2]] w (IntB (twC t m k s c h t2 m2 k2 s2 c2 h2) w) := by
  have H0 := Lib.hid (PqH.new w t m k s c h t2 m2 k2 s2 c2 h2 30 30)
  cases o1 : okPf t m k s c h
  · rw [twC_n1 o1]
    go_enter Try.func36, Try.ntmps36
    go_wp2_with fail
    refine (l10Ok_any _ _ _ _ _ _ _).mono ?_
    rw [o1]
    rintro e w1 ⟨rfl, hb⟩
    go_wp2_with fail
    go_ret
    exact ⟨rfl, bT H0.out.bel hb⟩
  cases o2 : okPf t2 m2 k2 s2 c2 h2
  · rw [twC_n2 o2]
    go_enter Try.func36, Try.ntmps36
    go_wp2_with fail
    refine (l10Ok_any _ _ _ _ _ _ _).mono ?_
    rw [o1]
    rintro e w1 ⟨rfl, hb⟩
    have H1 := Lib.hid (H0.out.keep hb)
    clear hb
    obtain ⟨⟨g0, g1, g2, g3, g4, g5, g6, g7⟩, ⟨d0, d1, d2, d3, d4, d5, d6, d7⟩⟩ := H1.out
    go_wp2_with fail
    refine (l10Ok_any _ _ _ _ _ _ _).mono ?_
    rw [o2]
    rintro e w2 ⟨rfl, hb⟩
    go_wp2_with fail
    go_ret
    exact ⟨rfl, bT H1.out.bel hb⟩
  have C6 := Lib.hid (fun q => twC_n3 (t := t) (m := m) (k := k) (s := s) (c := c) (h := h) (t2 := t2) (m2 := m2) (k2 := k2) (s2 := s2) (c2 := c2) (h2 := h2) o1 o2 q)
  have OK := Lib.hid (And.intro o1 o2)
  clear o1 o2
  by_cases hm : m = m2
  · subst hm
    by_cases hs : s = s2
    · subst hs
      by_cases hc : c = c2
      · subst hc
        by_cases hh : h = h2
        · subst hh
          rw [twC_yes OK.out.1 OK.out.2]
          go_enter Try.func36, Try.ntmps36
          go_wp2_with fail
          refine (l10Ok_any _ _ _ _ _ _ _).mono ?_
          rw [OK.out.1]
          rintro e w1 ⟨rfl, hb⟩
          have H1 := Lib.hid (H0.out.keep hb)
          clear hb
          obtain ⟨⟨g0, g1, g2, g3, g4, g5, g6, g7⟩, ⟨d0, d1, d2, d3, d4, d5, d6, d7⟩⟩ := H1.out
          go_wp2_with fail
          refine (l10Ok_any _ _ _ _ _ _ _).mono ?_
          rw [OK.out.2]
          rintro e w2 ⟨rfl, hb⟩
          have H2 := Lib.hid (H1.out.keep hb)
          clear hb g0 g1 g2 g3 g4 g5 g6 g7 d0 d1 d2 d3 d4 d5 d6 d7
          obtain ⟨⟨g0, g1, g2, g3, g4, g5, g6, g7⟩, ⟨d0, d1, d2, d3, d4, d5, d6, d7⟩⟩ := H2.out
          go_wp2_with fail
          go_ret
          exact ⟨rfl, H2.out.bel⟩
        · rw [C6.out (fun q => hh q.2.2.2)]
          have hh' : (h == h2) = false := by simpa using hh
          go_enter Try.func36, Try.ntmps36
          go_wp2_with fail
          refine (l10Ok_any _ _ _ _ _ _ _).mono ?_
          rw [OK.out.1]
          rintro e w1 ⟨rfl, hb⟩
          have H1 := Lib.hid (H0.out.keep hb)
          clear hb
          obtain ⟨⟨g0, g1, g2, g3, g4, g5, g6, g7⟩, ⟨d0, d1, d2, d3, d4, d5, d6, d7⟩⟩ := H1.out
          go_wp2_with fail
          refine (l10Ok_any _ _ _ _ _ _ _).mono ?_
          rw [OK.out.2]
          rintro e w2 ⟨rfl, hb⟩
          have H2 := Lib.hid (H1.out.keep hb)
          clear hb g0 g1 g2 g3 g4 g5 g6 g7 d0 d1 d2 d3 d4 d5 d6 d7
          obtain ⟨⟨g0, g1, g2, g3, g4, g5, g6, g7⟩, ⟨d0, d1, d2, d3, d4, d5, d6, d7⟩⟩ := H2.out
          go_wp2_with fail
          go_ret
          exact ⟨rfl, H2.out.bel⟩
      · rw [C6.out (fun q => hc q.2.2.1)]
        have hc' : (c == c2) = false := by simpa using hc
        go_enter Try.func36, Try.ntmps36
        go_wp2_with fail
        refine (l10Ok_any _ _ _ _ _ _ _).mono ?_
        rw [OK.out.1]
        rintro e w1 ⟨rfl, hb⟩
        have H1 := Lib.hid (H0.out.keep hb)
        clear hb
        obtain ⟨⟨g0, g1, g2, g3, g4, g5, g6, g7⟩, ⟨d0, d1, d2, d3, d4, d5, d6, d7⟩⟩ := H1.out
        go_wp2_with fail
        refine (l10Ok_any _ _ _ _ _ _ _).mono ?_
        rw [OK.out.2]
        rintro e w2 ⟨rfl, hb⟩
        have H2 := Lib.hid (H1.out.keep hb)
        clear hb g0 g1 g2 g3 g4 g5 g6 g7 d0 d1 d2 d3 d4 d5 d6 d7
        obtain ⟨⟨g0, g1, g2, g3, g4, g5, g6, g7⟩, ⟨d0, d1, d2, d3, d4, d5, d6, d7⟩⟩ := H2.out
        go_wp2_with fail
        go_ret
        exact ⟨rfl, H2.out.bel⟩
    · rw [C6.out (fun q => hs q.2.1)]
      have hs' : (s == s2) = false := by simpa using hs
      go_enter Try.func36, Try.ntmps36
      go_wp2_with fail
      refine (l10Ok_any _ _ _ _ _ _ _).mono ?_
      rw [OK.out.1]
      rintro e w1 ⟨rfl, hb⟩
      have H1 := Lib.hid (H0.out.keep hb)
      clear hb
      obtain ⟨⟨g0, g1, g2, g3, g4, g5, g6, g7⟩, ⟨d0, d1, d2, d3, d4, d5, d6, d7⟩⟩ := H1.out
      go_wp2_with fail
      refine (l10Ok_any _ _ _ _ _ _ _).mono ?_
      rw [OK.out.2]
      rintro e w2 ⟨rfl, hb⟩
      have H2 := Lib.hid (H1.out.keep hb)
      clear hb g0 g1 g2 g3 g4 g5 g6 g7 d0 d1 d2 d3 d4 d5 d6 d7
      obtain ⟨⟨g0, g1, g2, g3, g4, g5, g6, g7⟩, ⟨d0, d1, d2, d3, d4, d5, d6, d7⟩⟩ := H2.out
      go_wp2_with fail
      go_ret
      exact ⟨rfl, H2.out.bel⟩
  · rw [C6.out (fun q => hm q.1)]
    have hm' : (m != m2) = true := by simpa using hm
    go_enter Try.func36, Try.ntmps36
    go_wp2_with fail
    refine (l10Ok_any _ _ _ _ _ _ _).mono ?_
    rw [OK.out.1]
    rintro e w1 ⟨rfl, hb⟩
    have H1 := Lib.hid (H0.out.keep hb)
    clear hb
    obtain ⟨⟨g0, g1, g2, g3, g4, g5, g6, g7⟩, ⟨d0, d1, d2, d3, d4, d5, d6, d7⟩⟩ := H1.out
    go_wp2_with fail
    refine (l10Ok_any _ _ _ _ _ _ _).mono ?_
    rw [OK.out.2]
    rintro e w2 ⟨rfl, hb⟩
    have H2 := Lib.hid (H1.out.keep hb)
    clear hb g0 g1 g2 g3 g4 g5 g6 g7 d0 d1 d2 d3 d4 d5 d6 d7
    obtain ⟨⟨g0, g1, g2, g3, g4, g5, g6, g7⟩, ⟨d0, d1, d2, d3, d4, d5, d6, d7⟩⟩ := H2.out
    go_wp2_with fail
    go_ret
    exact ⟨rfl, H2.out.bel⟩
end Go.Proofs.Ytpbmpmcifpgchaa

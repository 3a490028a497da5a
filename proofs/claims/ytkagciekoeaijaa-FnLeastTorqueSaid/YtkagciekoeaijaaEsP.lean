/-
  Swings with one torque: how many tick.
-/
import Derived.Test.YtkagciekoeaijaaEsX
import Derived.Test.YtkagciekoeaijaaEsL
namespace Go.Proofs.Ytkagciekoeaijaa
open Go.RowKit

/-- Among n swings at most n tick, and n if all do. -/
theorem mn_all (f : Int → Int) (g : Int → Bool) : ∀ (n : Nat) (e k : Int), k + (n : Int) ≤ 1000000000 → ∃ e' k', mnF f g n e k = some (e', k') ∧ k ≤ k' ∧ k' ≤ k + (n : Int) ∧ (k' = k + (n : Int) ↔ allF f g n e = true)
  | 0, e, k, _ => ⟨e, k, rfl, Int.le_refl _, by omega, by simp [allF]⟩
  | n + 1, e, k, h => by
    cases hg : g e
    · obtain ⟨e', k', h1, h2, h3, h4⟩ := mn_all f g n (f e) k (by omega)
      refine ⟨e', k', by rw [mnF_miss hg]; exact h1, h2, by omega, ?_⟩
      rw [allF_no hg]
      constructor
      · intro hh; omega
      · intro hh; cases hh
    · obtain ⟨e', k', h1, h2, h3, h4⟩ := mn_all f g n (f e) (k + 1) (by omega)
      refine ⟨e', k', by rw [mnF_tick hg (by omega)]; exact h1, by omega, by omega, ?_⟩
      rw [allF_go hg, ← h4]
      omega
/-- Where the swings never stop, all tick. -/
theorem all_of_end {f : Int → Int} {g : Int → Bool} (hm : ∀ a b, a ≤ b → g a = true → g b = true ∧ f a ≤ f b) : ∀ (n : Nat) (e : Int), g e = true → e ≤ f e → allF f g n e = true
  | 0, _, _, _ => rfl
  | n + 1, e, hg, he => by
    rw [allF_go hg]
    obtain ⟨h1, h2⟩ := hm e (f e) he hg
    exact all_of_end hm n (f e) h1 h2
theorem stl_all {f : Int → Int} {g : Int → Bool} {m : Int} (HF : MonF f g m) : ∀ (N n : Nat) (e : Int), e.toNat ≤ N → 0 ≤ e → e ≤ m → (stlF f g e).2.2 = true → allF f g n e = true
  | N, n, e, hN, h0, hm, h => by
    cases h1 : g e
    · rw [stlF_no h1] at h; cases h
    · have hb := HF.bd e h0 hm
      by_cases h2 : f e < e
      · rw [stlF_go h1 ⟨hb.1, h2⟩] at h
        match N, n with
        | 0, _ => omega
        | _, 0 => rfl
        | N + 1, n + 1 =>
          rw [allF_go h1]
          exact stl_all HF N n (f e) (by omega) hb.1 hb.2 h
      · exact all_of_end HF.mono n e h1 (by omega)
/-- Where the swings stop, they tick until then. -/
theorem stl_mn {f : Int → Int} {g : Int → Bool} {m : Int} (HF : MonF f g m) : ∀ (N j : Nat) (e k : Int), e.toNat ≤ N → 0 ≤ e → e ≤ m → (stlF f g e).2.2 = false → k + ((stlF f g e).2.1 : Int) ≤ 1000000000 →
    mnF f g ((stlF f g e).2.1 + j) e k = mnF f g j (stlF f g e).1 (k + ((stlF f g e).2.1 : Int)) ∧ g (stlF f g e).1 = false ∧ 0 ≤ (stlF f g e).1 ∧ (stlF f g e).1 ≤ m
  | N, j, e, k, hN, h0, hm, h, hk => by
    cases h1 : g e
    · rw [stlF_no h1]
      exact ⟨by simp, h1, h0, hm⟩
    · have hb := HF.bd e h0 hm
      by_cases h2 : f e < e
      · have e1 := stlF_go (f := f) (t := g) h1 ⟨hb.1, h2⟩
        rw [e1] at h hk ⊢
        simp only at h hk ⊢
        match N with
        | 0 => omega
        | N + 1 =>
          obtain ⟨q1, q2⟩ := stl_mn HF N j (f e) (k + 1) (by omega) hb.1 hb.2 h (by omega)
          refine ⟨?_, q2⟩
          rw [show (stlF f g (f e)).2.1 + 1 + j = ((stlF f g (f e)).2.1 + j) + 1 by omega, mnF_tick h1 (by omega), q1]
          congr 1
          omega
      · rw [stlF_end h1 h2] at h; cases h
/-- Behind a swing that does not tick none does. -/
theorem mn_none {f : Int → Int} {g : Int → Bool} {m : Int} (HF : MonF f g m) (hd : ∀ e, 0 ≤ e → e ≤ m → g e = false → f e ≤ e) : ∀ (n : Nat) (e k : Int), 0 ≤ e → e ≤ m → g e = false → ∃ e', mnF f g n e k = some (e', k)
  | 0, e, k, _, _, _ => ⟨e, rfl⟩
  | n + 1, e, k, h0, hm, hg => by
    rw [mnF_miss hg]
    have hb := HF.bd e h0 hm
    have hle := hd e h0 hm hg
    refine mn_none HF hd n (f e) k hb.1 hb.2 ?_
    cases h : g (f e)
    · rfl
    · rw [(HF.mono _ _ hle h).1] at hg; cases hg
theorem nx_down {t u i l m q : Int} (H : Esc t u i l m) (e : Int) (h0 : 0 ≤ e) (hm : e ≤ m) (hg : tkS u l q e = false) : nxS u i l m q e ≤ e := by
  rw [nxS_no hg]
  exact (leS_bd H.hl ⟨h0, by have := H.hm; omega⟩).2
/-- What FnStops says. -/
theorem stE_cases (t u i l m q e k : Int) : (∃ c, stE t u i l m q e k = (0, c) ∧ (c = 1 ∨ c = 2)) ∨ (stE t u i l m q e k = (0, 3) ∧ (smE t u i l m q 50 e 0).2 = (50, 0)) ∨
    ∃ n : Nat, stE t u i l m q e k = ((n : Int), 0) ∧ (n : Int) ≤ 100000 ∧ (n ≤ 1980 → (smE t u i l m q (n : Int) e 0).2 = ((n : Int), 0) ∧ (smE t u i l m q ((n : Int) + 20) e 0).2 = ((n : Int), 0)) := by
  cases h1 : okBt t u i l m e k
  · have c := cdE_1 (q := q) h1
    exact .inl ⟨1, by rw [stE_no (by omega), c], .inl rfl⟩
  cases h2 : inB q 0 1000
  · have c := cdE_2 h1 h2
    exact .inl ⟨2, by rw [stE_no (by omega), c], .inr rfl⟩
  obtain ⟨H, he, hk⟩ := okBt_bd h1
  have hq := inB_true.1 h2
  have HF := monF H hq
  have hb0 : okBt t u i l m e 0 = true := okBt_yes (okBt_es h1) (inB_true.2 he) (inB_true.2 (by omega))
  have c0 := cdE_0 hb0 h2
  cases h3 : (stlF (nxS u i l m q) (tkS u l q) e).2.2
  · have hlen := stlF_len (f := nxS u i l m q) (t := tkS u l q) e.toNat e (Nat.le_refl _)
    have hm := H.hm
    refine .inr (.inr ⟨(stlF (nxS u i l m q) (tkS u l q) e).2.1, stE_0 (cdE_0 h1 h2) h3, by omega, fun hn => ?_⟩)
    have q0 := stl_mn HF e.toNat 0 e 0 (Nat.le_refl _) he.1 he.2 h3 (by omega)
    have q1 := stl_mn HF e.toNat 20 e 0 (Nat.le_refl _) he.1 he.2 h3 (by omega)
    obtain ⟨e2, r2⟩ := mn_none HF (fun e => nx_down H e) 20 _ (0 + ((stlF (nxS u i l m q) (tkS u l q) e).2.1 : Int)) q1.2.2.1 q1.2.2.2 q1.2.1
    generalize (stlF (nxS u i l m q) (tkS u l q) e).2.1 = n at *
    have e0 := q0.1
    have e1 := q1.1
    rw [r2] at e1
    rw [Nat.add_zero] at e0
    refine ⟨?_, ?_⟩
    · rw [smE_0 c0 (inB_true.2 (by omega)) e0]; simp
    · rw [show (n : Int) + 20 = ((n + 20 : Nat) : Int) by omega, smE_0 c0 (inB_true.2 (by omega)) e1]; simp
  · refine .inr (.inl ⟨stE_3 (cdE_0 h1 h2) h3, ?_⟩)
    have ha := stl_all HF e.toNat 50 e (Nat.le_refl _) he.1 he.2 h3
    obtain ⟨e', k', r1, _, _, r4⟩ := mn_all (nxS u i l m q) (tkS u l q) 50 e 0 (by omega)
    have hk' := r4.2 ha
    rw [show (50 : Int) = ((50 : Nat) : Int) from rfl, smE_0 c0 (inB_true.2 (by omega)) r1, hk']
    simp
end Go.Proofs.Ytkagciekoeaijaa

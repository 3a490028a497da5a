/-
  Readings: the plain words (no program).
-/
import Derived.Test.YtmmmbchlkjljaaaRaM
namespace Go.Proofs.Ytmmmbchlkjljaaa

/-- The earliest hour that a reading may have behind those before it. -/
def erl (ps : List (Int × Int)) (k : Nat) : Int := if k = 0 then 0 else (pat ps (k - 1)).1 + 1
theorem erl_zero (ps : List (Int × Int)) : erl ps 0 = 0 := rfl
theorem erl_succ (ps : List (Int × Int)) (k : Nat) : erl ps (k + 1) = (pat ps k).1 + 1 := by simp [erl]
theorem erl_pos {ps : List (Int × Int)} {k : Nat} (h : ¬ k = 0) : erl ps k = (pat ps (k - 1)).1 + 1 := by simp [erl, h]
/-- A reading is valid behind those before it. -/
def okAt (ps : List (Int × Int)) (k : Nat) : Bool := inB (pat ps k).1 (erl ps k) 10000 && inB (pat ps k).2 (-100000) 100000
/-- The first k readings are valid. -/
def rdK (ps : List (Int × Int)) (k : Nat) : Prop := ∀ i, i < k → okAt ps i = true
/-- A valid list of readings. -/
def okRd (ps : List (Int × Int)) : Bool := decide (ps.length ≤ 60) && (List.range ps.length).all (okAt ps)
theorem rdK_zero (ps : List (Int × Int)) : rdK ps 0 := fun _ h => absurd h (Nat.not_lt_zero _)
theorem rdK_succ {ps : List (Int × Int)} {k : Nat} (h : rdK ps k) (h2 : okAt ps k = true) : rdK ps (k + 1) := by
  intro i hi
  by_cases e : i = k
  · rw [e]; exact h2
  · exact h i (by omega)
theorem okAt_bd {ps : List (Int × Int)} {k : Nat} (h : okAt ps k = true) : (erl ps k ≤ (pat ps k).1 ∧ (pat ps k).1 ≤ 10000) ∧ -100000 ≤ (pat ps k).2 ∧ (pat ps k).2 ≤ 100000 := by
  simpa only [okAt, Bool.and_eq_true, inB_true] using h
theorem rdK_erl {ps : List (Int × Int)} : ∀ {k : Nat}, rdK ps k → 0 ≤ erl ps k ∧ erl ps k ≤ 10001
  | 0, _ => by simp [erl]
  | k + 1, h => by
    have h1 := rdK_erl (ps := ps) (k := k) (fun i hi => h i (by omega))
    have h2 := okAt_bd (h k (by omega))
    rw [erl_succ]
    omega
theorem rdK_at {ps : List (Int × Int)} {k i : Nat} (h : rdK ps k) (hi : i < k) : (0 ≤ (pat ps i).1 ∧ (pat ps i).1 ≤ 10000) ∧ -100000 ≤ (pat ps i).2 ∧ (pat ps i).2 ≤ 100000 := by
  have h1 := rdK_erl (ps := ps) (k := i) (fun j hj => h j (by omega))
  have h2 := okAt_bd (h i hi)
  omega
theorem rdK_all {ps : List (Int × Int)} (h : rdK ps ps.length) : okRd ps = decide (ps.length ≤ 60) := by
  have e : (List.range ps.length).all (okAt ps) = true := by
    rw [List.all_eq_true]
    intro i hi
    exact h i (List.mem_range.1 hi)
  simp only [okRd, e, Bool.and_true]
theorem rd_no {ps : List (Int × Int)} {k : Nat} (hk : k < ps.length) (h : okAt ps k = false) : okRd ps = false := by
  have e : (List.range ps.length).all (okAt ps) = false := by
    cases hc : (List.range ps.length).all (okAt ps)
    · rfl
    · rw [List.all_eq_true.1 hc k (List.mem_range.2 hk)] at h; cases h
  simp only [okRd, e, Bool.and_false]
theorem okRd_long {ps : List (Int × Int)} (h : ¬ ps.length ≤ 60) : okRd ps = false := by simp [okRd, h]
theorem okRd_iff {ps : List (Int × Int)} : okRd ps = true ↔ ps.length ≤ 60 ∧ rdK ps ps.length := by
  unfold okRd rdK
  rw [Bool.and_eq_true, decide_eq_true_iff, List.all_eq_true]
  exact ⟨fun ⟨a, b⟩ => ⟨a, fun i hi => b i (List.mem_range.2 hi)⟩, fun ⟨a, b⟩ => ⟨a, fun i hi => b i (List.mem_range.1 hi)⟩⟩
theorem okRd_len {ps : List (Int × Int)} (h : okRd ps = true) : ps.length ≤ 60 := (okRd_iff.1 h).1
theorem okRd_at {ps : List (Int × Int)} (h : okRd ps = true) {i : Nat} (hi : i < ps.length) : (0 ≤ (pat ps i).1 ∧ (pat ps i).1 ≤ 10000) ∧ -100000 ≤ (pat ps i).2 ∧ (pat ps i).2 ≤ 100000 := rdK_at (okRd_iff.1 h).2 hi
theorem okRd_up {ps : List (Int × Int)} (h : okRd ps = true) {i : Nat} (hi : i + 1 < ps.length) : (pat ps i).1 + 1 ≤ (pat ps (i + 1)).1 := by
  have := (okAt_bd ((okRd_iff.1 h).2 (i + 1) hi)).1.1
  rwa [erl_succ] at this
/-- How one reading is told from the next. -/
theorem okAt_x {ps : List (Int × Int)} {k : Nat} {x y : Int} (hK : rdK ps k) (e : pat ps k = (x, y)) (h : inB x 0 10000 = false) : okAt ps k = false := by
  have h1 := rdK_erl hK
  have h2 : inB x (erl ps k) 10000 = false := by
    cases hc : inB x (erl ps k) 10000
    · rfl
    · have := inB_true.1 hc
      have : inB x 0 10000 = true := inB_true.2 (by omega)
      rw [this] at h; cases h
  simp [okAt, e, h2]
theorem okAt_y {ps : List (Int × Int)} {k : Nat} {x y : Int} (e : pat ps k = (x, y)) (h : inB y (-100000) 100000 = false) : okAt ps k = false := by simp [okAt, e, h]
theorem okAt_z {ps : List (Int × Int)} {k : Nat} {x y : Int} (e : pat ps k = (x, y)) (h : inB x (erl ps k) 10000 = false) : okAt ps k = false := by simp [okAt, e, h]
theorem okAt_go {ps : List (Int × Int)} {k : Nat} {x y : Int} (e : pat ps k = (x, y)) (h : inB x (erl ps k) 10000 = true) (h2 : inB y (-100000) 100000 = true) : okAt ps k = true := by simp [okAt, e, h, h2]
theorem okAt_b {ps : List (Int × Int)} {k : Nat} {x y : Int} (e : pat ps k = (x, y)) (h0 : ¬ k = 0) (h : x ≤ (pat ps (k - 1)).1) : okAt ps k = false := by
  refine okAt_z e ?_
  cases hc : inB x (erl ps k) 10000
  · rfl
  · have := inB_true.1 hc
    rw [erl_pos h0] at this
    omega
theorem okAt_c {ps : List (Int × Int)} {k : Nat} {x y : Int} (e : pat ps k = (x, y)) (h1 : inB x 0 10000 = true) (h2 : inB y (-100000) 100000 = true) (h : k = 0 ∨ (pat ps (k - 1)).1 < x) : okAt ps k = true := by
  refine okAt_go e ?_ h2
  have h3 := inB_true.1 h1
  refine inB_true.2 ?_
  by_cases h0 : k = 0
  · rw [h0, erl_zero]; omega
  · rw [erl_pos h0]; omega
/-- What is added up over readings. -/
def ofS (p : Int × Int) : Int := p.2
def sqS (p : Int × Int) : Int := p.1 * p.1
theorem smF_bd2 {f : Int × Int → Int} {L M : Int} : ∀ {ps : List (Int × Int)}, (∀ i, i < ps.length → L ≤ f (pat ps i) ∧ f (pat ps i) ≤ M) → L * ps.length ≤ smF f ps ∧ smF f ps ≤ M * ps.length
  | [], _ => by simp [smF]
  | p :: ps, h => by
    have h1 : L ≤ f p ∧ f p ≤ M := h 0 (by simp)
    have h2 := smF_bd2 (f := f) (L := L) (M := M) (ps := ps) (fun i hi => h (i + 1) (by simp; omega))
    have e : M * ((p :: ps).length : Int) = M * (ps.length : Int) + M := by simp only [List.length_cons, Int.natCast_add, Int.mul_add]; omega
    have e2 : L * ((p :: ps).length : Int) = L * (ps.length : Int) + L := by simp only [List.length_cons, Int.natCast_add, Int.mul_add]; omega
    rw [e, e2]
    simp only [smF]
    omega
theorem pat_takeL {ps : List (Int × Int)} {i k : Nat} (h : i < k) : pat (ps.take k) i = pat ps i := by
  unfold pat
  rw [List.getElem?_take]
  simp [h]
theorem pat_dropL (ps : List (Int × Int)) (i k : Nat) : pat (ps.drop k) i = pat ps (k + i) := by
  unfold pat
  rw [List.getElem?_drop]
theorem smF_cut {f : Int × Int → Int} {L M : Int} {ps : List (Int × Int)} (h : ∀ i, i < ps.length → L ≤ f (pat ps i) ∧ f (pat ps i) ≤ M) (k : Nat) (hk : k ≤ ps.length) : L * k ≤ smF f (ps.take k) ∧ smF f (ps.take k) ≤ M * k := by
  have hl : (ps.take k).length = k := by rw [List.length_take]; omega
  have := smF_bd2 (f := f) (L := L) (M := M) (ps := ps.take k) (fun i hi => by rw [pat_takeL (by omega)]; exact h i (by omega))
  rwa [hl] at this
/-- All readings are within the bounds, whatever their order. -/
def bdR (ps : List (Int × Int)) : Prop := ∀ i, i < ps.length → (0 ≤ (pat ps i).1 ∧ (pat ps i).1 ≤ 10000) ∧ -100000 ≤ (pat ps i).2 ∧ (pat ps i).2 ≤ 100000
theorem bdR_of {ps : List (Int × Int)} (h : okRd ps = true) : bdR ps := fun _ hi => okRd_at h hi
theorem bdR_take {ps : List (Int × Int)} (h : bdR ps) (k : Nat) : bdR (ps.take k) := by
  intro i hi
  rw [List.length_take] at hi
  rw [pat_takeL (by omega)]
  exact h i (by omega)
theorem bdR_drop {ps : List (Int × Int)} (h : bdR ps) (k : Nat) : bdR (ps.drop k) := by
  intro i hi
  rw [List.length_drop] at hi
  rw [pat_dropL]
  exact h _ (by omega)
theorem hr_b {ps : List (Int × Int)} (h : bdR ps) : ∀ i, i < ps.length → 0 ≤ hrS (pat ps i) ∧ hrS (pat ps i) ≤ 10000 := fun i hi => (h i hi).1
theorem of_b {ps : List (Int × Int)} (h : bdR ps) : ∀ i, i < ps.length → -100000 ≤ ofS (pat ps i) ∧ ofS (pat ps i) ≤ 100000 := fun i hi => (h i hi).2
theorem sq_b {ps : List (Int × Int)} (h : bdR ps) : ∀ i, i < ps.length → 0 ≤ sqS (pat ps i) ∧ sqS (pat ps i) ≤ 100000000 := by
  intro i hi
  have h1 := (h i hi).1
  refine ⟨Int.mul_nonneg h1.1 h1.1, ?_⟩
  exact (mulB (A := 10000) (B := 10000) (by omega) h1.2 (by omega) h1.2).2
theorem dg_b {ps : List (Int × Int)} (h : bdR ps) : ∀ i, i < ps.length → -1000000000 ≤ dgS (pat ps i) ∧ dgS (pat ps i) ≤ 1000000000 := by
  intro i hi
  have h1 := h i hi
  exact mulB (A := 10000) (B := 100000) (by omega) h1.1.2 h1.2.1 h1.2.2
theorem hr_cut {ps : List (Int × Int)} (h : bdR ps) (hl : ps.length ≤ 60) (k : Nat) (hk : k ≤ ps.length) : 0 ≤ smF hrS (ps.take k) ∧ smF hrS (ps.take k) ≤ 600000 := by
  have := smF_cut (hr_b h) k hk; omega
theorem of_cut {ps : List (Int × Int)} (h : bdR ps) (hl : ps.length ≤ 60) (k : Nat) (hk : k ≤ ps.length) : -6000000 ≤ smF ofS (ps.take k) ∧ smF ofS (ps.take k) ≤ 6000000 := by
  have := smF_cut (of_b h) k hk; omega
theorem sq_cut {ps : List (Int × Int)} (h : bdR ps) (hl : ps.length ≤ 60) (k : Nat) (hk : k ≤ ps.length) : 0 ≤ smF sqS (ps.take k) ∧ smF sqS (ps.take k) ≤ 6000000000 := by
  have := smF_cut (sq_b h) k hk; omega
theorem dg_cut {ps : List (Int × Int)} (h : bdR ps) (hl : ps.length ≤ 60) (k : Nat) (hk : k ≤ ps.length) : -60000000000 ≤ smF dgS (ps.take k) ∧ smF dgS (ps.take k) ≤ 60000000000 := by
  have := smF_cut (dg_b h) k hk; omega
/-- The sums of readings, and what FitOf returns. -/
structure Ft where
  n : Int
  x : Int
  y : Int
  xx : Int
  xy : Int
def fitL (ps : List (Int × Int)) : Ft := ⟨ps.length, smF hrS ps, smF ofS ps, smF sqS ps, smF dgS ps⟩
def ftE (ps : List (Int × Int)) : Ft × Int := if okRd ps = true then (fitL ps, 0) else (⟨0, 0, 0, 0, 0⟩, 1)
theorem ftE_1 {ps : List (Int × Int)} (h : okRd ps = false) : ftE ps = (⟨0, 0, 0, 0, 0⟩, 1) := by simp [ftE, h]
theorem ftE_0 {ps : List (Int × Int)} (h : okRd ps = true) : ftE ps = (fitL ps, 0) := by simp [ftE, h]
/-- Valid sums. -/
def okFt (f : Ft) : Bool := inB f.n 0 60 && (inB f.x 0 (f.n * 10000) && (inB f.y (-(f.n * 100000)) (f.n * 100000) && (inB f.xx 0 (f.n * 10000 * 10000) && (inB f.xy (-(f.n * 10000 * 100000)) (f.n * 10000 * 100000) && decide (f.x * f.x ≤ f.n * f.xx)))))
/-- D and N of the fitted line. -/
def dF (f : Ft) : Int := f.n * f.xx - f.x * f.x
def nF (f : Ft) : Int := f.n * f.xy - f.x * f.y
structure FtB (f : Ft) : Prop where
  n : 0 ≤ f.n ∧ f.n ≤ 60
  x : 0 ≤ f.x ∧ f.x ≤ 600000
  y : -6000000 ≤ f.y ∧ f.y ≤ 6000000
  xx : 0 ≤ f.xx ∧ f.xx ≤ 6000000000
  xy : -60000000000 ≤ f.xy ∧ f.xy ≤ 60000000000
  d : 0 ≤ dF f ∧ dF f ≤ 360000000000
  nn : -7200000000000 ≤ nF f ∧ nF f ≤ 7200000000000
theorem okFt_bd {f : Ft} (h : okFt f = true) : FtB f := by
  simp only [okFt, Bool.and_eq_true, inB_true, decide_eq_true_iff] at h
  obtain ⟨h1, h2, h3, h4, h5, h6⟩ := h
  have a := mulB (a := f.n) (b := f.xx) (A := 60) (B := 6000000000) (by omega) (by omega) (by omega) (by omega)
  have b := Int.mul_nonneg h2.1 h2.1
  have c := mulB (a := f.n) (b := f.xy) (A := 60) (B := 60000000000) (by omega) (by omega) (by omega) (by omega)
  have d := mulB (a := f.x) (b := f.y) (A := 600000) (B := 6000000) (by omega) (by omega) (by omega) (by omega)
  refine ⟨by omega, by omega, by omega, by omega, by omega, ?_, ?_⟩
  · unfold dF; omega
  · unfold nF; omega
end Go.Proofs.Ytmmmbchlkjljaaa

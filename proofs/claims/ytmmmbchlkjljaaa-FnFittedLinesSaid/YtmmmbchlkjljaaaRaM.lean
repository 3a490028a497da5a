/-
  Rates: the plain words (no program).
-/
import Derived.Test.YtmmmbchlkjljaaaPr
namespace Go.Proofs.Ytmmmbchlkjljaaa

/-- A product of two numbers between bounds. -/
theorem mulB {a b A B : Int} (h1 : -A ≤ a) (h2 : a ≤ A) (h3 : -B ≤ b) (h4 : b ≤ B) : -(A * B) ≤ a * b ∧ a * b ≤ A * B := by
  have p1 := Int.mul_nonneg (show 0 ≤ A - a by omega) (show 0 ≤ B + b by omega)
  have p2 := Int.mul_nonneg (show 0 ≤ A + a by omega) (show 0 ≤ B - b by omega)
  have p3 := Int.mul_nonneg (show 0 ≤ A - a by omega) (show 0 ≤ B - b by omega)
  have p4 := Int.mul_nonneg (show 0 ≤ A + a by omega) (show 0 ≤ B + b by omega)
  have e1 : (A - a) * (B + b) + (A + a) * (B - b) = 2 * (A * B) - 2 * (a * b) := by grind
  have e2 : (A - a) * (B - b) + (A + a) * (B + b) = 2 * (A * B) + 2 * (a * b) := by grind
  omega
/-- A valid rate: base, linear, curve, mid. -/
def okRt (b l c m : Int) : Bool := inB b (-100000000) 100000000 && inB l (-10000) 10000 && inB c (-1000) 1000 && inB m (-400) 600
theorem okRt_n1 {b l c m : Int} (e : inB b (-100000000) 100000000 = false) : okRt b l c m = false := by simp [okRt, e]
theorem okRt_n2 {b l c m : Int} (e : inB l (-10000) 10000 = false) : okRt b l c m = false := by simp [okRt, e]
theorem okRt_n3 {b l c m : Int} (e : inB c (-1000) 1000 = false) : okRt b l c m = false := by simp [okRt, e]
theorem okRt_go {b l c m : Int} (e1 : inB b (-100000000) 100000000 = true) (e2 : inB l (-10000) 10000 = true) (e3 : inB c (-1000) 1000 = true) : okRt b l c m = inB m (-400) 600 := by simp [okRt, e1, e2, e3]
/-- The numbers of a valid rate. -/
structure Rte (b l c m : Int) : Prop where
  hb : -100000000 ≤ b ∧ b ≤ 100000000
  hl : -10000 ≤ l ∧ l ≤ 10000
  hc : -1000 ≤ c ∧ c ≤ 1000
  hm : -400 ≤ m ∧ m ≤ 600
theorem rte_of {b l c m : Int} (h : okRt b l c m = true) : Rte b l c m := by
  simp only [okRt, Bool.and_eq_true, inB_true] at h
  exact ⟨h.1.1.1, h.1.1.2, h.1.2, h.2⟩
theorem Rte.zero {b l c m : Int} (h : Rte b l c m) : Rte 0 l c m := ⟨by omega, h.hl, h.hc, h.hm⟩
/-- The rate at a temperature. -/
def atR (b l c m t : Int) : Int := b + l * (t - m) + c * (t - m) * (t - m)
theorem atR_steps {b l c m t : Int} (h : Rte b l c m) (ht : -400 ≤ t ∧ t ≤ 600) : (-1000 ≤ t - m ∧ t - m ≤ 1000) ∧ (-10000000 ≤ l * (t - m) ∧ l * (t - m) ≤ 10000000) ∧ (-1000000 ≤ c * (t - m) ∧ c * (t - m) ≤ 1000000) ∧ (-1000000000 ≤ c * (t - m) * (t - m) ∧ c * (t - m) * (t - m) ≤ 1000000000) ∧ -2000000000 ≤ atR b l c m t ∧ atR b l c m t ≤ 2000000000 := by
  have h0 := h.hb
  have h1 := h.hm
  have hd : -1000 ≤ t - m ∧ t - m ≤ 1000 := by omega
  have a1 := mulB (A := 10000) (B := 1000) h.hl.1 h.hl.2 hd.1 hd.2
  have a2 := mulB (A := 1000) (B := 1000) h.hc.1 h.hc.2 hd.1 hd.2
  have a3 := mulB (a := c * (t - m)) (A := 1000000) (B := 1000) (by omega) (by omega) hd.1 hd.2
  unfold atR
  omega
theorem atR_bd {b l c m t : Int} (h : Rte b l c m) (ht : -400 ≤ t ∧ t ≤ 600) : -2000000000 ≤ atR b l c m t ∧ atR b l c m t ≤ 2000000000 := (atR_steps h ht).2.2.2.2
/-- A valid segment, and a valid list of segments. -/
def okSg (p : Int × Int) : Bool := inB p.1 1 240 && inB p.2 (-400) 600
def okSl (ps : List (Int × Int)) : Bool := decide (ps.length ≤ 60) && ps.all okSg
theorem okSg_bd {p : Int × Int} (h : okSg p = true) : (1 ≤ p.1 ∧ p.1 ≤ 240) ∧ -400 ≤ p.2 ∧ p.2 ≤ 600 := by
  simpa only [okSg, Bool.and_eq_true, inB_true] using h
theorem okSg_no1 {x y : Int} (h : inB x 1 240 = false) : okSg (x, y) = false := by simp [okSg, h]
theorem okSg_go {x y : Int} (h : inB x 1 240 = true) : okSg (x, y) = inB y (-400) 600 := by simp [okSg, h]
theorem okSl_iff {ps : List (Int × Int)} : okSl ps = true ↔ ps.length ≤ 60 ∧ ∀ p ∈ ps, okSg p = true := by simp [okSl]
theorem okSl_at {ps : List (Int × Int)} (h : okSl ps = true) {i : Nat} (hi : i < ps.length) : (1 ≤ (pat ps i).1 ∧ (pat ps i).1 ≤ 240) ∧ -400 ≤ (pat ps i).2 ∧ (pat ps i).2 ≤ 600 :=
  okSg_bd ((okSl_iff.1 h).2 _ (pat_mem hi))
theorem okSl_short {ps : List (Int × Int)} (h : ps.all okSg = true) : okSl ps = decide (ps.length ≤ 60) := by simp [okSl, h]
theorem okSl_bad {ps : List (Int × Int)} (h : ps.all okSg = false) : okSl ps = false := by simp [okSl, h]
theorem okSl_long {ps : List (Int × Int)} (h : ¬ ps.length ≤ 60) : okSl ps = false := by simp [okSl, h]
/-- The first k segments are valid. -/
def sgK (ps : List (Int × Int)) (k : Nat) : Prop := ∀ i, i < k → okSg (pat ps i) = true
theorem sgK_zero (ps : List (Int × Int)) : sgK ps 0 := fun _ h => absurd h (Nat.not_lt_zero _)
theorem sgK_succ {ps : List (Int × Int)} {k : Nat} (h : sgK ps k) (h2 : okSg (pat ps k) = true) : sgK ps (k + 1) := by
  intro i hi
  by_cases e : i = k
  · rw [e]; exact h2
  · exact h i (by omega)
theorem sgK_all {ps : List (Int × Int)} (h : sgK ps ps.length) : ps.all okSg = true := by
  rw [List.all_eq_true]
  intro p hp
  obtain ⟨i, hi, e⟩ := List.getElem_of_mem hp
  have := h i hi
  rw [← pat_get hi, e] at this
  exact this
theorem sg_no {ps : List (Int × Int)} {k : Nat} (hk : k < ps.length) (h : okSg (pat ps k) = false) : ps.all okSg = false := by
  cases hc : ps.all okSg
  · rfl
  · rw [List.all_eq_true.1 hc _ (pat_mem hk)] at h; cases h
/-- What a number of each segment adds up to. -/
def smF (f : Int × Int → Int) : List (Int × Int) → Int
  | [] => 0
  | p :: ps => f p + smF f ps
theorem smF_append (f : Int × Int → Int) : ∀ (ps qs : List (Int × Int)), smF f (ps ++ qs) = smF f ps + smF f qs
  | [], qs => by simp [smF]
  | p :: ps, qs => by simp only [List.cons_append, smF, smF_append f ps qs]; omega
theorem smF_take (f : Int × Int → Int) {ps : List (Int × Int)} {k : Nat} (h : k < ps.length) : smF f (ps.take (k + 1)) = smF f (ps.take k) + f (pat ps k) := by
  rw [pat_take h, smF_append]; simp [smF]
theorem smF_bd {f : Int × Int → Int} {M : Int} : ∀ {ps : List (Int × Int)}, (∀ p ∈ ps, -M ≤ f p ∧ f p ≤ M) → -(M * ps.length) ≤ smF f ps ∧ smF f ps ≤ M * ps.length
  | [], _ => by simp [smF]
  | p :: ps, h => by
    have h1 := h p (by simp)
    have h2 := smF_bd (ps := ps) (fun q hq => h q (by simp [hq]))
    have e : M * ((p :: ps).length : Int) = M * (ps.length : Int) + M := by simp only [List.length_cons, Int.natCast_add, Int.mul_add]; omega
    rw [e]
    simp only [smF]
    omega
theorem smF_take_bd {f : Int × Int → Int} {M : Int} (h0 : 0 ≤ M) {ps : List (Int × Int)} (h : ∀ p ∈ ps, -M ≤ f p ∧ f p ≤ M) (hl : ps.length ≤ 60) (k : Nat) : -(M * 60) ≤ smF f (ps.take k) ∧ smF f (ps.take k) ≤ M * 60 := by
  have h1 := smF_bd (f := f) (M := M) (ps := ps.take k) (fun p hp => h p (List.mem_of_mem_take hp))
  have h2 : ((ps.take k).length : Int) ≤ 60 := by rw [List.length_take]; omega
  have h3 := Int.mul_le_mul_of_nonneg_left h2 h0
  omega
/-- The sums behind the first k segments. -/
def rnK (f : Int × Int → Int) (ps : List (Int × Int)) (k : Nat) : List Int := (List.range k).map fun i => smF f (ps.take (i + 1))
theorem rnK_len (f : Int × Int → Int) (ps : List (Int × Int)) (k : Nat) : (rnK f ps k).length = k := by simp [rnK]
theorem rnK_succ (f : Int × Int → Int) (ps : List (Int × Int)) (k : Nat) : rnK f ps (k + 1) = rnK f ps k ++ [smF f (ps.take (k + 1))] := by simp [rnK, List.range_succ]
/-- A segment's part of 24 drifts; its hours; its hours times its temperature. -/
def drS (b l c m : Int) (p : Int × Int) : Int := p.1 * atR b l c m p.2
def hrS (p : Int × Int) : Int := p.1
def dgS (p : Int × Int) : Int := p.1 * p.2
theorem drS_bd {b l c m : Int} (h : Rte b l c m) {p : Int × Int} (hp : okSg p = true) : -480000000000 ≤ drS b l c m p ∧ drS b l c m p ≤ 480000000000 := by
  obtain ⟨h1, h2⟩ := okSg_bd hp
  have h3 := atR_bd h h2
  exact mulB (A := 240) (B := 2000000000) (by omega) h1.2 h3.1 h3.2
theorem hrS_bd {p : Int × Int} (hp : okSg p = true) : -240 ≤ hrS p ∧ hrS p ≤ 240 := by
  obtain ⟨h1, h2⟩ := okSg_bd hp
  unfold hrS; omega
theorem dgS_bd {p : Int × Int} (hp : okSg p = true) : -144000 ≤ dgS p ∧ dgS p ≤ 144000 := by
  obtain ⟨h1, h2⟩ := okSg_bd hp
  exact mulB (A := 240) (B := 600) (by omega) h1.2 (by omega) h2.2
theorem sumD_bd {b l c m : Int} (h : Rte b l c m) {ps : List (Int × Int)} (hp : okSl ps = true) (k : Nat) : -28800000000000 ≤ smF (drS b l c m) (ps.take k) ∧ smF (drS b l c m) (ps.take k) ≤ 28800000000000 :=
  smF_take_bd (M := 480000000000) (by omega) (fun p hm => drS_bd h ((okSl_iff.1 hp).2 p hm)) (okSl_iff.1 hp).1 k
theorem sumH_bd {ps : List (Int × Int)} (hp : okSl ps = true) (k : Nat) : -14400 ≤ smF hrS (ps.take k) ∧ smF hrS (ps.take k) ≤ 14400 :=
  smF_take_bd (M := 240) (by omega) (fun p hm => hrS_bd ((okSl_iff.1 hp).2 p hm)) (okSl_iff.1 hp).1 k
theorem sumG_bd {ps : List (Int × Int)} (hp : okSl ps = true) (k : Nat) : -8640000 ≤ smF dgS (ps.take k) ∧ smF dgS (ps.take k) ≤ 8640000 :=
  smF_take_bd (M := 144000) (by omega) (fun p hm => dgS_bd ((okSl_iff.1 hp).2 p hm)) (okSl_iff.1 hp).1 k
theorem hours_ge : ∀ {ps : List (Int × Int)}, (∀ p ∈ ps, okSg p = true) → (ps.length : Int) ≤ smF hrS ps
  | [], _ => by simp [smF]
  | p :: ps, h => by
    have h1 := (okSg_bd (h p (by simp))).1.1
    have h2 := hours_ge (ps := ps) (fun q hq => h q (by simp [hq]))
    simp only [smF, List.length_cons, Int.natCast_add, hrS] at h1 h2 ⊢
    omega
/-- Another base moves the sum by its multiple of the hours. -/
theorem base_sum (b l c m : Int) : ∀ ps : List (Int × Int), smF (drS b l c m) ps = smF (drS 0 l c m) ps + b * smF hrS ps
  | [] => by simp [smF]
  | p :: ps => by
    have h := base_sum b l c m ps
    have e : drS b l c m p = drS 0 l c m p + b * hrS p := by unfold drS hrS atR; grind
    simp only [smF, h, e, Int.mul_add]
    omega
/-- Rates at one temperature, and what a function of a rate and a list returns. -/
def raE (b l c m t : Int) : Int × Int := if okRt b l c m = true then (if inB t (-400) 600 = true then (atR b l c m t, 0) else (0, 2)) else (0, 1)
theorem raE_1 {b l c m t : Int} (h : okRt b l c m = false) : raE b l c m t = (0, 1) := by simp [raE, h]
theorem raE_2 {b l c m t : Int} (h : okRt b l c m = true) (h2 : inB t (-400) 600 = false) : raE b l c m t = (0, 2) := by simp [raE, h, h2]
theorem raE_0 {b l c m t : Int} (h : okRt b l c m = true) (h2 : inB t (-400) 600 = true) : raE b l c m t = (atR b l c m t, 0) := by simp [raE, h, h2]
def dsE (b l c m : Int) (ps : List (Int × Int)) : Int × Int := if okRt b l c m = true ∧ okSl ps = true then (smF (drS b l c m) ps, 0) else (0, 1)
theorem dsE_1 {b l c m : Int} {ps : List (Int × Int)} (h : okRt b l c m = false) : dsE b l c m ps = (0, 1) := by simp [dsE, h]
theorem dsE_2 {b l c m : Int} {ps : List (Int × Int)} (h : okSl ps = false) : dsE b l c m ps = (0, 1) := by simp [dsE, h]
theorem dsE_0 {b l c m : Int} {ps : List (Int × Int)} (h : okRt b l c m = true) (h2 : okSl ps = true) : dsE b l c m ps = (smF (drS b l c m) ps, 0) := by simp [dsE, h, h2]
end Go.Proofs.Ytmmmbchlkjljaaa

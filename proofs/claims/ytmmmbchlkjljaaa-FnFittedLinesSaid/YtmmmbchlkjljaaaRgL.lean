/-
  Readings: fitted lines, rates between, jumps, medians: the plain words (no program).
-/
import Derived.Test.YtmmmbchlkjljaaaRgM
import Derived.Test.YtmmmbchlkjljaaaNear
import Derived.Test.YtmmmbchlkjljaaaEsA
namespace Go.Proofs.Ytmmmbchlkjljaaa

/-- Rounding up at the half, from the quotient rounded down. -/
theorem near_up {n d : Int} (hd : 1 ≤ d) (h : d - (n - n / d * d) ≤ n - n / d * d) : n / d + 1 = near n d := by
  have e := Int.mul_ediv_add_emod n d
  have e2 : n / d * d = d * (n / d) := Int.mul_comm _ _
  exact ((near_pos (m := n) hd).2 (by omega)).symm
theorem near_dn {n d : Int} (hd : 1 ≤ d) (h : ¬ d - (n - n / d * d) ≤ n - n / d * d) : n / d = near n d := by
  have e := Int.mul_ediv_add_emod n d
  have e2 : n / d * d = d * (n / d) := Int.mul_comm _ _
  exact ((near_pos (m := n) hd).1 (by omega)).symm
theorem near_rest {n d : Int} (hd : 1 ≤ d) : 0 ≤ n - n / d * d ∧ n - n / d * d < d ∧ n - d < n / d * d ∧ n / d * d ≤ n := by
  have e := Int.mul_ediv_add_emod n d
  have e2 : n / d * d = d * (n / d) := Int.mul_comm _ _
  have r0 := Int.emod_nonneg n (show d ≠ 0 by omega)
  have r1 := Int.emod_lt_of_pos n (show 0 < d by omega)
  omega
theorem quo_le {n d M : Int} (hd : 1 ≤ d) (h0 : 0 ≤ M) (h1 : -M ≤ n) (h2 : n ≤ M) : -M ≤ n / d ∧ n / d ≤ M := by
  have p := Int.mul_nonneg h0 (show 0 ≤ d - 1 by omega)
  have e : M * (d - 1) = M * d - M := by rw [Int.mul_sub, Int.mul_one]
  refine ⟨?_, ?_⟩
  · refine Int.le_ediv_of_mul_le (by omega) ?_
    rw [Int.neg_mul]; omega
  · refine Int.lt_add_one_iff.1 (Int.ediv_lt_of_lt_mul (by omega) ?_)
    rw [Int.add_mul]; omega
theorem near_lim {n d M : Int} (hd : 1 ≤ d) (h0 : 0 ≤ M) (h1 : -M ≤ n) (h2 : n ≤ M) : -M - 1 ≤ near n d ∧ near n d ≤ M + 1 := by
  have q := quo_le hd h0 h1 h2
  by_cases h : d - (n - n / d * d) ≤ n - n / d * d
  · rw [← near_up hd h]; omega
  · rw [← near_dn hd h]; omega
theorem near_scale {a d c : Int} (hc : 1 ≤ c) (_hd : 1 ≤ d) : near (c * a) (c * d) = near a d := by
  unfold near
  rw [show 2 * (c * a) + c * d = c * (2 * a + d) by grind, show 2 * (c * d) = c * (2 * d) by grind]
  exact Int.mul_ediv_mul_of_pos _ _ (by omega)
/-- The value of a line at an hour, for all sums with a line. -/
def atF (f : Ft) (h : Int) : Int := f.xx * f.y - f.x * f.xy + nF f * h
def oaF (f : Ft) (h : Int) : Int := near (atF f h) (dF f)
theorem atF_same (f : Ft) (h : Int) : f.y * dF f + nF f * (f.n * h - f.x) = f.n * atF f h := by
  unfold atF nF dF; grind
theorem fit_n {f : Ft} (hf : FtB f) (hd : 1 ≤ dF f) : 1 ≤ f.n := by
  by_cases h : f.n = 0
  · exfalso
    have h1 : dF f = - (f.x * f.x) := by unfold dF; rw [h]; omega
    have h2 := Int.mul_nonneg hf.x.1 hf.x.1
    omega
  · have := hf.n; omega
/-- The document's way to the value: what it computes on the way. -/
theorem doc_at {f : Ft} (hf : FtB f) (hd : 1 ≤ dF f) (h : Int) : (f.y + nF f / dF f * (f.n * h - f.x)) * dF f + (nF f - nF f / dF f * dF f) * (f.n * h - f.x) = f.n * atF f h ∧ near (f.n * atF f h) (f.n * dF f) = oaF f h := by
  refine ⟨?_, near_scale (fit_n hf hd) hd⟩
  rw [← atF_same]
  generalize nF f / dF f = q
  generalize nF f = a
  generalize dF f = d
  grind
theorem atF_bd {f : Ft} (hf : FtB f) {h : Int} (h0 : 0 ≤ h ∧ h ≤ 10000) : (-36000000000000000 ≤ f.xx * f.y ∧ f.xx * f.y ≤ 36000000000000000) ∧ (-36000000000000000 ≤ f.x * f.xy ∧ f.x * f.xy ≤ 36000000000000000) ∧ (-72000000000000000 ≤ nF f * h ∧ nF f * h ≤ 72000000000000000) ∧ -144000000000000000 ≤ atF f h ∧ atF f h ≤ 144000000000000000 := by
  have a := mulB (a := f.xx) (b := f.y) (A := 6000000000) (B := 6000000) (by have := hf.xx; omega) hf.xx.2 hf.y.1 hf.y.2
  have b := mulB (a := f.x) (b := f.xy) (A := 600000) (B := 60000000000) (by have := hf.x; omega) hf.x.2 hf.xy.1 hf.xy.2
  have c := mulB (a := nF f) (b := h) (A := 7200000000000) (B := 10000) hf.nn.1 hf.nn.2 (by omega) h0.2
  unfold atF
  omega
theorem doc_bd {f : Ft} (hf : FtB f) (hd : 1 ≤ dF f) {h : Int} (h0 : 0 ≤ h ∧ h ≤ 10000) :
    (-600000 ≤ f.n * h - f.x ∧ f.n * h - f.x ≤ 600000 ∧ 0 ≤ f.n * h ∧ f.n * h ≤ 600000) ∧
    (-7200000000000 ≤ nF f / dF f ∧ nF f / dF f ≤ 7200000000000) ∧
    (-4320000000000000000 ≤ nF f / dF f * (f.n * h - f.x) ∧ nF f / dF f * (f.n * h - f.x) ≤ 4320000000000000000) ∧
    (-7000000000000000000 ≤ (f.y + nF f / dF f * (f.n * h - f.x)) * dF f ∧ (f.y + nF f / dF f * (f.n * h - f.x)) * dF f ≤ 7000000000000000000) ∧
    (-216000000000000000 ≤ (nF f - nF f / dF f * dF f) * (f.n * h - f.x) ∧ (nF f - nF f / dF f * dF f) * (f.n * h - f.x) ≤ 216000000000000000) ∧
    (1 ≤ f.n * dF f ∧ f.n * dF f ≤ 21600000000000) ∧ (-7300000000000000000 ≤ f.n * atF f h ∧ f.n * atF f h ≤ 7300000000000000000) := by
  have hn := fit_n hf hd
  have r := near_rest (n := nF f) hd
  have q := quo_le (n := nF f) hd (by omega) hf.nn.1 hf.nn.2
  have e1 := (doc_at hf hd h).1
  have d1 := hf.d.2
  have n1 := hf.nn
  have m0 := Int.mul_nonneg (show 0 ≤ f.n by omega) h0.1
  have m1 := mulB (a := f.n) (b := h) (A := 60) (B := 10000) (by omega) hf.n.2 (by omega) h0.2
  have x1 := hf.x
  have o1 : -600000 ≤ f.n * h - f.x ∧ f.n * h - f.x ≤ 600000 := by omega
  have y1 := hf.y
  have k1 := Int.mul_le_mul hn hd (by omega) (by omega)
  have k2 := mulB (a := f.n) (b := dF f) (A := 60) (B := 360000000000) (by omega) hf.n.2 (by omega) d1
  rw [Int.one_mul] at k1
  generalize f.n * h - f.x = o at *
  generalize nF f / dF f = w at *
  generalize nF f = n at *
  generalize dF f = d at *
  have p1 := mulB (a := w) (b := o) (A := 7200000000000) (B := 600000) q.1 q.2 o1.1 o1.2
  have p2 := mulB (a := n - w * d) (b := o) (A := 360000000000) (B := 600000) (by omega) (by omega) o1.1 o1.2
  have p3 := mulB (a := w * d) (b := o) (A := 7560000000000) (B := 600000) (by omega) (by omega) o1.1 o1.2
  have p4 := mulB (a := f.y) (b := d) (A := 6000000) (B := 360000000000) y1.1 y1.2 (by omega) d1
  have e2 : (f.y + w * o) * d = f.y * d + w * d * o := by grind
  omega
/-- What DailyRate and OffAt return. -/
def lnC (f : Ft) : Int := if okFt f = true then (if dF f = 0 then 6 else 0) else 1
def drE (f : Ft) : Int × Int := if okFt f = true then (if dF f = 0 then (0, 6) else (near (24000 * nF f) (dF f), 0)) else (0, 1)
def oaE (f : Ft) (h : Int) : Int × Int := if okFt f = true then (if dF f = 0 then (0, 6) else (if inB h 0 10000 = true then (oaF f h, 0) else (0, 2))) else (0, 1)
theorem drE_1 {f : Ft} (h : okFt f = false) : drE f = (0, 1) := by simp [drE, h]
theorem drE_6 {f : Ft} (h : okFt f = true) (h2 : dF f = 0) : drE f = (0, 6) := by simp [drE, h, h2]
theorem drE_0 {f : Ft} (h : okFt f = true) (h2 : ¬ dF f = 0) : drE f = (near (24000 * nF f) (dF f), 0) := by simp [drE, h, h2]
theorem oaE_1 {f : Ft} {t : Int} (h : okFt f = false) : oaE f t = (0, 1) := by simp [oaE, h]
theorem oaE_6 {f : Ft} {t : Int} (h : okFt f = true) (h2 : dF f = 0) : oaE f t = (0, 6) := by simp [oaE, h, h2]
theorem oaE_2 {f : Ft} {t : Int} (h : okFt f = true) (h2 : ¬ dF f = 0) (h3 : inB t 0 10000 = false) : oaE f t = (0, 2) := by simp [oaE, h, h2, h3]
theorem oaE_0 {f : Ft} {t : Int} (h : okFt f = true) (h2 : ¬ dF f = 0) (h3 : inB t 0 10000 = true) : oaE f t = (oaF f t, 0) := by simp [oaE, h, h2, h3]
theorem rate_bd {f : Ft} (hf : FtB f) : -172800000000000000 ≤ 24000 * nF f ∧ 24000 * nF f ≤ 172800000000000000 := by
  have := hf.nn; omega
/-- The sums of valid readings are valid: by the inequality of Cauchy. -/
theorem cauchy (x n : Int) : ∀ ps : List (Int × Int), (ps.length : Int) * x * x - 2 * x * smF hrS ps + smF sqS ps ≥ 0 ∧ n = n
  | [] => by simp [smF]
  | p :: ps => by
    have h := (cauchy x n ps).1
    have h2 : 0 ≤ (x - p.1) * (x - p.1) := by
      rcases Int.le_total 0 (x - p.1) with h | h
      · exact Int.mul_nonneg h h
      · exact Int.mul_nonneg_of_nonpos_of_nonpos h h
    refine ⟨?_, rfl⟩
    have e : ((p :: ps).length : Int) * x * x - 2 * x * smF hrS (p :: ps) + smF sqS (p :: ps) = ((ps.length : Int) * x * x - 2 * x * smF hrS ps + smF sqS ps) + (x - p.1) * (x - p.1) := by
      simp only [List.length_cons, Int.natCast_add, smF, hrS, sqS]
      grind
    omega
theorem var_ge : ∀ ps : List (Int × Int), smF hrS ps * smF hrS ps ≤ (ps.length : Int) * smF sqS ps
  | [] => by simp [smF]
  | p :: ps => by
    have h := var_ge ps
    have c := (cauchy p.1 0 ps).1
    have e : ((p :: ps).length : Int) * smF sqS (p :: ps) - smF hrS (p :: ps) * smF hrS (p :: ps) = ((ps.length : Int) * smF sqS ps - smF hrS ps * smF hrS ps) + ((ps.length : Int) * p.1 * p.1 - 2 * p.1 * smF hrS ps + smF sqS ps) := by
      simp only [List.length_cons, Int.natCast_add, smF, hrS, sqS]
      grind
    omega
theorem fit_ok {ps : List (Int × Int)} (h : bdR ps) (hl : ps.length ≤ 60) : okFt (fitL ps) = true := by
  have a := smF_bd2 (hr_b h)
  have b := smF_bd2 (of_b h)
  have c := smF_bd2 (sq_b h)
  have d := smF_bd2 (dg_b h)
  have e := var_ge ps
  simp only [okFt, fitL, Bool.and_eq_true, inB_true]
  exact ⟨by omega, by omega, by omega, by omega, by omega, decide_eq_true (by omega)⟩
theorem fit_okR {ps : List (Int × Int)} (h : okRd ps = true) : okFt (fitL ps) = true := fit_ok (bdR_of h) (okRd_len h)
/-- The differences of the first k readings but the first one from those before. -/
def stK (ps : List (Int × Int)) (k : Nat) : List (Int × Int) := (List.range k).map fun i => ((pat ps (i + 1)).1 - (pat ps i).1, (pat ps (i + 1)).2 - (pat ps i).2)
theorem stK_len (ps : List (Int × Int)) (k : Nat) : (stK ps k).length = k := by simp [stK]
theorem stK_succ (ps : List (Int × Int)) (k : Nat) : stK ps (k + 1) = stK ps k ++ [((pat ps (k + 1)).1 - (pat ps k).1, (pat ps (k + 1)).2 - (pat ps k).2)] := by simp [stK, List.range_succ]
theorem stK_at {ps : List (Int × Int)} {i k : Nat} (h : i < k) : pat (stK ps k) i = ((pat ps (i + 1)).1 - (pat ps i).1, (pat ps (i + 1)).2 - (pat ps i).2) := by
  unfold stK
  rw [pat, List.getElem?_map, List.getElem?_range h]
  rfl
theorem step_bd {ps : List (Int × Int)} (h : okRd ps = true) {i : Nat} (hi : i + 1 < ps.length) : (1 ≤ (pat ps (i + 1)).1 - (pat ps i).1 ∧ (pat ps (i + 1)).1 - (pat ps i).1 ≤ 10000) ∧ -200000 ≤ (pat ps (i + 1)).2 - (pat ps i).2 ∧ (pat ps (i + 1)).2 - (pat ps i).2 ≤ 200000 := by
  have h1 := okRd_at h hi
  have h2 := okRd_at h (i := i) (by omega)
  have h3 := okRd_up h hi
  omega
/-- The rates between the first k of some steps. -/
def rtN (p : Int × Int) : Int := near (24000 * p.2) p.1
def rtK (ss : List (Int × Int)) (k : Nat) : List Int := (List.range k).map fun i => rtN (pat ss i)
theorem rtK_len (ss : List (Int × Int)) (k : Nat) : (rtK ss k).length = k := by simp [rtK]
theorem rtK_succ (ss : List (Int × Int)) (k : Nat) : rtK ss (k + 1) = rtK ss k ++ [rtN (pat ss k)] := by simp [rtK, List.range_succ]
/-- The jumps among the first k of some steps. -/
def jpK (ss : List (Int × Int)) (m : Int) : Nat → List Int
  | 0 => []
  | k + 1 => if m ≤ ((pat ss k).2.natAbs : Int) then jpK ss m k ++ [(k : Int) + 1] else jpK ss m k
theorem jpK_len (ss : List (Int × Int)) (m : Int) : ∀ k : Nat, (jpK ss m k).length ≤ k
  | 0 => Nat.le_refl _
  | k + 1 => by
    have := jpK_len ss m k
    unfold jpK
    split
    · simp; omega
    · omega
theorem jpK_yes {ss : List (Int × Int)} {m : Int} {k : Nat} (h : m ≤ ((pat ss k).2.natAbs : Int)) : jpK ss m (k + 1) = jpK ss m k ++ [(k : Int) + 1] := by simp [jpK, h]
theorem jpK_no {ss : List (Int × Int)} {m : Int} {k : Nat} (h : ¬ m ≤ ((pat ss k).2.natAbs : Int)) : jpK ss m (k + 1) = jpK ss m k := by simp [jpK, h]
/-- The residuals of the first k readings. -/
def rsK (ps : List (Int × Int)) (f : Ft) (k : Nat) : List Int := (List.range k).map fun i => (pat ps i).2 - oaF f (pat ps i).1
theorem rsK_len (ps : List (Int × Int)) (f : Ft) (k : Nat) : (rsK ps f k).length = k := by simp [rsK]
theorem rsK_succ (ps : List (Int × Int)) (f : Ft) (k : Nat) : rsK ps f (k + 1) = rsK ps f k ++ [(pat ps k).2 - oaF f (pat ps k).1] := by simp [rsK, List.range_succ]
/-- The errors of the first k readings. -/
def ofK (ps : List (Int × Int)) (k : Nat) : List Int := (List.range k).map fun i => (pat ps i).2
theorem ofK_len (ps : List (Int × Int)) (k : Nat) : (ofK ps k).length = k := by simp [ofK]
theorem ofK_succ (ps : List (Int × Int)) (k : Nat) : ofK ps (k + 1) = ofK ps k ++ [(pat ps k).2] := by simp [ofK, List.range_succ]
/-- What RatesBetween, JumpsOf, ResidualsOf return. -/
def stL (ps : List (Int × Int)) : List (Int × Int) := stK ps (ps.length - 1)
def rbE (ps : List (Int × Int)) : List Int × Int := if okRd ps = true then (rtK (stL ps) (ps.length - 1), 0) else ([], 1)
theorem rbE_1 {ps : List (Int × Int)} (h : okRd ps = false) : rbE ps = ([], 1) := by simp [rbE, h]
theorem rbE_0 {ps : List (Int × Int)} (h : okRd ps = true) : rbE ps = (rtK (stL ps) (ps.length - 1), 0) := by simp [rbE, h]
theorem rbE_len (ps : List (Int × Int)) : (rbE ps).1.length ≤ 1000000 := by
  cases h : okRd ps
  · rw [rbE_1 h]; simp
  · rw [rbE_0 h]
    have := okRd_len h
    show (rtK (stL ps) (ps.length - 1)).length ≤ 1000000
    rw [rtK_len]; omega
def joE (ps : List (Int × Int)) (m : Int) : List Int × Int := if okRd ps = true then (if inB m 0 200000 = true then (jpK (stL ps) m (ps.length - 1), 0) else ([], 2)) else ([], 1)
theorem joE_1 {ps : List (Int × Int)} {m : Int} (h : okRd ps = false) : joE ps m = ([], 1) := by simp [joE, h]
theorem joE_2 {ps : List (Int × Int)} {m : Int} (h : okRd ps = true) (h2 : inB m 0 200000 = false) : joE ps m = ([], 2) := by simp [joE, h, h2]
theorem joE_0 {ps : List (Int × Int)} {m : Int} (h : okRd ps = true) (h2 : inB m 0 200000 = true) : joE ps m = (jpK (stL ps) m (ps.length - 1), 0) := by simp [joE, h, h2]
theorem joE_len (ps : List (Int × Int)) (m : Int) : (joE ps m).1.length ≤ 1000000 := by
  cases h : okRd ps
  · rw [joE_1 h]; simp
  · cases h2 : inB m 0 200000
    · rw [joE_2 h h2]; simp
    · rw [joE_0 h h2]
      have := okRd_len h
      have := jpK_len (stL ps) m (ps.length - 1)
      show (jpK (stL ps) m (ps.length - 1)).length ≤ 1000000
      omega
def roE (ps : List (Int × Int)) : List Int × Int := if okRd ps = true then (if dF (fitL ps) = 0 then ([], 6) else (rsK ps (fitL ps) ps.length, 0)) else ([], 1)
theorem roE_1 {ps : List (Int × Int)} (h : okRd ps = false) : roE ps = ([], 1) := by simp [roE, h]
theorem roE_6 {ps : List (Int × Int)} (h : okRd ps = true) (h2 : dF (fitL ps) = 0) : roE ps = ([], 6) := by simp [roE, h, h2]
theorem roE_0 {ps : List (Int × Int)} (h : okRd ps = true) (h2 : ¬ dF (fitL ps) = 0) : roE ps = (rsK ps (fitL ps) ps.length, 0) := by simp [roE, h, h2]
theorem roE_len (ps : List (Int × Int)) : (roE ps).1.length ≤ 1000000 := by
  cases h : okRd ps
  · rw [roE_1 h]; simp
  · by_cases h2 : dF (fitL ps) = 0
    · rw [roE_6 h h2]; simp
    · rw [roE_0 h h2]
      have := okRd_len h
      show (rsK ps (fitL ps) ps.length).length ≤ 1000000
      rw [rsK_len]; omega
end Go.Proofs.Ytmmmbchlkjljaaa

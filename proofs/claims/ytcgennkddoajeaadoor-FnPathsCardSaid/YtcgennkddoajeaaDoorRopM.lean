/-
  Ratios at paths: the plain arithmetic.
-/
import Derived.Test.YtcgennkddoajeaaDoorRat
import Derived.Lib.SlTrimSet
namespace Go.Proofs.YtcgennkddoajeaaDoor

/-- The bounds of a place in the tree. -/
structure RpS where
  a : Int
  b : Int
  c : Int
  d : Int
def rp0 : RpS := ⟨0, 1, 1, 0⟩
def rpStep (s : RpS) (ch : UInt8) : RpS := if ch = 76 then ⟨s.a, s.b, s.c + s.a, s.d + s.b⟩ else ⟨s.a + s.c, s.b + s.d, s.c, s.d⟩
def rpBig (s : RpS) : Bool := decide (1000000000 < s.a + s.c) || decide (1000000000 < s.b + s.d)
/-- Where a path leads; none if it passes a ratio that is out of range. -/
def rp : List UInt8 → RpS → Option RpS
  | [], s => some s
  | ch :: l, s => if rpBig (rpStep s ch) then none else rp l (rpStep s ch)
theorem rp_no {ch : UInt8} {l : List UInt8} {s : RpS} (h : rpBig (rpStep s ch) = true) : rp (ch :: l) s = none := by rw [rp, if_pos h]
theorem rp_go {ch : UInt8} {l : List UInt8} {s : RpS} (h : rpBig (rpStep s ch) = false) : rp (ch :: l) s = rp l (rpStep s ch) := by rw [rp, h]; simp
structure RpI (s : RpS) : Prop where
  a0 : 0 ≤ s.a
  b0 : 0 ≤ s.b
  c0 : 0 ≤ s.c
  d0 : 0 ≤ s.d
  det : s.c * s.b - s.a * s.d = 1
  ac : 1 ≤ s.a + s.c
  bd : 1 ≤ s.b + s.d
  sm : s.a + s.c ≤ 1000000000
  sm2 : s.b + s.d ≤ 1000000000
theorem rpI_start : RpI rp0 := by constructor <;> simp [rp0]
theorem rpI_step {s : RpS} (h : RpI s) (ch : UInt8) (hs : rpBig (rpStep s ch) = false) : RpI (rpStep s ch) := by
  obtain ⟨a0, b0, c0, d0, det, ac, bd, sm, sm2⟩ := h
  unfold rpBig at hs
  rw [Bool.or_eq_false_iff, decide_eq_false_iff_not, decide_eq_false_iff_not] at hs
  obtain ⟨h1, h2⟩ := hs
  unfold rpStep at h1 h2 ⊢
  by_cases e : ch = 76
  · simp only [if_pos e] at h1 h2 ⊢
    constructor <;> dsimp only <;> first | omega | grind
  · simp only [if_neg e] at h1 h2 ⊢
    constructor <;> dsimp only <;> first | omega | grind
theorem rp_gcd {s : RpS} (h : s.c * s.b - s.a * s.d = 1) : Int.gcd (s.a + s.c) (s.b + s.d) = 1 := by
  have hd : ((Int.gcd (s.a + s.c) (s.b + s.d) : Nat) : Int) ∣ 1 := by
    have e : (s.a + s.c) * s.b - s.a * (s.b + s.d) = 1 := by grind
    rw [← e]
    exact Int.dvd_sub (Int.dvd_mul_of_dvd_left (Int.gcd_dvd_left _ _)) (Int.dvd_mul_of_dvd_right (Int.gcd_dvd_right _ _))
  have := Int.le_of_dvd (by omega) hd
  have h0 : Int.gcd (s.a + s.c) (s.b + s.d) ≠ 0 := by intro h0; rw [h0] at hd; simp at hd
  omega
/-- The mediant is a ratio unless it is too big. -/
theorem rp_ok {s : RpS} (h : RpI s) (ch : UInt8) : okR ((rpStep s ch).a + (rpStep s ch).c) ((rpStep s ch).b + (rpStep s ch).d) = !rpBig (rpStep s ch) := by
  cases hb : rpBig (rpStep s ch)
  · have := rpI_step h ch hb
    obtain ⟨a0, b0, c0, d0, det, ac, bd, sm, sm2⟩ := this
    rw [Bool.not_false]
    exact okR_true.2 ⟨bd, sm2, by omega, sm, rp_gcd det⟩
  · rw [Bool.not_true]
    unfold rpBig at hb
    rw [Bool.or_eq_true, decide_eq_true_eq, decide_eq_true_eq] at hb
    cases ho : okR ((rpStep s ch).a + (rpStep s ch).c) ((rpStep s ch).b + (rpStep s ch).d)
    · rfl
    · have := okR_bd ho
      omega
theorem rp_bd {s : RpS} (h : RpI s) (ch : UInt8) : 0 ≤ (rpStep s ch).a ∧ 0 ≤ (rpStep s ch).b ∧ 0 ≤ (rpStep s ch).c ∧ 0 ≤ (rpStep s ch).d ∧ (rpStep s ch).a ≤ 2000000000 ∧ (rpStep s ch).b ≤ 2000000000 ∧ (rpStep s ch).c ≤ 2000000000 ∧ (rpStep s ch).d ≤ 2000000000 := by
  obtain ⟨a0, b0, c0, d0, det, ac, bd, sm, sm2⟩ := h
  unfold rpStep
  by_cases e : ch = 76
  · simp only [if_pos e]; omega
  · simp only [if_neg e]; omega
/-- The letters of a path. -/
def lr (l : List UInt8) : Bool := l.all fun b => b == 76 || b == 82
def rpN (l : List UInt8) : Int := if l.length > 200 then 0 else if lr l = false then 0 else match rp l rp0 with | none => 0 | some s => s.a + s.c
def rpD (l : List UInt8) : Int := if l.length > 200 then 0 else if lr l = false then 0 else match rp l rp0 with | none => 0 | some s => s.b + s.d
def rpC (l : List UInt8) : Int := if l.length > 200 then 5 else if lr l = false then 7 else match rp l rp0 with | none => 2 | some _ => 0
theorem rp_long {l : List UInt8} (h : 200 < l.length) : rpN l = 0 ∧ rpD l = 0 ∧ rpC l = 5 := by simp [rpN, rpD, rpC, h]
theorem rp_syn {l : List UInt8} (h : ¬ 200 < l.length) (h2 : lr l = false) : rpN l = 0 ∧ rpD l = 0 ∧ rpC l = 7 := by simp [rpN, rpD, rpC, h, h2]
theorem rp_none {l : List UInt8} (h : ¬ 200 < l.length) (h2 : lr l = true) (h3 : rp l rp0 = none) : rpN l = 0 ∧ rpD l = 0 ∧ rpC l = 2 := by simp [rpN, rpD, rpC, h, h2, h3]
theorem rp_some {l : List UInt8} {s : RpS} (h : ¬ 200 < l.length) (h2 : lr l = true) (h3 : rp l rp0 = some s) : rpN l = s.a + s.c ∧ rpD l = s.b + s.d ∧ rpC l = 0 := by simp [rpN, rpD, rpC, h, h2, h3]
theorem dw_nil (p : UInt8 → Bool) : ∀ l : List UInt8, l.dropWhile p = [] ↔ ∀ x ∈ l, p x = true
  | [] => by simp
  | b :: l => by
    rw [List.dropWhile_cons]
    by_cases h : p b = true
    · rw [if_pos h, dw_nil p l]; simp [h]
    · rw [if_neg h]; simp [h]
theorem dw_head (p : UInt8 → Bool) : ∀ (l : List UInt8) (x : UInt8) (t : List UInt8), l.dropWhile p = x :: t → p x = false
  | [], x, t, h => by simp at h
  | b :: l, x, t, h => by
    rw [List.dropWhile_cons] at h
    by_cases hb : p b = true
    · rw [if_pos hb] at h; exact dw_head p l x t h
    · rw [if_neg hb] at h
      injection h with h1 _
      rw [← h1]; simpa using hb
theorem dw_mem (p : UInt8 → Bool) (l : List UInt8) {x : UInt8} (h : x ∈ l.dropWhile p) : x ∈ l := (List.dropWhile_sublist p).subset h
theorem trim_lr (l : List UInt8) : (Lib.trimS l [76, 82] = []) ↔ lr l = true := by
  unfold Lib.trimS Lib.trimLeftS Lib.trimRightS lr
  have hp : (fun b : UInt8 => ([76, 82] : List UInt8).contains b) = fun b => (b == 76 || b == 82) := by funext b; simp; rfl
  rw [hp, dw_nil, List.all_eq_true]
  constructor
  · intro h
    cases hn : l.reverse.dropWhile (fun b => b == 76 || b == 82) with
    | nil =>
      rw [dw_nil] at hn
      intro b hb
      exact hn b (by simpa using hb)
    | cons x t =>
      exfalso
      have hd := dw_head _ _ _ _ hn
      have := h x (by rw [hn]; simp)
      rw [this] at hd; cases hd
  · intro h x hx
    rw [List.mem_reverse] at hx
    exact h x (by simpa using dw_mem _ _ hx)
end Go.Proofs.YtcgennkddoajeaaDoor

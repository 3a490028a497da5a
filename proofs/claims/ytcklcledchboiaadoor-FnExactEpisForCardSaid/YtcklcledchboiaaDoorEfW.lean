/-
  impl.EpisFor and spec.EpisFor, rows of gears, and the walk of laws.FnExactEpisFor.
-/
import Derived.Test.YtcklcledchboiaaDoorEpR
import Derived.Test.YtcklcledchboiaaDoorEpRj
import Derived.Deep.RegionHeld3
namespace Go.Proofs.YtcklcledchboiaaDoor
open Go.RowKit

/-- Lowest terms, for any divisor but 0. -/
theorem low_rawE {n d : Int} (hd : d ≠ 0) : 1 ≤ lowD n d ∧ Int.gcd (mkN n d) (lowD n d) = 1 ∧ mkN n d * d = n * lowD n d ∧ (((mkN n d).natAbs : Nat) : Int) = lowN n d := by
  have hg : 0 < Int.gcd n d := Int.gcd_pos_of_ne_zero_right n hd
  have hc : Nat.Coprime (n.natAbs / Int.gcd n d) (d.natAbs / Int.gcd n d) := Nat.coprime_div_gcd_div_gcd hg
  have eN : lowN n d = ((n.natAbs / Int.gcd n d : Nat) : Int) := by unfold lowN; rw [Int.natCast_ediv]
  have eD : lowD n d = ((d.natAbs / Int.gcd n d : Nat) : Int) := by unfold lowD; rw [Int.natCast_ediv]
  have pD : 0 < d.natAbs / Int.gcd n d := Nat.div_pos (Nat.le_of_dvd (by omega) (Nat.gcd_dvd_right _ _)) hg
  have cN : (mkN n d).natAbs = n.natAbs / Int.gcd n d := by
    unfold mkN; rw [eN]; generalize n.natAbs / Int.gcd n d = m; split <;> omega
  have m1 : n.natAbs / Int.gcd n d * Int.gcd n d = n.natAbs := Nat.div_mul_cancel (Nat.gcd_dvd_left _ _)
  have m2 : d.natAbs / Int.gcd n d * Int.gcd n d = d.natAbs := Nat.div_mul_cancel (Nat.gcd_dvd_right _ _)
  refine ⟨by omega, ?_, ?_, by rw [cN, eN]⟩
  · show Nat.gcd (mkN n d).natAbs (lowD n d).natAbs = 1
    rw [cN, eD, Int.natAbs_natCast]
    exact hc
  · have key : ((n.natAbs / Int.gcd n d : Nat) : Int) * ((d.natAbs : Nat) : Int) = ((n.natAbs : Nat) : Int) * ((d.natAbs / Int.gcd n d : Nat) : Int) := by
      generalize n.natAbs / Int.gcd n d = A at *
      generalize d.natAbs / Int.gcd n d = B at *
      generalize Int.gcd n d = g at *
      rw [← m1, ← m2]; push_cast; grind
    unfold mkN
    rw [eN, eD]
    generalize n.natAbs / Int.gcd n d = A at *
    generalize d.natAbs / Int.gcd n d = B at *
    by_cases hn : n < 0 <;> by_cases hd0 : d < 0
    · simp only [hn, hd0, decide_true, bne_self_eq_false, Bool.false_eq_true, if_false]
      have e1 : ((n.natAbs : Nat) : Int) = -n := by omega
      have e2 : ((d.natAbs : Nat) : Int) = -d := by omega
      rw [e1, e2] at key; grind
    · simp only [hn, hd0, decide_true, decide_false, bne_iff_ne, ne_eq, Bool.true_eq_false, not_false_eq_true, if_true]
      have e1 : ((n.natAbs : Nat) : Int) = -n := by omega
      have e2 : ((d.natAbs : Nat) : Int) = d := by omega
      rw [e1, e2] at key; grind
    · simp only [hn, hd0, decide_true, decide_false, bne_iff_ne, ne_eq, Bool.false_eq_true, not_false_eq_true, if_true]
      have e1 : ((n.natAbs : Nat) : Int) = n := by omega
      have e2 : ((d.natAbs : Nat) : Int) = -d := by omega
      rw [e1, e2] at key; grind
    · simp only [hn, hd0, decide_false, bne_self_eq_false, Bool.false_eq_true, if_false]
      have e1 : ((n.natAbs : Nat) : Int) = n := by omega
      have e2 : ((d.natAbs : Nat) : Int) = d := by omega
      rw [e1, e2] at key; exact key
theorem cross_rawE {n d p q : Int} (hd : 1 ≤ d) (hq : 1 ≤ q) (g1 : Int.gcd n d = 1) (g2 : Int.gcd p q = 1) (h : n * q = p * d) : n = p ∧ d = q := by
  have k1 : d ∣ q := dvd_of_gcd (n := n) ⟨p, by rw [h]; exact Int.mul_comm _ _⟩ g1
  have k2 : q ∣ d := dvd_of_gcd (n := p) ⟨n, by rw [← h]; exact Int.mul_comm _ _⟩ g2
  have l1 := Int.le_of_dvd (by omega) k1
  have l2 := Int.le_of_dvd (by omega) k2
  obtain rfl : d = q := by omega
  exact ⟨Int.eq_of_mul_eq_mul_right (by omega) h, rfl⟩
theorem r_redE {x y : Int} (hy : y ≠ 0) (hc : rC x y = 0) : okR (rA x y) (rB x y) = true ∧ rA x y * y = x * rB x y := by
  have hk : lowOk x y = true := by
    cases h : lowOk x y
    · have := (r_no hy h).2.2; omega
    · rfl
  obtain ⟨e1, e2, _⟩ := r_yes hy hk
  obtain ⟨a1, a2, a3, a4⟩ := low_rawE (n := x) hy
  obtain ⟨k1, k2⟩ := lowOk_in hk
  rw [e1, e2]
  exact ⟨okR_true.2 ⟨a1, k2, by omega, by omega, a2⟩, a3⟩
theorem r_fitE {x y a b : Int} (hy : y ≠ 0) (h : okR a b = true) (e : a * y = x * b) : rA x y = a ∧ rB x y = b ∧ rC x y = 0 := by
  obtain ⟨a1, a2, a3, a4⟩ := low_rawE (n := x) hy
  obtain ⟨b1, b2, b3, b4, b5⟩ := okR_true.1 h
  have hx : mkN x y * b = a * lowD x y := by
    have : (mkN x y * b) * y = (a * lowD x y) * y := by grind
    exact Int.eq_of_mul_eq_mul_right hy this
  obtain ⟨c1, c2⟩ := cross_rawE a1 b1 a2 b5 hx
  have hk : lowOk x y = true := by
    unfold lowOk; rw [← a4, c1, c2]; exact decide_eq_true ⟨by omega, by omega⟩
  obtain ⟨e1, e2, e3⟩ := r_yes hy hk
  exact ⟨e1.trans c1, e2.trans c2, e3⟩


/-- The planet that a sun leaves, whether it serves, and the gears. -/
def plE (num den s : Int) : Int := s * den / (2 * num) - s
def cdE (num den s p c : Int) : Bool := decide (num * (s + (s + 2 * p)) = den * s) && okE s (s + 2 * p) p c
def htE (num den lo hi c s : Int) : Bool := decide (0 < num) && decide (lo ≤ plE num den s ∧ plE num den s ≤ hi) && cdE num den s (plE num den s) c
abbrev G4 := Int × Int × Int × Int
def gE (num den c s : Int) : G4 := (s, s + 2 * plE num den s, plE num den s, c)
def efL (num den lo hi c : Int) : Nat → List G4
  | 0 => []
  | n + 1 => efL num den lo hi c n ++ (if htE num den lo hi c (lo + (n : Int)) then [gE num den c (lo + (n : Int))] else [])
theorem efL_mono (num den lo hi c : Int) (n : Nat) : ∀ k, (efL num den lo hi c n).length ≤ (efL num den lo hi c (n + k)).length
  | 0 => Nat.le_refl _
  | k + 1 => by
    have := efL_mono num den lo hi c n k
    rw [← Nat.add_assoc, efL, List.length_append]
    omega
theorem cd_only {num den s p c : Int} (_hs : 1 ≤ s) (hd : 1 ≤ den) (h : cdE num den s p c = true) : 0 < num ∧ p = plE num den s := by
  unfold cdE at h
  simp only [Bool.and_eq_true, decide_eq_true_eq] at h
  obtain ⟨he, ho⟩ := h
  obtain ⟨_, _, ⟨p1, p2⟩, _⟩ := okE_bd ho
  have hpos : 0 < den * s := Int.mul_pos (by omega) (by omega)
  have hn : 0 < num := by
    rcases Int.lt_or_le 0 num with h1 | h1
    · exact h1
    · have : num * (s + (s + 2 * p)) ≤ 0 := Int.mul_nonpos_of_nonpos_of_nonneg h1 (by omega)
      omega
  refine ⟨hn, ?_⟩
  unfold plE
  have e : s * den = (2 * num) * (s + p) := by
    have h2 : num * (s + (s + 2 * p)) = 2 * num * (s + p) := by grind
    rw [Int.mul_comm s den, ← he, h2]
  rw [e, Int.mul_ediv_cancel_left _ (by omega)]
  omega
theorem mk_self {m n : Int} (h : okR m n = true) : lowOk m n = true ∧ mkA m n = m ∧ mkB m n = n := by
  obtain ⟨h1, h2, h3, h4, h5⟩ := okR_true.1 h
  obtain ⟨e1, e2, e3⟩ := mk_cop h1 h5
  have k : (inT m && inT n) = true := by simp [inT]; omega
  rw [e1, e2, e3, k]
  exact ⟨rfl, rfl, rfl⟩
theorem mk_zero {n : Int} (h : 1 ≤ n) (h2 : n ≤ 1000000000) : lowOk 0 n = true ∧ mkA 0 n = 0 ∧ mkB 0 n = 1 := by
  have hg : Int.gcd 0 n = n.natAbs := by simp
  have e1 : lowN 0 n = 0 := by unfold lowN; simp
  have e2 : lowD 0 n = 1 := by unfold lowD; rw [hg]; exact Int.ediv_self (by omega)
  have hl : lowOk 0 n = true := by unfold lowOk; rw [e1, e2]; decide
  refine ⟨hl, ?_, ?_⟩
  · rw [(mk_yes hl).1]; unfold mkN; rw [e1]; simp
  · rw [(mk_yes hl).2, e2]
theorem mu_one {m n : Int} (h : okR m n = true) : mu3 1 1 m n = (m, n, 0) := by
  obtain ⟨a, b, c⟩ := mk_self h
  have hm := mu_make (a := 1) (b := 1) (by decide +kernel) h
  have e1 : mulX 1 m = m := by unfold mulX; omega
  have e2 : mulX 1 n = n := by unfold mulX; omega
  rw [hm, e1, e2, a, b, c]; rfl
theorem mu_zero {m n : Int} (h : okR m n = true) : mu3 0 1 m n = (0, 1, 0) := by
  obtain ⟨h1, h2, _⟩ := okR_bd h
  obtain ⟨a, b, c⟩ := mk_zero h1 h2
  have hm := mu_make (a := 0) (b := 1) (by decide +kernel) h
  have e1 : mulX 0 m = 0 := by unfold mulX; omega
  have e2 : mulX 1 n = n := by unfold mulX; omega
  rw [hm, e1, e2, a, b, c]; rfl
theorem ad_zero {m n : Int} (h : okR m n = true) : ad3 m n 0 1 = (m, n, 0) := by
  obtain ⟨a, b, c⟩ := mk_self h
  have hm := ad_make2 h (m := 0) (n := 1) (by decide +kernel)
  have e1 : addX m n 0 1 = m := by unfold addX; omega
  have e2 : mulX n 1 = n := by unfold mulX; omega
  rw [hm, e1, e2, a, b, c]; rfl
theorem ca_10 {s r p c : Int} (h : okE s r p c = true) : ca3 s r p c 1 1 0 1 = (rA s (s + r), rB s (s + r), 0) := by
  obtain ⟨⟨t1, t2⟩, ⟨t3, t4⟩, _⟩ := okE_bd h
  have k1 := teeth_ok (a := s) (b := s + r) (by omega) (by omega) (by omega) (by omega)
  have k2 := teeth_ok (a := r) (b := s + r) (by omega) (by omega) (by omega) (by omega)
  have g1 : okR 1 1 = true := by decide +kernel
  have g0 : okR 0 1 = true := by decide +kernel
  unfold ca3
  rw [h, g1, g0, Bool.and_self, Bool.and_self, if_pos rfl, bind3_go (mu_one k1) rfl, bind3_go (mu_zero k2) rfl, ad_zero k1]
theorem turns_iff {s r num den : Int} (h1 : 1 ≤ s + r) (ho : okR num den = true) (hc : rC s (s + r) = 0) : (rA s (s + r) = num ∧ rB s (s + r) = den) ↔ num * (s + r) = den * s := by
  constructor
  · rintro ⟨rfl, rfl⟩
    have := (r_redE (x := s) (y := s + r) (by omega) hc).2
    rw [this, Int.mul_comm]
  · intro h
    obtain ⟨a, b, _⟩ := r_fitE (x := s) (y := s + r) (by omega) ho (by rw [h, Int.mul_comm])
    exact ⟨a, b⟩
/-- The program's test is the model's. -/
theorem hit_iff {num den s p c : Int} (ho : okR num den = true) : (epiR s (s + 2 * p) p c 0 2 = (num, den, 0)) ↔ cdE num den s p c = true := by
  cases hk : okE s (s + 2 * p) p c
  · rw [epiR_no hk]
    unfold cdE
    rw [hk]
    simp
  · obtain ⟨⟨t1, t2⟩, ⟨t3, t4⟩, ⟨t5, t6⟩, _⟩ := okE_bd hk
    have hl := low_small (a := s) (b := s + (s + 2 * p)) (by omega) (by omega) (by omega) (by omega)
    have hc := (r_yes (n := s) (d := s + (s + 2 * p)) (by omega) hl).2.2
    rw [epiR_02 hk, ca_10 hk]
    have ti := turns_iff (s := s) (r := s + 2 * p) (by omega) ho hc
    unfold cdE
    rw [hk, Bool.and_true, decide_eq_true_eq, ← ti]
    simp
set_option maxHeartbeats 1000000 in
theorem gearsWith4_any (a b c : Int) (w : World) (h1 : -1000000000000000000 < a ∧ a < 1000000000000000000) (h2 : -1000000000000000000 < b ∧ b < 1000000000000000000) :
    Calls Tryd.prog 59 #[.int .i64 a, .int .i64 b, .int .i64 c] w fun e w' => e = .returned (.agg #[.int .i64 a, .int .i64 (a + 2 * b), .int .i64 b, .int .i64 c]) ∧ Below w.heap.size w w' := by
  have q1 : IntKind.i64.wrap (2 * b) = 2 * b := IntWalk.i64_in _ (by omega)
  have q2 : IntKind.i64.wrap (a + 2 * b) = a + 2 * b := IntWalk.i64_in _ (by omega)
  go_enter Tryd.func59, Tryd.ntmps59
  go_wp2_with fail
  exact bodyPost_ret (v := .agg #[.int .i64 a, .int .i64 (a + 2 * b), .int .i64 b, .int .i64 c]) (by simp [results, Tryd.results59, go_sem]) rfl ⟨rfl, bA (bR _) _⟩
/-- The cells of a list of gears. -/
def epC (xs : List G4) : List Value := xs.flatMap fun x => [.int .i64 x.1, .int .i64 x.2.1, .int .i64 x.2.2.1, .int .i64 x.2.2.2]
theorem epC_snoc (xs : List G4) (x : G4) : epC (xs ++ [x]) = epC xs ++ [.int .i64 x.1, .int .i64 x.2.1, .int .i64 x.2.2.1, .int .i64 x.2.2.2] := by simp [epC]
def EfR (w0 w : World) (v : Value) (xs : List G4) : Prop := w.ownsRow w0.heap.size 25 4 v xs.length (epC xs) ∧ Below w0.heap.size w0 w
theorem EfR.keep {w0 w w' : World} {v : Value} {xs : List G4} (h : EfR w0 w v xs) (hb : Below w.heap.size w w') : EfR w0 w' v xs := ⟨own_keep h.1 hb, bT h.2 hb⟩
theorem EfR.nil {w w' : World} (hb : Below w.heap.size w w') : EfR w w' (.slice none 0 0) [] := ⟨World.ownsRow_nil _ _ _ _, hb⟩
theorem EfR.lower {w w0 w1 : World} {v : Value} {xs : List G4} (h : EfR w0 w1 v xs) (hb : Below w.heap.size w w0) : EfR w w1 v xs := ⟨own_lower h.1 hb.size, bT hb h.2⟩
theorem EfR.slice {w0 w : World} {v : Value} {xs : List G4} (h : EfR w0 w v xs) : ∃ ao cap, v = .slice ao xs.length cap := by
  rcases h.1.2 with ⟨rfl, h0⟩ | ⟨g, cap, cur, rfl, _⟩
  · exact ⟨none, 0, by rw [h0]⟩
  · exact ⟨_, cap, rfl⟩
theorem infoEp : (Tryd.prog.info? 25).map (fun i => (i.zero, i.size, i.bytes)) = some (some (.agg #[.int .i64 0, .int .i64 0, .int .i64 0, .int .i64 0]), 4, 32) := by kernel_rfl
theorem src4 (W : World) (a b c d : Value) (t : TypeId) : ∀ (j : Nat) (u : Value), [a, b, c, d][j]? = some u → (W.alloc (.cells #[a, b, c, d] t)).cell? ((⟨W.heap.size, 0, none⟩ : Addr).add j) = some u := by
  intro j u hj
  match j, hj with
  | 0, hj => simp at hj; subst hj; simp [go_sem, Addr.add]
  | 1, hj => simp at hj; subst hj; simp [go_sem, Addr.add]
  | 2, hj => simp at hj; subst hj; simp [go_sem, Addr.add]
  | 3, hj => simp at hj; subst hj; simp [go_sem, Addr.add]
  | (j + 4), hj => simp at hj
theorem app_ef {ops : Array Oper} {rest : List Oper} {o : Oper} {a : Act} {Q : Exit → Act → World → Prop} {w0 w : World} (hgd : o.guard = none) (s x : Operand)
    (ho : o.op = .call { callee := .builtin .append, args := #[s, x], argTypes := #[32, 32] }) (v : Value) (xs : List G4) (g : G4) (hs : a.eval s = v) (hr : EfR w0 w v xs)
    (hx : a.eval x = .slice (some ⟨w.heap.size, 0, none⟩) 1 1) (hl : xs.length ≤ 100)
    (h : ∀ v' w', EfR w0 w' v' (xs ++ [g]) → wpList Tryd.prog ops Q rest (a.put o.dst v') w') : wpList Tryd.prog ops Q (o :: rest) a (w.alloc (.cells #[.int .i64 g.1, .int .i64 g.2.1, .int .i64 g.2.2.1, .int .i64 g.2.2.2] 25)) := by
  obtain ⟨i0, hi, hz0, hz1, hz2⟩ := info_parts infoEp
  refine wpList_append_own _ hgd s x 32 ho w0.heap.size 25 i0 (.agg #[.int .i64 0, .int .i64 0, .int .i64 0, .int .i64 0]) 4 32 Tryd.underlying32 hi hz0 hz1 hz2 rfl (by decide) v xs.length (epC xs) hs ((hr.keep (bA (bR w) _)).1) ⟨w.heap.size, 0, none⟩ 1 1 [.int .i64 g.1, .int .i64 g.2.1, .int .i64 g.2.2.1, .int .i64 g.2.2.2] hx rfl (src4 _ _ _ _ _ _) (by intro y hy; simp at hy; rcases hy with rfl | rfl | rfl | rfl <;> rfl) (by unfold maxLen; omega) (by omega) (by have := hr.2.size; simp; omega) ?_
  intro v' w' hown hg _
  refine h v' w' ⟨?_, bel_grownE (bA hr.2 _) hg (by have := hr.2.size; simp; omega) (fun r e => (own_blk hr.1 r e).1)⟩
  rw [epC_snoc, List.length_append]; exact hown
/-- What EpisFor returns. -/
def rgE (lo hi c : Int) : Bool := decide (6 ≤ lo ∧ lo ≤ hi ∧ hi ≤ 240 ∧ 1 ≤ c ∧ c ≤ 8)
def ef2 (num den lo hi c : Int) : List G4 × Int :=
  if okR num den then (if rgE lo hi c then (if 20 < (efL num den lo hi c (hi - lo + 1).toNat).length then ([], 5) else (efL num den lo hi c (hi - lo + 1).toNat, 0)) else ([], 2)) else ([], 1)
theorem ef_no1 {num den lo hi c : Int} (h : okR num den = false) : ef2 num den lo hi c = ([], 1) := by simp [ef2, h]
theorem ef_no2 {num den lo hi c : Int} (h : okR num den = true) (h2 : ¬ (6 ≤ lo ∧ lo ≤ hi ∧ hi ≤ 240 ∧ 1 ≤ c ∧ c ≤ 8)) : ef2 num den lo hi c = ([], 2) := by
  have : rgE lo hi c = false := by unfold rgE; exact decide_eq_false h2
  simp [ef2, h, this]
theorem ef_go {num den lo hi c : Int} (h : okR num den = true) (h2 : 6 ≤ lo ∧ lo ≤ hi ∧ hi ≤ 240 ∧ 1 ≤ c ∧ c ≤ 8) : ef2 num den lo hi c = (if 20 < (efL num den lo hi c (hi - lo + 1).toNat).length then ([], 5) else (efL num den lo hi c (hi - lo + 1).toNat, 0)) := by
  have : rgE lo hi c = true := by unfold rgE; exact decide_eq_true h2
  simp only [ef2, h, this, if_true]
theorem efL_none {num den lo hi c : Int} (h : ¬ 0 < num) : ∀ n, efL num den lo hi c n = []
  | 0 => rfl
  | n + 1 => by
    rw [efL, efL_none h n]
    have : htE num den lo hi c (lo + (n : Int)) = false := by simp [htE, h]
    rw [this]; rfl
def EfPost (w : World) (x : List G4 × Int) (e : Ending) (w' : World) : Prop := ∃ v, e = .returned (.tuple #[v, .int .i64 x.2]) ∧ EfR w w' v x.1
theorem ef_post_nil {w w' : World} {k : Int} (hb : Below w.heap.size w w') : EfPost w ([], k) (.returned (.tuple #[.slice none 0 0, .int .i64 k])) w' := ⟨_, rfl, EfR.nil hb⟩
theorem efL_full {num den lo hi c : Int} {k n : Nat} (h : (efL num den lo hi c k).length = 20) (ht : htE num den lo hi c (lo + (k : Int)) = true) (hk : k < n) : 20 < (efL num den lo hi c n).length := by
  obtain ⟨j, rfl⟩ : ∃ j, n = k + 1 + j := ⟨n - (k + 1), by omega⟩
  have := efL_mono num den lo hi c (k + 1) j
  have e : (efL num den lo hi c (k + 1)).length = 21 := by rw [efL, List.length_append, h, ht]; rfl
  omega
set_option maxRecDepth 100000 in
set_option maxHeartbeats 8000000 in
theorem EpisForI_any (num den lo hi c : Int) (w : World) (hS : Sines w) :
    Calls Tryd.prog 19 #[.agg #[.int .i64 num, .int .i64 den], .int .i64 lo, .int .i64 hi, .int .i64 c] w (EfPost w (ef2 num den lo hi c)) := by
  have B0 := Lib.hid (Box2.new w num den 27)
  have L0 := Lib.hid (bA (bR w) (.cells #[.int .i64 num, .int .i64 den] 27))
  have S0 := Lib.hid (hS.keep L0.out)
  have VR := Lib.hid (fun W => valid_any num den W)
  clear hS
  cases h1 : okR num den
  · rw [ef_no1 h1]
    rw [h1] at VR
    clear h1
    go_enter Tryd.func19, Tryd.ntmps19
    go_wp2_with fail
    refine (VR.out _).mono ?_
    rintro e w1 ⟨rfl, hb⟩
    have RN := Lib.hid (ef_post_nil (k := 1) (bT L0.out hb))
    clear hb
    go_wp2_with fail
    go_ret2
    exact RN.out
  · by_cases h2 : 6 ≤ lo ∧ lo ≤ hi ∧ hi ≤ 240 ∧ 1 ≤ c ∧ c ≤ 8
    · have EG := Lib.hid (ef_go h1 h2)
      obtain ⟨l1, l2, l3, l4, l5⟩ := h2
      obtain ⟨d1, d2, n1, n2⟩ := okR_bd h1
      have HO := Lib.hid h1
      rw [h1] at VR
      clear h1
      by_cases hn : 0 < num
      · obtain ⟨n, hnn⟩ : ∃ n : Nat, (hi - lo + 1).toNat = n := ⟨_, rfl⟩
        rw [hnn] at EG
        have hni : (n : Int) = hi - lo + 1 := by omega
        go_enter Tryd.func19, Tryd.ntmps19
        go_wp2_with fail
        refine (VR.out _).mono ?_
        rintro e w1 ⟨rfl, hb⟩
        have B1 := Lib.hid (B0.out.keep hb)
        have L1 := Lib.hid (bT L0.out hb)
        have S1 := Lib.hid (S0.out.keep hb)
        clear hb B0 L0 S0
        obtain ⟨x0, x1, _, _, x4⟩ := B1.out
        go_wp2_with fail
        generalize hk1 : w.heap.size = kb at *
        have RS := Lib.hid (show EfR w1 w1 (.slice none 0 0) (efL num den lo hi c 0) from EfR.nil (bR w1))
        clear x0 x1
        go_loopw [10, 11] (fun v i wr => ∃ (k : Nat) (s : Int) (ao : Option Addr) (cap : Nat), k ≤ n ∧ i = .int .i64 s ∧ s = lo + (k : Int) ∧ (efL num den lo hi c k).length ≤ 20 ∧ v = .slice ao (efL num den lo hi c k).length cap ∧ EfR w1 wr v (efL num den lo hi c k)) (fun _ i _ => (hi + 1 - intOf i).toNat)
        case atStart => exact ⟨0, lo, none, 0, by omega, rfl, by omega, by simp [efL], by simp [efL], RS.out⟩
        case round =>
          obtain ⟨k, s, ao, cap, hk, rfl, hs, h20, rfl, hr⟩ := hrel
          have HR := Lib.hid hr
          obtain ⟨x0, x1, _, _, _⟩ := B1.out.keep hr.2
          by_cases hlt : s ≤ hi
          · have hkn : k < n := by omega
            have EN := Lib.hid (fun (h : htE num den lo hi c s = false) => (show efL num den lo hi c (k + 1) = efL num den lo hi c k by rw [efL, ← hs, h]; simp))
            have EY := Lib.hid (fun (h : htE num den lo hi c s = true) => (show efL num den lo hi c (k + 1) = efL num den lo hi c k ++ [gE num den c s] by rw [efL, ← hs, h]; rfl))
            have HF := Lib.hid (fun (h : (efL num den lo hi c k).length = 20) (ht : htE num den lo hi c s = true) => efL_full h (by rw [← hs]; exact ht) hkn)
            have m1 : 0 ≤ s * den := Int.mul_nonneg (by omega) (by omega)
            have m2 : s * den ≤ 240 * 1000000000 := Int.mul_le_mul (by omega) (by omega) (by omega) (by omega)
            have q1 : IntKind.i64.wrap (s * den) = s * den := IntWalk.i64_in _ (by omega)
            have q2 : IntKind.i64.wrap (2 * num) = 2 * num := IntWalk.i64_in _ (by omega)
            have q0 : ¬ 2 * num = 0 := by omega
            have e6 : (s * den).tdiv (2 * num) = s * den / (2 * num) := Int.tdiv_eq_ediv_of_nonneg m1
            have m3 : 0 ≤ s * den / (2 * num) := Int.ediv_nonneg m1 (by omega)
            have m4 : s * den / (2 * num) ≤ s * den := Int.ediv_le_self _ m1
            have ep : (s * den).tdiv (2 * num) - s = plE num den s := by rw [e6]; rfl
            have q3 : IntKind.i64.wrap ((s * den).tdiv (2 * num)) = (s * den).tdiv (2 * num) := IntWalk.i64_in _ (by omega)
            have q4 : IntKind.i64.wrap ((s * den).tdiv (2 * num) - s) = (s * den).tdiv (2 * num) - s := IntWalk.i64_in _ (by omega)
            have q5 : IntKind.i64.wrap (s + 1) = s + 1 := IntWalk.i64_in _ (by omega)
            have pb : -240 ≤ plE num den s ∧ plE num den s ≤ 240 * 1000000000 := by omega
            have HT := Lib.hid (show htE num den lo hi c s = (decide (lo ≤ plE num den s ∧ plE num den s ≤ hi) && cdE num den s (plE num den s) c) by simp [htE, hn])
            have HG := Lib.hid (show gE num den c s = (s, s + 2 * plE num den s, plE num den s, c) from rfl)
            have HI := Lib.hid (fun (p : Int) => hit_iff (s := s) (p := p) (c := c) HO.out)
            have HSK := Lib.hid hs
            clear hs m1 m2 m3 m4 e6
            clear hr
            go_wp2_with fail
            clear q1 q3 q4 ep
            generalize plE num den s = p at *
            have p1 : -1000000000000000000 < p ∧ p < 1000000000000000000 := by omega
            have s1 : -1000000000000000000 < s ∧ s < 1000000000000000000 := by have := HSK.out; omega
            refine (gearsWith4_any s p c _ s1 p1).mono ?_
            rintro e w2 ⟨rfl, hb⟩
            have R2 := Lib.hid (HR.out.keep (bA hb (.cells #[.int .i64 s, .int .i64 (s + 2 * p), .int .i64 p, .int .i64 c] 25)))
            have G2 := Lib.hid (Box4.new w2 s (s + 2 * p) p c 25)
            have S2 := Lib.hid (S1.out.keep R2.out.2)
            clear hb x0 x1 HR
            obtain ⟨y0, y1, y2, y3, _⟩ := G2.out
            go_wp2_with fail
            generalize w2.alloc (.cells #[.int .i64 s, .int .i64 (s + 2 * p), .int .i64 p, .int .i64 c] 25) = W2 at *
            generalize w2.heap.size = kg at *
            by_cases hh : epiR s (s + 2 * p) p c 0 2 = (num, den, 0)
            · have hcd := (HI.out p).1 hh
              have EI := Lib.hid (fun W hW => EpiRatioI_any s (s + 2 * p) p c 0 2 W hW)
              rw [hh] at EI
              clear hh
              refine (EI.out _ S2.out).mono ?_
              rintro e w3 ⟨rfl, hb⟩
              have R3 := Lib.hid (R2.out.keep (bA hb (.cells #[.int .i64 num, .int .i64 den] 27)))
              have G3 := Lib.hid (G2.out.keep (bA hb (.cells #[.int .i64 num, .int .i64 den] 27)))
              have N3 := Lib.hid (Box2.new w3 num den 27)
              clear hb R2 G2 S2 y0 y1 y2 y3
              obtain ⟨x0, x1, _, _, _⟩ := B1.out.keep R3.out.2
              obtain ⟨y0, y1, y2, y3, _⟩ := G3.out
              obtain ⟨t0, t1, _, _, _⟩ := N3.out
              have hz1 : (num != num) = false := by simp
              have hz2 : (den != den) = false := by simp
              by_cases hp1 : p < lo
              · have HF0 : htE num den lo hi c s = false := by rw [HT.out]; simp; omega
                have RN := Lib.hid (show EfR w1 (w3.alloc (.cells #[.int .i64 num, .int .i64 den] 27)) (.slice ao (efL num den lo hi c k).length cap) (efL num den lo hi c (k + 1)) by rw [EN.out HF0]; exact R3.out)
                have KL := Lib.hid (EN.out HF0)
                go_wp2_with fail
                have SK := HSK.out
                exact ⟨⟨k + 1, s + 1, ao, cap, by omega, rfl, by omega, by rw [KL.out]; exact h20, by rw [KL.out], RN.out⟩, by simp [intOf]; omega⟩
              · by_cases hp2 : hi < p
                · have HF0 : htE num den lo hi c s = false := by rw [HT.out]; simp; omega
                  have RN := Lib.hid (show EfR w1 (w3.alloc (.cells #[.int .i64 num, .int .i64 den] 27)) (.slice ao (efL num den lo hi c k).length cap) (efL num den lo hi c (k + 1)) by rw [EN.out HF0]; exact R3.out)
                  have KL := Lib.hid (EN.out HF0)
                  go_wp2_with fail
                  have SK := HSK.out
                  exact ⟨⟨k + 1, s + 1, ao, cap, by omega, rfl, by omega, by rw [KL.out]; exact h20, by rw [KL.out], RN.out⟩, by simp [intOf]; omega⟩
                · have HF1 : htE num den lo hi c s = true := by rw [HT.out, hcd]; simp; omega
                  go_upto_region 15 with fail
                  generalize w3.alloc (.cells #[.int .i64 num, .int .i64 den] 27) = W3 at *
                  by_cases h21 : (efL num den lo hi c k).length = 20
                  · have FU := Lib.hid (HF.out h21 HF1)
                    have EQ := Lib.hid (show ef2 num den lo hi c = ([], 5) by rw [EG.out, if_pos FU.out])
                    have hb3 := R3.out.2
                    have RN := Lib.hid (show EfPost w (ef2 num den lo hi c) (.returned (.tuple #[.slice none 0 0, .int .i64 5])) W3 by rw [EQ.out]; exact ef_post_nil (bT (by rw [hk1]; exact L1.out) hb3))
                    have h21b : (((efL num den lo hi c k).length : Int) == 20) = true := by rw [h21]; rfl
                    have h21c : ((efL num den lo hi c k).length : Int) = 20 := by omega
                    clear hb3 h20 h21
                    go_wp2_with fail
                    go_ret2
                    exact RN.out
                  · have h21b : (((efL num den lo hi c k).length : Int) == 20) = false := by rw [beq_eq_false_iff_ne]; omega
                    have h21c : ¬ ((efL num den lo hi c k).length : Int) = 20 := by omega
                    have EY2 := Lib.hid (EY.out HF1)
                    have HG2 := HG.out
                    go_wp2_with (at_builtin; go_loud (refine app_ef rfl _ _ rfl _ _ (s, s + 2 * p, p, c) rfl R3.out rfl (by omega) ?_))
                    intro v' w4 hr'
                    obtain ⟨ao', cap', rfl⟩ := hr'.slice
                    have hE : efL num den lo hi c (k + 1) = efL num den lo hi c k ++ [(s, s + 2 * p, p, c)] := by rw [EY2.out, HG2]
                    have RN := Lib.hid (show EfR w1 w4 (.slice ao' (efL num den lo hi c k ++ [(s, s + 2 * p, p, c)]).length cap') (efL num den lo hi c (k + 1)) by rw [hE]; exact hr')
                    have KL := Lib.hid (congrArg List.length hE)
                    clear hr' HG2 hE
                    go_wp2_with fail
                    have SK := HSK.out
                    exact ⟨⟨k + 1, s + 1, ao', cap', by omega, rfl, by omega, by rw [KL.out, List.length_append]; simp; omega, by rw [KL.out], RN.out⟩, by simp [intOf]; omega⟩
            · have hcd : cdE num den s p c = false := by
                cases hc : cdE num den s p c
                · rfl
                · exact absurd ((HI.out p).2 hc) hh
              have HF0 : htE num den lo hi c s = false := by rw [HT.out, hcd]; simp
              have EI := Lib.hid (fun W hW => EpiRatioI_any s (s + 2 * p) p c 0 2 W hW)
              obtain ⟨x3, y3', c3, e3⟩ : ∃ x3 y3 c3, epiR s (s + 2 * p) p c 0 2 = (x3, y3, c3) := ⟨_, _, _, rfl⟩
              rw [e3] at EI hh
              clear e3 hcd
              refine (EI.out _ S2.out).mono ?_
              rintro e w3 ⟨rfl, hb⟩
              have R3 := Lib.hid (R2.out.keep (bA hb (.cells #[.int .i64 x3, .int .i64 y3'] 27)))
              have G3 := Lib.hid (G2.out.keep (bA hb (.cells #[.int .i64 x3, .int .i64 y3'] 27)))
              have N3 := Lib.hid (Box2.new w3 x3 y3' 27)
              clear hb R2 G2 S2 y0 y1 y2 y3
              obtain ⟨x0, x1, _, _, _⟩ := B1.out.keep R3.out.2
              obtain ⟨y0, y1, y2, y3, _⟩ := G3.out
              obtain ⟨t0, t1, _, _, _⟩ := N3.out
              by_cases hc3 : c3 = 0
              · subst hc3
                by_cases hx3 : x3 = num
                · have hy3 : (y3' != den) = true := by simp; intro h; exact hh (by rw [hx3, h])
                  have hy4 : ¬ y3' = den := by simpa using hy3
                  have hx4 := hx3.symm
                  subst hx4
                  clear hh
                  have RN := Lib.hid (show EfR w1 (w3.alloc (.cells #[.int .i64 num, .int .i64 y3'] 27)) (.slice ao (efL num den lo hi c k).length cap) (efL num den lo hi c (k + 1)) by rw [EN.out HF0]; exact R3.out)
                  have KL := Lib.hid (EN.out HF0)
                  go_wp2_with fail
                  have SK := HSK.out
                  exact ⟨⟨k + 1, s + 1, ao, cap, by omega, rfl, by omega, by rw [KL.out]; exact h20, by rw [KL.out], RN.out⟩, by simp [intOf]; omega⟩
                · have hy3 : (x3 != num) = true := by simpa using hx3
                  clear hh
                  have RN := Lib.hid (show EfR w1 (w3.alloc (.cells #[.int .i64 x3, .int .i64 y3'] 27)) (.slice ao (efL num den lo hi c k).length cap) (efL num den lo hi c (k + 1)) by rw [EN.out HF0]; exact R3.out)
                  have KL := Lib.hid (EN.out HF0)
                  go_wp2_with fail
                  have SK := HSK.out
                  exact ⟨⟨k + 1, s + 1, ao, cap, by omega, rfl, by omega, by rw [KL.out]; exact h20, by rw [KL.out], RN.out⟩, by simp [intOf]; omega⟩
              · have hc4 : (c3 != 0) = true := by simpa using hc3
                clear hh
                have RN := Lib.hid (show EfR w1 (w3.alloc (.cells #[.int .i64 x3, .int .i64 y3'] 27)) (.slice ao (efL num den lo hi c k).length cap) (efL num den lo hi c (k + 1)) by rw [EN.out HF0]; exact R3.out)
                have KL := Lib.hid (EN.out HF0)
                go_wp2_with fail
                have SK := HSK.out
                exact ⟨⟨k + 1, s + 1, ao, cap, by omega, rfl, by omega, by rw [KL.out]; exact h20, by rw [KL.out], RN.out⟩, by simp [intOf]; omega⟩
          · obtain rfl : k = n := by omega
            have RN := Lib.hid (show EfPost w (ef2 num den lo hi c) (.returned (.tuple #[.slice ao (efL num den lo hi c k).length cap, .int .i64 0])) wr from ⟨.slice ao (efL num den lo hi c k).length cap, by rw [EG.out, if_neg (by omega)], by rw [EG.out, if_neg (by omega)]; exact hr.lower (by rw [hk1]; exact L1.out)⟩)
            clear hr
            go_wp2_with fail
            go_ret2
            exact RN.out
      · have EZ := Lib.hid (show ef2 num den lo hi c = ([], 0) from EG.out.trans (by rw [efL_none hn]; rfl))
        rw [EZ.out]
        go_enter Tryd.func19, Tryd.ntmps19
        go_wp2_with fail
        refine (VR.out _).mono ?_
        rintro e w1 ⟨rfl, hb⟩
        have RN := Lib.hid (ef_post_nil (k := 0) (bT L0.out hb))
        obtain ⟨x0, x1, _, _, _⟩ := B0.out.keep hb
        clear hb
        go_wp2_with fail
        go_ret2
        exact RN.out
    · have EN := Lib.hid (ef_no2 h1 h2)
      rw [EN.out]
      rw [h1] at VR
      clear h1 EN
      by_cases q1 : lo < 6
      · clear h2
        go_enter Tryd.func19, Tryd.ntmps19
        go_wp2_with fail
        refine (VR.out _).mono ?_
        rintro e w1 ⟨rfl, hb⟩
        have RN := Lib.hid (ef_post_nil (k := 2) (bT L0.out hb))
        clear hb
        go_wp2_with fail
        go_ret2
        exact RN.out
      · by_cases q2 : hi < lo
        · clear h2
          go_enter Tryd.func19, Tryd.ntmps19
          go_wp2_with fail
          refine (VR.out _).mono ?_
          rintro e w1 ⟨rfl, hb⟩
          have RN := Lib.hid (ef_post_nil (k := 2) (bT L0.out hb))
          clear hb
          go_wp2_with fail
          go_ret2
          exact RN.out
        · by_cases q3 : 240 < hi
          · clear h2
            go_enter Tryd.func19, Tryd.ntmps19
            go_wp2_with fail
            refine (VR.out _).mono ?_
            rintro e w1 ⟨rfl, hb⟩
            have RN := Lib.hid (ef_post_nil (k := 2) (bT L0.out hb))
            clear hb
            go_wp2_with fail
            go_ret2
            exact RN.out
          · by_cases q4 : c < 1
            · clear h2
              go_enter Tryd.func19, Tryd.ntmps19
              go_wp2_with fail
              refine (VR.out _).mono ?_
              rintro e w1 ⟨rfl, hb⟩
              have RN := Lib.hid (ef_post_nil (k := 2) (bT L0.out hb))
              clear hb
              go_wp2_with fail
              go_ret2
              exact RN.out
            · have q5 : 8 < c := by omega
              clear h2
              go_enter Tryd.func19, Tryd.ntmps19
              go_wp2_with fail
              refine (VR.out _).mono ?_
              rintro e w1 ⟨rfl, hb⟩
              have RN := Lib.hid (ef_post_nil (k := 2) (bT L0.out hb))
              clear hb
              go_wp2_with fail
              go_ret2
              exact RN.out
/-- The list while the planets of one sun are asked. -/
def inL (num den lo hi c : Int) (k : Nat) (s q : Int) : List G4 := efL num den lo hi c k ++ (if htE num den lo hi c s && decide (plE num den s < q) then [gE num den c s] else [])
theorem ht_parts {num den lo hi c s : Int} (h : htE num den lo hi c s = true) : 0 < num ∧ lo ≤ plE num den s ∧ plE num den s ≤ hi ∧ cdE num den s (plE num den s) c = true := by
  unfold htE at h
  simp only [Bool.and_eq_true, decide_eq_true_eq] at h
  exact ⟨h.1.1, h.1.2.1, h.1.2.2, h.2⟩
theorem inL_lo (num den lo hi c : Int) (k : Nat) (s : Int) : inL num den lo hi c k s lo = efL num den lo hi c k := by
  unfold inL
  cases h : htE num den lo hi c s
  · simp
  · have := ht_parts h
    rw [Bool.true_and, if_neg (by simp; omega), List.append_nil]
theorem inL_hi (num den lo hi c : Int) (k : Nat) (s : Int) (hs : s = lo + (k : Int)) : inL num den lo hi c k s (hi + 1) = efL num den lo hi c (k + 1) := by
  unfold inL
  rw [efL, ← hs]
  cases h : htE num den lo hi c s
  · simp
  · have := ht_parts h
    rw [Bool.true_and, if_pos (by simp; omega), if_pos rfl]
theorem inL_same {num den lo hi c : Int} {k : Nat} {s q : Int} (h : cdE num den s q c = false) : inL num den lo hi c k s (q + 1) = inL num den lo hi c k s q := by
  unfold inL
  cases ht : htE num den lo hi c s
  · simp
  · have hp := ht_parts ht
    have hq : plE num den s ≠ q := by intro e; rw [e, h] at hp; exact absurd hp.2.2.2 (by simp)
    have : decide (plE num den s < q + 1) = decide (plE num den s < q) := by
      rw [Bool.eq_iff_iff]; simp; omega
    rw [this]
theorem inL_hit {num den lo hi c : Int} {k : Nat} {s q : Int} (hs : 1 ≤ s) (hd : 1 ≤ den) (h1 : lo ≤ q) (h2 : q ≤ hi) (h : cdE num den s q c = true) :
    htE num den lo hi c s = true ∧ inL num den lo hi c k s q = efL num den lo hi c k ∧ inL num den lo hi c k s (q + 1) = efL num den lo hi c k ++ [(s, s + 2 * q, q, c)] := by
  obtain ⟨hn, rfl⟩ := cd_only hs hd h
  have ht : htE num den lo hi c s = true := by
    unfold htE
    rw [h]; simp; exact ⟨hn, h1, h2⟩
  refine ⟨ht, ?_, ?_⟩
  · unfold inL; rw [ht, Bool.true_and, if_neg (by simp), List.append_nil]
  · unfold inL; rw [ht, Bool.true_and, if_pos (by simp; omega)]; rfl
theorem rowE0 (w : World) : (w.alloc (.cells #[] 25)).ownsRow w.heap.size 25 4 (.slice (some ⟨w.heap.size, 0, none⟩) 0 0) 0 [] :=
  ⟨rfl, .inr ⟨w.heap.size, 0, #[], rfl, Nat.le_refl _, (MapKept.heap_alloc w _).1, Nat.le_refl _, Nat.zero_le _, rfl, rfl⟩⟩
set_option maxRecDepth 100000 in
set_option maxHeartbeats 8000000 in
theorem EpisForS_any (num den lo hi c : Int) (w : World) :
    Calls Tryd.prog 41 #[.agg #[.int .i64 num, .int .i64 den], .int .i64 lo, .int .i64 hi, .int .i64 c] w (EfPost w (ef2 num den lo hi c)) := by
  have B0 := Lib.hid (Box2.new w num den 27)
  have L0 := Lib.hid (bA (bR w) (.cells #[.int .i64 num, .int .i64 den] 27))
  have VR := Lib.hid (fun W => l02Ok_any num den W)
  cases h1 : okR num den
  · have ZZ := Lib.hid (ef_no1 (lo := lo) (hi := hi) (c := c) h1)
    rw [h1] at VR
    clear h1
    rw [ZZ.out]
    go_enter Tryd.func41, Tryd.ntmps41
    go_wp2_with fail
    refine (VR.out _).mono ?_
    rintro e w1 ⟨rfl, hb⟩
    have RN := Lib.hid (ef_post_nil (k := 1) (bT L0.out hb))
    clear hb
    go_wp2_with fail
    go_ret2
    exact RN.out
  · have ML := Lib.hid (fun W => l00In_any lo 6 hi W)
    have MC := Lib.hid (fun W => l00In_any c 1 8 W)
    by_cases h2 : 6 ≤ lo ∧ lo ≤ hi ∧ hi ≤ 240 ∧ 1 ≤ c ∧ c ≤ 8
    · have EG := Lib.hid (ef_go h1 h2)
      obtain ⟨l1, l2, l3, l4, l5⟩ := h2
      obtain ⟨d1, d2, n1, n2⟩ := okR_bd h1
      rw [h1] at VR
      rw [show inB lo 6 hi = true from inB_true.2 ⟨l1, l2⟩] at ML
      rw [show inB c 1 8 = true from inB_true.2 ⟨l4, l5⟩] at MC
      clear h1
      obtain ⟨n, hnn⟩ : ∃ n : Nat, (hi - lo + 1).toNat = n := ⟨_, rfl⟩
      rw [hnn] at EG
      have hni : (n : Int) = hi - lo + 1 := by omega
      go_enter Tryd.func41, Tryd.ntmps41
      go_wp2_with fail
      refine (VR.out _).mono ?_
      rintro e w1 ⟨rfl, hb⟩
      have B1 := Lib.hid (B0.out.keep hb)
      have L1 := Lib.hid (bT L0.out hb)
      clear hb B0 L0
      go_wp2_with fail
      refine (ML.out _).mono ?_
      rintro e w9 ⟨rfl, rfl⟩
      go_wp2_with fail
      refine (MC.out _).mono ?_
      rintro e w9 ⟨rfl, rfl⟩
      go_wp2_with fail
      generalize hk1 : w.heap.size = kb at *
      have RS := Lib.hid (show EfR w1 (w1.alloc (.cells #[] 25)) (.slice (some ⟨w1.heap.size, 0, none⟩) 0 0) (efL num den lo hi c 0) from ⟨rowE0 w1, bA (bR _) _⟩)
      go_loopw [10, 11] (fun v i wr => ∃ (k : Nat) (s : Int) (ao : Option Addr) (cap : Nat), k ≤ n ∧ i = .int .i64 s ∧ s = lo + (k : Int) ∧ (efL num den lo hi c k).length ≤ 20 ∧ v = .slice ao (efL num den lo hi c k).length cap ∧ EfR w1 wr v (efL num den lo hi c k)) (fun _ i _ => (hi + 1 - intOf i).toNat)
      case atStart => exact ⟨0, lo, some ⟨w1.heap.size, 0, none⟩, 0, by omega, rfl, by omega, by simp [efL], by simp [efL], RS.out⟩
      case round =>
        obtain ⟨k, s, ao, cap, hk, rfl, hs, h20, rfl, hr⟩ := hrel
        by_cases hlt : s ≤ hi
        · have hkn : k < n := by omega
          have HF := Lib.hid (fun (h : (efL num den lo hi c k).length = 20) (ht : htE num den lo hi c s = true) => efL_full h (by rw [← hs]; exact ht) hkn)
          have HLO := Lib.hid (inL_lo num den lo hi c k s)
          have HHI := Lib.hid (inL_hi num den lo hi c k s hs)
          have s0 : 6 ≤ s := by omega
          have q5 : IntKind.i64.wrap (s + 1) = s + 1 := IntWalk.i64_in _ (by omega)
          have HSK := Lib.hid hs
          obtain ⟨W3, hW3⟩ : ∃ W3, W3 = wr := ⟨wr, rfl⟩
          subst hW3
          have R0 := Lib.hid hr
          clear hs hr
          go_wp2_with fail
          go_loopw [10, 12] (fun v i wr2 => ∃ (q : Int) (ao : Option Addr) (cap : Nat), i = .int .i64 q ∧ lo ≤ q ∧ q ≤ hi + 1 ∧ (inL num den lo hi c k s q).length ≤ 20 ∧ v = .slice ao (inL num den lo hi c k s q).length cap ∧ EfR w1 wr2 v (inL num den lo hi c k s q)) (fun _ i _ => (hi + 1 - intOf i).toNat)
          case atStart => exact ⟨lo, ao, cap, rfl, by omega, by omega, by rw [HLO.out]; exact h20, by rw [HLO.out], by rw [HLO.out]; exact R0.out⟩
          case round =>
            obtain ⟨q, ao, cap, rfl, hq1, hq2, h20', rfl, hr⟩ := hrel
            have HR := Lib.hid hr
            by_cases hlt2 : q ≤ hi
            · obtain ⟨x0, x1, _, _, _⟩ := B1.out.keep (bA hr.2 (.cells #[.int .i64 s, .int .i64 (s + 2 * q), .int .i64 q, .int .i64 c] 25))
              have G2 := Lib.hid (Box4.new wr s (s + 2 * q) q c 25)
              have R2 := Lib.hid (hr.keep (bA (bR wr) (.cells #[.int .i64 s, .int .i64 (s + 2 * q), .int .i64 q, .int .i64 c] 25)))
              have VE := Lib.hid (fun W => l07Ok_any s (s + 2 * q) q c W)
              have q1 : IntKind.i64.wrap (2 * q) = 2 * q := IntWalk.i64_in _ (by omega)
              have q2 : IntKind.i64.wrap (s + 2 * q) = s + 2 * q := IntWalk.i64_in _ (by omega)
              have q3 : IntKind.i64.wrap (s + (s + 2 * q)) = s + (s + 2 * q) := IntWalk.i64_in _ (by omega)
              have m1 := mul_in (x := num) (y := s + (s + 2 * q)) (A := 1000000000) (B := 1000) n1 n2 (by omega) (by omega) (by omega)
              have m2 := mul_in (x := den) (y := s) (A := 1000000000) (B := 1000) (by omega) (by omega) (by omega) (by omega) (by omega)
              have q4 : IntKind.i64.wrap (num * (s + (s + 2 * q))) = num * (s + (s + 2 * q)) := IntWalk.i64_in _ (by omega)
              have q6 : IntKind.i64.wrap (den * s) = den * s := IntWalk.i64_in _ (by omega)
              have q7 : IntKind.i64.wrap (q + 1) = q + 1 := IntWalk.i64_in _ (by omega)
              have HC := Lib.hid (show cdE num den s q c = (decide (num * (s + (s + 2 * q)) = den * s) && okE s (s + 2 * q) q c) from rfl)
              have HS := Lib.hid (fun (h : cdE num den s q c = false) => inL_same (lo := lo) (hi := hi) (k := k) h)
              have HH := Lib.hid (fun (h : cdE num den s q c = true) => inL_hit (k := k) (by omega) d1 hq1 hlt2 h)
              clear hr m1 m2 HR
              obtain ⟨y0, y1, y2, y3, _⟩ := G2.out
              go_upto_region 13 with fail
              generalize wr.alloc (.cells #[.int .i64 s, .int .i64 (s + 2 * q), .int .i64 q, .int .i64 c] 25) = W2 at *
              generalize wr.heap.size = kg at *
              by_cases hxy : num * (s + (s + 2 * q)) = den * s
              · have hne : (num * (s + (s + 2 * q)) != den * s) = false := by simp [hxy]
                have HXY := Lib.hid hxy
                clear hxy
                cases hok : okE s (s + 2 * q) q c
                · have hcd : cdE num den s q c = false := by rw [HC.out, hok]; simp [HXY.out]
                  have KL := Lib.hid (HS.out hcd)
                  rw [hok] at VE
                  clear hok hcd
                  go_wp2_with fail
                  refine (VE.out _).mono ?_
                  rintro e w5 ⟨rfl, hb⟩
                  have R5 := Lib.hid (R2.out.keep hb)
                  clear hb
                  go_wp2_with fail
                  exact ⟨⟨q + 1, ao, cap, rfl, by omega, by omega, by rw [KL.out]; exact h20', by rw [KL.out], by rw [KL.out]; exact R5.out⟩, by simp [intOf]; omega⟩
                · have hcd : cdE num den s q c = true := by rw [HC.out, hok]; simp [HXY.out]
                  obtain ⟨t1, t2, t3⟩ := HH.out hcd
                  have HT1 := Lib.hid t1
                  have HT2 := Lib.hid t2
                  have HT3 := Lib.hid t3
                  rw [t2] at R2 h20' ⊢
                  rw [hok] at VE
                  clear hok hcd t1 t2 t3
                  go_wp2_with fail
                  refine (VE.out _).mono ?_
                  rintro e w5 ⟨rfl, hb⟩
                  have R5 := Lib.hid (R2.out.keep hb)
                  have G5 := Lib.hid (G2.out.keep hb)
                  clear hb y0 y1 y2 y3
                  obtain ⟨y0, y1, y2, y3, _⟩ := G5.out
                  by_cases h21 : (efL num den lo hi c k).length = 20
                  · have FU := Lib.hid (HF.out h21 HT1.out)
                    have EQ := Lib.hid (show ef2 num den lo hi c = ([], 5) by rw [EG.out, if_pos FU.out])
                    have hb3 := R5.out.2
                    have RN := Lib.hid (show EfPost w (ef2 num den lo hi c) (.returned (.tuple #[.slice none 0 0, .int .i64 5])) w5 by rw [EQ.out]; exact ef_post_nil (bT (by rw [hk1]; exact L1.out) hb3))
                    have h21c : (20 : Int) ≤ ((efL num den lo hi c k).length : Int) := by omega
                    clear hb3 h20 h20' h21
                    go_wp2_with fail
                    go_ret2
                    exact RN.out
                  · have h21c : ¬ (20 : Int) ≤ ((efL num den lo hi c k).length : Int) := by omega
                    go_wp2_with (at_builtin; go_loud (refine app_ef rfl _ _ rfl _ _ (s, s + 2 * q, q, c) rfl R5.out rfl (by omega) ?_))
                    intro v' w4 hr'
                    obtain ⟨ao', cap', rfl⟩ := hr'.slice
                    have RN := Lib.hid (show EfR w1 w4 (.slice ao' (efL num den lo hi c k ++ [(s, s + 2 * q, q, c)]).length cap') (inL num den lo hi c k s (q + 1)) by rw [HT3.out]; exact hr')
                    have KL := Lib.hid (congrArg List.length HT3.out)
                    clear hr'
                    go_wp2_with fail
                    exact ⟨⟨q + 1, ao', cap', rfl, by omega, by omega, by rw [KL.out, List.length_append]; simp; omega, by rw [KL.out], RN.out⟩, by simp [intOf]; omega⟩
              · have hne : (num * (s + (s + 2 * q)) != den * s) = true := by simpa using hxy
                have hcd : cdE num den s q c = false := by rw [HC.out]; simp [hxy]
                have KL := Lib.hid (HS.out hcd)
                clear hcd
                go_wp2_with fail
                exact ⟨⟨q + 1, ao, cap, rfl, by omega, by omega, by rw [KL.out]; exact h20', by rw [KL.out], by rw [KL.out]; exact R2.out⟩, by simp [intOf]; omega⟩
            · have hq3 : q = hi + 1 := by omega
              subst hq3
              have KL := Lib.hid HHI.out
              have RN := Lib.hid (show EfR w1 wr (.slice ao (inL num den lo hi c k s (hi + 1)).length cap) (efL num den lo hi c (k + 1)) by rw [← KL.out]; exact hr)
              clear hr HR
              go_wp2_with fail
              have SK := HSK.out
              exact ⟨⟨k + 1, s + 1, ao, cap, by omega, rfl, by omega, by rw [← KL.out]; exact h20', by rw [← KL.out], RN.out⟩, by simp [intOf]; omega⟩
        · obtain rfl : k = n := by omega
          have RN := Lib.hid (show EfPost w (ef2 num den lo hi c) (.returned (.tuple #[.slice ao (efL num den lo hi c k).length cap, .int .i64 0])) wr from ⟨.slice ao (efL num den lo hi c k).length cap, by rw [EG.out, if_neg (by omega)], by rw [EG.out, if_neg (by omega)]; exact hr.lower (by rw [hk1]; exact L1.out)⟩)
          clear hr
          go_wp2_with fail
          go_ret2
          exact RN.out
    · have ZZ := Lib.hid (ef_no2 h1 h2)
      rw [h1] at VR
      clear h1
      by_cases g1 : 6 ≤ lo ∧ lo ≤ hi
      · rw [show inB lo 6 hi = true from inB_true.2 g1] at ML
        by_cases g2 : 240 < hi
        · clear h2
          rw [ZZ.out]
          go_enter Tryd.func41, Tryd.ntmps41
          go_wp2_with fail
          refine (VR.out _).mono ?_
          rintro e w1 ⟨rfl, hb⟩
          have RN := Lib.hid (ef_post_nil (k := 2) (bT L0.out hb))
          clear hb
          go_wp2_with fail
          refine (ML.out _).mono ?_
          rintro e w9 ⟨rfl, rfl⟩
          go_wp2_with fail
          go_ret2
          exact RN.out
        · rw [show inB c 1 8 = false from inB_false.2 (by omega)] at MC
          clear h2
          rw [ZZ.out]
          go_enter Tryd.func41, Tryd.ntmps41
          go_wp2_with fail
          refine (VR.out _).mono ?_
          rintro e w1 ⟨rfl, hb⟩
          have RN := Lib.hid (ef_post_nil (k := 2) (bT L0.out hb))
          clear hb
          go_wp2_with fail
          refine (ML.out _).mono ?_
          rintro e w9 ⟨rfl, rfl⟩
          go_wp2_with fail
          refine (MC.out _).mono ?_
          rintro e w9 ⟨rfl, rfl⟩
          go_wp2_with fail
          go_ret2
          exact RN.out
      · rw [show inB lo 6 hi = false from inB_false.2 g1] at ML
        clear h2
        rw [ZZ.out]
        go_enter Tryd.func41, Tryd.ntmps41
        go_wp2_with fail
        refine (VR.out _).mono ?_
        rintro e w1 ⟨rfl, hb⟩
        have RN := Lib.hid (ef_post_nil (k := 2) (bT L0.out hb))
        clear hb
        go_wp2_with fail
        refine (ML.out _).mono ?_
        rintro e w9 ⟨rfl, rfl⟩
        go_wp2_with fail
        go_ret2
        exact RN.out
set_option maxHeartbeats 1000000 in
theorem eqEpi4_same (s r p c : Int) (w : World) :
    Calls Tryd.prog 51 #[.agg #[.int .i64 s, .int .i64 r, .int .i64 p, .int .i64 c], .agg #[.int .i64 s, .int .i64 r, .int .i64 p, .int .i64 c]] w fun e w' => e = .returned (.bool true) ∧ Below w.heap.size w w' := by
  have n0 : (s != s) = false := by simp
  have n1 : (r != r) = false := by simp
  have n2 : (p != p) = false := by simp
  have n3 : (c != c) = false := by simp
  go_enter Tryd.func51, Tryd.ntmps51
  go_wp2_with fail
  go_ret
  exact ⟨rfl, bA (bA (bR _) _) _⟩
def at4 (xs : List G4) (i : Nat) : G4 := xs.getD i (0, 0, 0, 0)
theorem epC_cons (x : G4) (xs : List G4) : epC (x :: xs) = .int .i64 x.1 :: .int .i64 x.2.1 :: .int .i64 x.2.2.1 :: .int .i64 x.2.2.2 :: epC xs := by simp [epC]
theorem epC_len : ∀ xs : List G4, (epC xs).length = xs.length * 4
  | [] => rfl
  | x :: xs => by rw [epC_cons]; simp [epC_len xs]; omega
theorem epC_drop : ∀ (xs : List G4) (j : Nat), j < xs.length → (epC xs).drop (j * 4) = .int .i64 (at4 xs j).1 :: .int .i64 (at4 xs j).2.1 :: .int .i64 (at4 xs j).2.2.1 :: .int .i64 (at4 xs j).2.2.2 :: (epC xs).drop ((j + 1) * 4)
  | x :: xs, 0, _ => by rw [epC_cons]; rfl
  | x :: xs, j + 1, h => by
    have ih := epC_drop xs j (by simpa using h)
    have e1 : (j + 1) * 4 = j * 4 + 1 + 1 + 1 + 1 := by omega
    have e2 : (j + 1 + 1) * 4 = (j + 1) * 4 + 1 + 1 + 1 + 1 := by omega
    rw [epC_cons, e2, e1]
    simp only [List.drop_succ_cons]
    rw [← e1, ih]
    rfl
theorem epC_at {xs : List G4} {i : Nat} (h : i < xs.length) : (epC xs)[i * 4]? = some (.int .i64 (at4 xs i).1) ∧ (epC xs)[i * 4 + 1]? = some (.int .i64 (at4 xs i).2.1) ∧ (epC xs)[i * 4 + 2]? = some (.int .i64 (at4 xs i).2.2.1) ∧ (epC xs)[i * 4 + 3]? = some (.int .i64 (at4 xs i).2.2.2) := by
  have hd := epC_drop xs i h
  have e : ∀ j, (epC xs)[i * 4 + j]? = ((epC xs).drop (i * 4))[j]? := fun j => by rw [List.getElem?_drop]
  refine ⟨?_, ?_, ?_, ?_⟩
  · have := e 0; rw [Nat.add_zero] at this; rw [this, hd]; rfl
  · rw [e 1, hd]; rfl
  · rw [e 2, hd]; rfl
  · rw [e 3, hd]; rfl
def EpAt (W : World) (g : Nat) (xs : List G4) : Prop := ∀ i, i < xs.length → W.cell? ⟨g, i * 4, none⟩ = some (.int .i64 (at4 xs i).1) ∧ W.cell? ⟨g, i * 4 + 1, none⟩ = some (.int .i64 (at4 xs i).2.1) ∧ W.cell? ⟨g, i * 4 + 2, none⟩ = some (.int .i64 (at4 xs i).2.2.1) ∧ W.cell? ⟨g, i * 4 + 3, none⟩ = some (.int .i64 (at4 xs i).2.2.2)
theorem EpAt.keep {W W' : World} {g : Nat} {xs : List G4} (h : EpAt W g xs) (hg : g < W.heap.size) (hb : Below W.heap.size W W') : EpAt W' g xs := fun i hi =>
  ⟨(hb.cell (p := ⟨g, i * 4, none⟩) hg).trans (h i hi).1, (hb.cell (p := ⟨g, i * 4 + 1, none⟩) hg).trans (h i hi).2.1, (hb.cell (p := ⟨g, i * 4 + 2, none⟩) hg).trans (h i hi).2.2.1, (hb.cell (p := ⟨g, i * 4 + 3, none⟩) hg).trans (h i hi).2.2.2⟩
def SlE (W : World) (v : Value) (xs : List G4) : Prop := ∃ ao cap, v = .slice ao xs.length cap ∧ (1 ≤ xs.length → ∃ g, ao = some ⟨g, 0, none⟩ ∧ g < W.heap.size ∧ EpAt W g xs)
theorem own_ep {W : World} {B : Nat} {t : TypeId} {g cap : Nat} {xs : List G4} (h : W.ownsRow B t 4 (.slice (some ⟨g, 0, none⟩) xs.length cap) xs.length (epC xs)) : EpAt W g xs := by
  intro i hi
  obtain ⟨a, b, c, d⟩ := epC_at hi
  exact ⟨(h.cellAt (i * 4) (by omega)).trans a, (h.cellAt (i * 4 + 1) (by omega)).trans b, (h.cellAt (i * 4 + 2) (by omega)).trans c, (h.cellAt (i * 4 + 3) (by omega)).trans d⟩
theorem slE_of {W : World} {B : Nat} {t : TypeId} {v : Value} {xs : List G4} (h : W.ownsRow B t 4 v xs.length (epC xs)) : SlE W v xs := by
  rcases h.2 with ⟨rfl, h0⟩ | ⟨g, cap, cur, rfl, hB, hh, _⟩
  · exact ⟨none, 0, by rw [h0], fun h1 => by omega⟩
  · exact ⟨_, cap, rfl, fun _ => ⟨g, rfl, (Array.getElem?_eq_some_iff.1 hh).1, own_ep h⟩⟩
theorem SlE.keep {W W' : World} {v : Value} {xs : List G4} (h : SlE W v xs) (hb : Below W.heap.size W W') : SlE W' v xs := by
  obtain ⟨ao, cap, e, h1⟩ := h
  refine ⟨ao, cap, e, fun hl => ?_⟩
  obtain ⟨g, eg, hg, hc⟩ := h1 hl
  exact ⟨g, eg, Nat.lt_of_lt_of_le hg hb.size, hc.keep hg hb⟩
def mk4 (k : Int) (n : Nat) : List G4 := (List.range n).map fun j : Nat => (k + 4 * (j : Int), k + 4 * (j : Int) + 1, k + 4 * (j : Int) + 1 + 1, k + 4 * (j : Int) + 1 + 1 + 1)
theorem mk4_len (k : Int) (n : Nat) : (mk4 k n).length = n := by simp [mk4]
theorem mk4_at {k : Int} {n j : Nat} (h : j < n) : at4 (mk4 k n) j = (k + 4 * (j : Int), k + 4 * (j : Int) + 1, k + 4 * (j : Int) + 1 + 1, k + 4 * (j : Int) + 1 + 1 + 1) := by
  unfold at4 mk4
  rw [List.getD_eq_getElem?_getD, List.getElem?_map, List.getElem?_range h]; rfl
theorem mk4_next (k : Int) (n : Nat) : mk4 k (n + 1) = mk4 k n ++ [(k + 4 * (n : Int), k + 4 * (n : Int) + 1, k + 4 * (n : Int) + 1 + 1, k + 4 * (n : Int) + 1 + 1 + 1)] := by
  unfold mk4; rw [List.range_succ, List.map_append]; rfl
theorem set4 (A R : List Value) (n : Nat) (x0 x1 x2 x3 a b c d : Value) (h : A.length = n) : ((((A ++ x0 :: x1 :: x2 :: x3 :: R).set n a).set (n + 1) b).set (n + 2) c).set (n + 3) d = A ++ (a :: b :: c :: d :: R) := by
  subst h
  induction A with
  | nil => rfl
  | cons y ys ih =>
    simp only [List.cons_append, List.length_cons]
    rw [show ys.length + 1 + 1 = (ys.length + 1) + 1 from rfl, show ys.length + 1 + 2 = (ys.length + 2) + 1 from rfl, show ys.length + 1 + 3 = (ys.length + 3) + 1 from rfl]
    simp only [List.set_cons_succ]
    rw [ih]
def EqI (w : World) (g g2 o : Nat) (x : G4) (w' : World) : Prop :=
  w'.cell? ⟨g, o, none⟩ = some (.int .i64 x.1) ∧ w'.cell? ⟨g, o + 1, none⟩ = some (.int .i64 x.2.1) ∧ w'.cell? ⟨g, o + 2, none⟩ = some (.int .i64 x.2.2.1) ∧ w'.cell? ⟨g, o + 3, none⟩ = some (.int .i64 x.2.2.2) ∧
  w'.cell? ⟨g2, o, none⟩ = some (.int .i64 x.1) ∧ w'.cell? ⟨g2, o + 1, none⟩ = some (.int .i64 x.2.1) ∧ w'.cell? ⟨g2, o + 2, none⟩ = some (.int .i64 x.2.2.1) ∧ w'.cell? ⟨g2, o + 3, none⟩ = some (.int .i64 x.2.2.2) ∧ Below w.heap.size w w'
set_option maxRecDepth 100000 in
set_option maxHeartbeats 2000000 in
theorem eqEpiS_same (xs : List G4) (va vb : Value) (w : World) (ha : SlE w va xs) (hb : SlE w vb xs) (hmax : xs.length ≤ 1000000000000) :
    Calls Tryd.prog 42 #[va, vb] w (BoolBel true w) := by
  obtain ⟨ao, cap, rfl, ha⟩ := ha
  obtain ⟨bo, bcap, rfl, hb⟩ := hb
  have HA := Lib.hid ha
  have HB := Lib.hid hb
  clear ha hb
  have hne : ((xs.length : Int) != (xs.length : Int)) = false := by simp
  go_enter Tryd.func42, Tryd.ntmps42
  go_wp2_with fail
  go_loopw [5] (fun i wr => ∃ (k : Nat), k ≤ xs.length ∧ i = .int .i64 k ∧ Below w.heap.size w wr) (fun i _ => xs.length - (intOf i).toNat)
  case atStart => exact ⟨0, by omega, rfl, bR _⟩
  case round =>
    obtain ⟨k, hk, rfl, hbw⟩ := hrel
    by_cases hlt : k < xs.length
    · obtain ⟨g, rfl, hg, hc⟩ := HA.out (by omega)
      obtain ⟨g2, rfl, hg2, hc2⟩ := HB.out (by omega)
      have HK := Lib.hid (fun (w' : World) (h : Below w.heap.size w w') => (show EqI w g g2 (k * 4) (at4 xs k) w' from
        ⟨((hc.keep hg h) k hlt).1, ((hc.keep hg h) k hlt).2.1, ((hc.keep hg h) k hlt).2.2.1, ((hc.keep hg h) k hlt).2.2.2, ((hc2.keep hg2 h) k hlt).1, ((hc2.keep hg2 h) k hlt).2.1, ((hc2.keep hg2 h) k hlt).2.2.1, ((hc2.keep hg2 h) k hlt).2.2.2, h⟩))
      have HBW := Lib.hid hbw
      clear hc hc2 HA HB hbw
      generalize at4 xs k = x at HK
      obtain ⟨a, b, c, d⟩ := x
      go_wp2_with fail
      go_region_held3 (fun w' => w'.cell? ⟨g, k * 4, none⟩ = some (.int .i64 a) ∧ w'.cell? ⟨g, k * 4 + 1, none⟩ = some (.int .i64 b) ∧ w'.cell? ⟨g, k * 4 + 2, none⟩ = some (.int .i64 c) ∧ w'.cell? ⟨g, k * 4 + 3, none⟩ = some (.int .i64 d) ∧ w'.cell? ⟨g2, k * 4, none⟩ = some (.int .i64 a) ∧ w'.cell? ⟨g2, k * 4 + 1, none⟩ = some (.int .i64 b) ∧ w'.cell? ⟨g2, k * 4 + 2, none⟩ = some (.int .i64 c) ∧ w'.cell? ⟨g2, k * 4 + 3, none⟩ = some (.int .i64 d) ∧ Below w.heap.size w w') (first | exact HK.out _ HBW.out.drew | exact HK.out _ (bT HBW.out.drew hb))
        ((go_at_call 51; refine (eqEpi4_same _ _ _ _ _).mono ?_; rintro e w' ⟨rfl, hb⟩; have HU := Lib.hid (bT HBW.out.drew hb)))
      go_wp2_with fail
      go_roundw
      case rel => exact ⟨k + 1, by omega, by go_num, HU.out⟩
      case measure => simp [intOf]; omega
    · go_wp2_with fail
      go_ret
      exact ⟨rfl, hbw⟩
def HeldRet4 (k : Int) (len : Nat) (w : World) (e : Ending) (w' : World) : Prop := e = .returned (.int .i64 (k + 4 * (len : Int))) ∧ w = w'
set_option maxHeartbeats 2000000 in
theorem heldEpiS_same (k : Int) (len : Nat) (v : Value) (w : World) (ha : SlE w v (mk4 k len)) (hmax : len ≤ 1000000000000) (h1 : 0 ≤ k) (h2 : k ≤ 1000000000000) :
    Calls Tryd.prog 44 #[v, .int .i64 k] w (HeldRet4 k len w) := by
  obtain ⟨ao, cap, rfl, ha⟩ := ha
  rw [mk4_len] at ha ⊢
  have HA := Lib.hid ha
  clear ha
  go_enter Tryd.func44, Tryd.ntmps44
  go_wp2_with fail
  go_loop [1, 5] (fun q i => ∃ (j : Nat), j ≤ len ∧ i = .int .i64 j ∧ q = .int .i64 (k + 4 * (j : Int))) (fun _ i => len - (intOf i).toNat)
  case atStart => exact ⟨0, by omega, rfl, by simp⟩
  case round =>
    obtain ⟨j, hj, rfl, rfl⟩ := hrel
    by_cases hlt : j < len
    · obtain ⟨g, rfl, hg, hc⟩ := HA.out (by omega)
      have hcj := hc j (by rw [mk4_len]; exact hlt)
      rw [mk4_at hlt] at hcj
      obtain ⟨c1, c2, c3, c4⟩ := hcj
      have hne2 : (k + 4 * (j : Int) != k + 4 * (j : Int)) = false := by simp
      have hne3 : (k + 4 * (j : Int) + 1 != k + 4 * (j : Int) + 1) = false := by simp
      have hne4 : (k + 4 * (j : Int) + 1 + 1 != k + 4 * (j : Int) + 1 + 1) = false := by simp
      have hne5 : (k + 4 * (j : Int) + 1 + 1 + 1 != k + 4 * (j : Int) + 1 + 1 + 1) = false := by simp
      clear hc HA
      go_wp2_with fail
      go_round
      case rel => exact ⟨j + 1, by omega, by go_num, by go_num⟩
      case measure => simp [intOf]; omega
    · obtain rfl : j = len := by omega
      go_wp2_with fail
      go_ret
      exact ⟨rfl, rfl⟩
theorem get4 (A R : List Value) (n : Nat) (x0 x1 x2 x3 : Value) (h : A.length = n) : (A ++ x0 :: x1 :: x2 :: x3 :: R)[n]? = some x0 ∧ (A ++ x0 :: x1 :: x2 :: x3 :: R)[n + 1]? = some x1 ∧ (A ++ x0 :: x1 :: x2 :: x3 :: R)[n + 2]? = some x2 ∧ (A ++ x0 :: x1 :: x2 :: x3 :: R)[n + 3]? = some x3 := by
  subst h
  induction A with
  | nil => exact ⟨rfl, rfl, rfl, rfl⟩
  | cons y ys ih =>
    rw [List.cons_append, List.length_cons, show ys.length + 1 + 1 = (ys.length + 1) + 1 from rfl, show ys.length + 1 + 2 = (ys.length + 2) + 1 from rfl, show ys.length + 1 + 3 = (ys.length + 3) + 1 from rfl]
    simp only [List.getElem?_cons_succ]
    exact ih
theorem grown_two {w w1 w2 : World} {g : Nat} (h1 : w.grownBy w1 (some g)) (h2 : w1.grownBy w2 (some g)) : w.grownBy w2 (some g) :=
  ⟨h2.os.trans h1.os, h2.tape.trans h1.tape, h2.output.trans h1.output, Nat.le_trans h1.size h2.size, fun a ha hn => (h2.block a (Nat.lt_of_lt_of_le ha h1.size) hn).trans (h1.block a ha hn)⟩
def w4 (k : Int) (j : Nat) (xs : List G4) : List Value := epC (mk4 k j) ++ (epC xs).drop (j * 4)
theorem epC_snoc4 (xs : List G4) (x : G4) : epC (xs ++ [x]) = epC xs ++ [.int .i64 x.1, .int .i64 x.2.1, .int .i64 x.2.2.1, .int .i64 x.2.2.2] := by
  induction xs with
  | nil => rfl
  | cons y ys ih => rw [List.cons_append, epC_cons, epC_cons, ih]; rfl
theorem w4_at {k : Int} {j : Nat} {xs : List G4} (h : j < xs.length) : w4 k j xs = epC (mk4 k j) ++ .int .i64 (at4 xs j).1 :: .int .i64 (at4 xs j).2.1 :: .int .i64 (at4 xs j).2.2.1 :: .int .i64 (at4 xs j).2.2.2 :: (epC xs).drop ((j + 1) * 4) := by
  unfold w4; rw [epC_drop xs j h]
theorem w4_next {k : Int} {j : Nat} {xs : List G4} (h : j < xs.length) : ((((w4 k j xs).set (j * 4) (.int .i64 (k + 4 * (j : Int)))).set (j * 4 + 1) (.int .i64 (k + 4 * (j : Int) + 1))).set (j * 4 + 2) (.int .i64 (k + 4 * (j : Int) + 1 + 1))).set (j * 4 + 3) (.int .i64 (k + 4 * (j : Int) + 1 + 1 + 1)) = w4 k (j + 1) xs := by
  rw [w4_at h, set4 _ _ _ _ _ _ _ _ _ _ _ (by rw [epC_len, mk4_len])]
  unfold w4
  rw [mk4_next, epC_snoc4, List.append_assoc]
  rfl
theorem w4_zero (k : Int) (xs : List G4) : w4 k 0 xs = epC xs := by
  unfold w4 mk4; simp [epC]
theorem w4_end (k : Int) (xs : List G4) : w4 k xs.length xs = epC (mk4 k xs.length) := by
  unfold w4
  rw [List.drop_of_length_le (by rw [epC_len]; exact Nat.le_refl _), List.append_nil]
def MarkERet (w : World) (B : Nat) (t : TypeId) (v : Value) (k : Int) (len : Nat) (e : Ending) (w' : World) : Prop :=
  e = .returned (.int .i64 (k + 4 * (len : Int))) ∧ w'.ownsRow B t 4 v (mk4 k len).length (epC (mk4 k len)) ∧ w.grownBy w' v.ownBlock
def MarkERel (w : World) (B : Nat) (t : TypeId) (g cap : Nat) (k : Int) (xs : List G4) (q i : Value) (wr : World) : Prop :=
  ∃ (j : Nat), j ≤ xs.length ∧ i = .int .i64 j ∧ q = .int .i64 (k + 4 * (j : Int)) ∧ wr.ownsRow B t 4 (.slice (some ⟨g, 0, none⟩) xs.length cap) xs.length (w4 k j xs) ∧ w.grownBy wr (some g)
set_option maxHeartbeats 2000000 in
theorem markEpiS_any (k : Int) (xs : List G4) (B : Nat) (v : Value) (w : World) (hv : w.ownsRow B 25 4 v xs.length (epC xs)) (hmax : xs.length ≤ 1000000000000) (h1 : 0 ≤ k) (h2 : k ≤ 1000000000000) :
    Calls Tryd.prog 43 #[v, .int .i64 k] w (MarkERet w B 25 v k xs.length) := by
  rcases hv.2 with ⟨rfl, h0⟩ | ⟨g, cap, cur, rfl, hB, hh, r⟩
  · have e : xs.length = 0 := h0
    rw [e]
    clear hv h0 e hmax
    go_enter Tryd.func43, Tryd.ntmps43
    go_wp2_with fail
    go_loop [1, 5] (fun q i => i = .int .i64 0 ∧ q = .int .i64 k) (fun _ _ => 0)
    case atStart => exact ⟨rfl, rfl⟩
    case round =>
      obtain ⟨rfl, rfl⟩ := hrel
      go_wp2_with fail
      go_ret
      exact ⟨ret_int (by simp), World.ownsRow_nil _ _ _ _, ⟨rfl, rfl, rfl, Nat.le_refl _, fun _ _ _ => rfl⟩⟩
  · have RS := Lib.hid (show MarkERel w B 25 g cap k xs (.int .i64 k) (.int .i64 0) w from ⟨0, by omega, rfl, by simp, by rw [w4_zero]; exact hv, ⟨rfl, rfl, rfl, Nat.le_refl _, fun _ _ _ => rfl⟩⟩)
    clear hv r hh
    go_enter Tryd.func43, Tryd.ntmps43
    go_wp2_with fail
    go_loopw [1, 5] (fun q i wr => MarkERel w B 25 g cap k xs q i wr) (fun _ i _ => xs.length - (intOf i).toNat)
    case atStart => exact RS.out
    case round =>
      obtain ⟨j, hj, rfl, rfl, hrow, hgr⟩ := hrel
      have HW := Lib.hid hrow
      have HG := Lib.hid hgr
      by_cases hlt : j < xs.length
      · have hl : (epC (mk4 k j)).length = j * 4 := by rw [epC_len, mk4_len]
        obtain ⟨e0, e1, e2, e3⟩ := get4 (epC (mk4 k j)) ((epC xs).drop ((j + 1) * 4)) (j * 4) (.int .i64 (at4 xs j).1) (.int .i64 (at4 xs j).2.1) (.int .i64 (at4 xs j).2.2.1) (.int .i64 (at4 xs j).2.2.2) hl
        rw [← w4_at hlt] at e0 e1 e2 e3
        have c0 := (hrow.cellAt (j * 4) (by omega)).trans e0
        have c1 := (hrow.cellAt (j * 4 + 1) (by omega)).trans e1
        have c2 := (hrow.cellAt (j * 4 + 2) (by omega)).trans e2
        have c3 := (hrow.cellAt (j * 4 + 3) (by omega)).trans e3
        have f0 : wr.frozen? ⟨g, j * 4, none⟩ = false := hrow.frozenAt (j * 4)
        have f1 : wr.frozen? ⟨g, j * 4 + 1, none⟩ = false := hrow.frozenAt (j * 4 + 1)
        have f2 : wr.frozen? ⟨g, j * 4 + 2, none⟩ = false := hrow.frozenAt (j * 4 + 2)
        have f3 : wr.frozen? ⟨g, j * 4 + 3, none⟩ = false := hrow.frozenAt (j * 4 + 3)
        have R0 := Lib.hid (HW.out.stored (j * 4) (.int .i64 (k + 4 * (j : Int))))
        have R1 := Lib.hid (R0.out.1.stored (j * 4 + 1) (.int .i64 (k + 4 * (j : Int) + 1)))
        have R2 := Lib.hid (R1.out.1.stored (j * 4 + 2) (.int .i64 (k + 4 * (j : Int) + 1 + 1)))
        have R3 := Lib.hid (R2.out.1.stored (j * 4 + 3) (.int .i64 (k + 4 * (j : Int) + 1 + 1 + 1)))
        clear hrow hgr hl e0 e1 e2 e3
        have HN := Lib.hid (show MarkERel w B 25 g cap k xs (.int .i64 (k + 4 * (j : Int) + 1 + 1 + 1 + 1)) (.int .i64 ((j : Int) + 1)) ((((wr.setCell ⟨g, j * 4, none⟩ (.int .i64 (k + 4 * (j : Int)))).setCell ⟨g, j * 4 + 1, none⟩ (.int .i64 (k + 4 * (j : Int) + 1))).setCell ⟨g, j * 4 + 2, none⟩ (.int .i64 (k + 4 * (j : Int) + 1 + 1))).setCell ⟨g, j * 4 + 3, none⟩ (.int .i64 (k + 4 * (j : Int) + 1 + 1 + 1))) from
          ⟨j + 1, hlt, by go_num, by go_num, by rw [← w4_next hlt]; exact R3.out.1, grown_two HG.out (grown_two R0.out.2 (grown_two R1.out.2 (grown_two R2.out.2 R3.out.2)))⟩)
        go_wp2_with fail
        exact ⟨HN.out, by simp [intOf]; omega⟩
      · obtain rfl : j = xs.length := by omega
        clear hrow hgr
        go_wp2_with fail
        go_ret
        refine ⟨rfl, ?_, HG.out⟩
        have := HW.out
        rw [w4_end] at this
        rw [mk4_len]; exact this
theorem ef2_len (n d lo hi c : Int) : (ef2 n d lo hi c).1.length ≤ 1000000000000 := by
  unfold ef2
  split
  · split
    · split
      · simp
      · show (efL n d lo hi c (hi - lo + 1).toNat).length ≤ _
        omega
    · simp
  · simp
set_option maxHeartbeats 4000000 in
theorem FnExactEpisFor_walk (n d lo hi c : Int) (w : World) (hS : Sines w) :
    Calls Tryd.prog 11 #[.agg #[.int .i64 n, .int .i64 d], .int .i64 lo, .int .i64 hi, .int .i64 c] w fun e w' => e = .returned (.bool true) ∧ Below w.heap.size w w' := by
  have HS := Lib.hid hS
  have SS := Lib.hid (fun W => EpisForS_any n d lo hi c W)
  have SI := Lib.hid (fun W (hs : Sines W) => EpisForI_any n d lo hi c W hs)
  have hmax := ef2_len n d lo hi c
  generalize ef2 n d lo hi c = x at *
  obtain ⟨xs, kk⟩ := x
  unfold EfPost at SS SI
  replace hmax : xs.length ≤ 1000000000000 := hmax
  have hne : (kk != kk) = false := by simp
  clear hS
  go_enter Tryd.func11, Tryd.ntmps11
  go_wp2_with fail
  have B0 := Lib.hid (Box2.new w n d 45)
  have L0 := Lib.hid (bA (bR w) (.cells #[.int .i64 n, .int .i64 d] 45))
  generalize w.alloc (.cells #[.int .i64 n, .int .i64 d] 45) = W0 at *
  refine (toRatio_any _ _ _).mono ?_
  rintro e w1 ⟨rfl, hb1⟩
  have B1 := Lib.hid (B0.out.keep hb1)
  have L1 := Lib.hid (bT L0.out hb1)
  clear hb1 B0 L0
  obtain ⟨x0, x1, x2, x3, x4⟩ := B1.out
  go_wp2_with fail
  refine (SS.out _).mono ?_
  rintro e w2 ⟨v0, rfl, hv0, hb2⟩
  have B2 := Lib.hid (B1.out.keep hb2)
  have L2 := Lib.hid (bT L1.out hb2)
  have V0 := Lib.hid (slE_of hv0)
  clear hb2 B1 L1 hv0 x0 x1 x2 x3 x4
  obtain ⟨x0, x1, x2, x3, x4⟩ := B2.out
  go_wp2_with fail
  refine (toRatio_any _ _ _).mono ?_
  rintro e w3 ⟨rfl, hb3⟩
  have B3 := Lib.hid (B2.out.keep hb3)
  have L3 := Lib.hid (bT L2.out hb3)
  have V03 := Lib.hid (V0.out.keep hb3)
  clear hb3 B2 L2 V0 x0 x1 x2 x3 x4
  go_wp2_with fail
  refine (SI.out _ (HS.out.keep L3.out)).mono ?_
  rintro e w4 ⟨v1, rfl, hv1, hb4⟩
  have B4 := Lib.hid (B3.out.keep hb4)
  have L4 := Lib.hid (bT L3.out hb4)
  have V04 := Lib.hid (V03.out.keep hb4)
  have V1 := Lib.hid hv1
  have h34 := hb4.size
  have HM := Lib.hid (fun (r : Nat) (e : v1.ownBlock = some r) => (own_blk hv1 r e).1)
  have HB4 := Lib.hid hb4
  clear hb4 hv1
  go_wp2_with fail
  refine (eqEpiS_same xs v1 v0 w4 (slE_of V1.out) V04.out hmax).mono ?_
  rintro e w5 ⟨rfl, hb5⟩
  have V15 := Lib.hid (own_keep V1.out hb5)
  have HB5 := Lib.hid (bT HB4.out hb5)
  have h35 := HB5.out.size
  clear hb5 V1
  go_wp2_with fail
  refine (markEpiS_any 1 xs w3.heap.size v1 w5 V15.out hmax (by omega) (by omega)).mono ?_
  rintro e w6 ⟨rfl, hv6, hg6⟩
  have H36 : Below w3.heap.size w3 w6 := HB5.out.trans (grown_bel hg6 HM.out h35)
  have B6 := Lib.hid (B3.out.keep H36)
  have L6 := Lib.hid (bT L3.out H36)
  have V06 := Lib.hid (V03.out.keep H36)
  have V6 := Lib.hid (slE_of hv6)
  have hne2 : ((1 : Int) + 4 * (xs.length : Int) != 1 + 4 * (xs.length : Int)) = false := by simp
  have hk0 : ¬ (1 + 4 * (xs.length : Int)) < 0 := by omega
  clear H36 hv6 hg6 HM HB4 HB5 B3 L3 V03 B4 L4 V04 V15 h34 h35
  go_wp2_with fail
  refine (heldEpiS_same 1 xs.length v1 w6 V6.out hmax (by omega) (by omega)).mono ?_
  rintro e w6' ⟨rfl, rfl⟩
  obtain ⟨x0, x1, x2, x3, x4⟩ := B6.out
  go_wp2_with fail
  refine (toRatio_any _ _ _).mono ?_
  rintro e w7 ⟨rfl, hb7⟩
  have L7 := Lib.hid (bT L6.out hb7)
  have V07 := Lib.hid (V06.out.keep hb7)
  have V7 := Lib.hid (V6.out.keep hb7)
  clear hb7 B6 L6 V06 V6 x0 x1 x2 x3 x4
  go_wp2_with fail
  refine (SI.out _ (HS.out.keep L7.out)).mono ?_
  rintro e w8 ⟨v2, rfl, hv2, hb8⟩
  have L8 := Lib.hid (bT L7.out hb8)
  have V08 := Lib.hid (V07.out.keep hb8)
  have V8 := Lib.hid (V7.out.keep hb8)
  have V2 := Lib.hid (slE_of hv2)
  clear hb8 L7 V07 V7 hv2
  go_wp2_with fail
  refine (eqEpiS_same xs v2 v0 w8 V2.out V08.out hmax).mono ?_
  rintro e w9 ⟨rfl, hb9⟩
  have L9 := Lib.hid (bT L8.out hb9)
  have V9 := Lib.hid (V8.out.keep hb9)
  clear hb9 V8 L8 V08 V2
  go_wp2_with fail
  refine (heldEpiS_same 1 xs.length v1 w9 V9.out hmax (by omega) (by omega)).mono ?_
  rintro e w9' ⟨rfl, rfl⟩
  go_wp2_with fail
  go_ret
  exact ⟨rfl, L9.out⟩
end Go.Proofs.YtcklcledchboiaaDoor

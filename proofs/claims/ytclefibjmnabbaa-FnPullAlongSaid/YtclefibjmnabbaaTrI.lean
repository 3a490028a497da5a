/-
  Trains: the plain words, and the contracts of impl.toothCount.valid, impl.isNoPair, slices.IndexFunc and slices.ContainsFunc at pairs with it, impl.isTrain; spec.l05Teeth, l05Pair, l05Ok.
-/
import Derived.Test.YtclefibjmnabbaaEqP
namespace Go.Proofs.Ytclefibjmnabbaa
open Go.RowKit

/-- A pair of wheels within the limits, and a train. -/
def okP (p : Int × Int) : Bool := inB p.1 6 240 && inB p.2 6 240
def okT (ps : List (Int × Int)) : Bool := decide (ps.length ≤ 5) && ps.all okP
theorem okP_bd {p : Int × Int} (h : okP p = true) : 6 ≤ p.1 ∧ p.1 ≤ 240 ∧ 6 ≤ p.2 ∧ p.2 ≤ 240 := by
  simp only [okP, Bool.and_eq_true, inB_true] at h; omega
theorem okT_iff {ps : List (Int × Int)} : okT ps = true ↔ ps.length ≤ 5 ∧ ∀ p ∈ ps, okP p = true := by simp [okT]
theorem okT_at {ps : List (Int × Int)} (h : okT ps = true) {i : Nat} (hi : i < ps.length) : 6 ≤ (pat ps i).1 ∧ (pat ps i).1 ≤ 240 ∧ 6 ≤ (pat ps i).2 ∧ (pat ps i).2 ≤ 240 :=
  okP_bd ((okT_iff.1 h).2 _ (pat_mem hi))
theorem okP_no1 {x y : Int} (h : inB x 6 240 = false) : okP (x, y) = false := by simp [okP, h]
theorem okP_no2 {x y : Int} (h : inB y 6 240 = false) : okP (x, y) = false := by simp [okP, h]
theorem okP_yes {x y : Int} (h : inB x 6 240 = true) (h2 : inB y 6 240 = true) : okP (x, y) = true := by simp [okP, h, h2]
/-- The first k pairs are within the limits. -/
def okK (ps : List (Int × Int)) (k : Nat) : Prop := ∀ i, i < k → okP (pat ps i) = true
theorem okK_zero (ps : List (Int × Int)) : okK ps 0 := fun _ h => absurd h (Nat.not_lt_zero _)
theorem okK_succ {ps : List (Int × Int)} {k : Nat} (h : okK ps k) (h2 : okP (pat ps k) = true) : okK ps (k + 1) := by
  intro i hi
  by_cases e : i = k
  · rw [e]; exact h2
  · exact h i (by omega)
theorem okK_all {ps : List (Int × Int)} (h : okK ps ps.length) : ps.all okP = true := by
  rw [List.all_eq_true]
  intro p hp
  obtain ⟨i, hi, e⟩ := List.getElem_of_mem hp
  have := h i hi
  rw [← pat_get hi, e] at this
  exact this
theorem all_no {ps : List (Int × Int)} {k : Nat} (hk : k < ps.length) (h : okP (pat ps k) = false) : ps.all okP = false := by
  cases hc : ps.all okP
  · rfl
  · rw [List.all_eq_true.1 hc _ (pat_mem hk)] at h; cases h

theorem toothValid_any (t : Int) (w : World) :
    Calls Try.prog 99 #[.int .i64 t] w fun e w' => e = .returned (.bool (inB t 6 240)) ∧ w = w' := by
  by_cases h : 6 ≤ t
  · go_enter Try.func99, Try.ntmps99
    go_wp2
    go_ret
    exact ⟨ret_bool (by simp [inB, h]), rfl⟩
  · go_enter Try.func99, Try.ntmps99
    go_wp2
    go_ret
    exact ⟨ret_bool (by simp [inB]; omega), rfl⟩
set_option maxHeartbeats 1000000 in
theorem isNoPair_any (x y : Int) (w : World) :
    Calls Try.prog 95 #[.agg #[.int .i64 x, .int .i64 y]] w fun e w' => e = .returned (.bool (!okP (x, y))) ∧ Below w.heap.size w w' := by
  cases h1 : inB x 6 240
  · rw [okP_no1 h1]
    go_enter Try.func95, Try.ntmps95
    go_wp2_with (go_at_call 99; refine (toothValid_any _ _).mono ?_; rintro e w1 ⟨rfl, rfl⟩)
    go_ret
    exact ⟨rfl, bA (bR _) _⟩
  · cases h2 : inB y 6 240
    · rw [okP_no2 h2]
      go_enter Try.func95, Try.ntmps95
      go_wp2_with (go_at_call 99; refine (toothValid_any _ _).mono ?_; rintro e w1 ⟨rfl, rfl⟩)
      go_ret
      exact ⟨rfl, bA (bR _) _⟩
    · rw [okP_yes h1 h2]
      go_enter Try.func95, Try.ntmps95
      go_wp2_with (go_at_call 99; refine (toothValid_any _ _).mono ?_; rintro e w1 ⟨rfl, rfl⟩)
      go_ret
      exact ⟨rfl, bA (bR _) _⟩
/-- What IndexFunc returns: the place of the first pair that is out of the limits. -/
def IdxRet (ps : List (Int × Int)) (w : World) (e : Ending) (w' : World) : Prop := ∃ r : Int, e = .returned (.int .i64 r) ∧ decide (0 ≤ r) = !ps.all okP ∧ r ≤ ps.length ∧ -1 ≤ r ∧ Below w.heap.size w w'
set_option maxHeartbeats 1000000 in
theorem idxP_any (ps : List (Int × Int)) (v : Value) (w : World) (ha : SlP w v ps) (hmax : ps.length ≤ 1000000000000) :
    Calls Try.prog 98 #[v, .func (.func 95) #[] #[]] w (IdxRet ps w) := by
  obtain ⟨ao, cap, rfl, ha⟩ := ha
  have HA := Lib.hid ha
  clear ha
  go_enter Try.func98, Try.ntmps98
  go_wp2_with fail
  go_loopw [8] (fun i wr => ∃ (k : Nat), k ≤ ps.length ∧ i = .int .i64 k ∧ okK ps k ∧ Below w.heap.size w wr) (fun i _ => ps.length - (intOf i).toNat)
  case atStart => exact ⟨0, by omega, rfl, okK_zero _, bR _⟩
  case round =>
    obtain ⟨k, hk, rfl, hok, hbw⟩ := hrel
    have HK := Lib.hid hok
    clear hok
    by_cases hlt : k < ps.length
    · obtain ⟨g, rfl, hg, hc⟩ := HA.out (by omega)
      obtain ⟨c1, c2⟩ := (hc.keep hg hbw) k hlt
      have HBW := Lib.hid hbw
      have HE := Lib.hid (show okP (pat ps k) = okP ((pat ps k).1, (pat ps k).2) from rfl)
      clear hc HA hbw hg
      generalize (pat ps k).1 = x at *
      generalize (pat ps k).2 = y at *
      cases hp : okP (x, y)
      · rw [hp] at HE
        have HN := Lib.hid (all_no hlt HE.out)
        go_wp2_with fail
        refine (isNoPair_any _ _ _).mono ?_
        rw [hp]
        rintro e w1 ⟨rfl, hb1⟩
        have HB1 := Lib.hid (bT HBW.out hb1)
        clear hb1 hp
        go_wp2_with fail
        go_ret
        exact ⟨k, rfl, by rw [HN.out]; simp, by omega, by omega, HB1.out⟩
      · rw [hp] at HE
        have HS := Lib.hid (okK_succ HK.out HE.out)
        go_wp2_with fail
        refine (isNoPair_any _ _ _).mono ?_
        rw [hp]
        rintro e w1 ⟨rfl, hb1⟩
        have HB1 := Lib.hid (bT HBW.out hb1)
        clear hb1 hp
        go_wp2_with fail
        go_roundw
        case rel => exact ⟨k + 1, by omega, by go_num, HS.out, HB1.out⟩
        case measure => simp [intOf]; omega
    · obtain rfl : k = ps.length := by omega
      have HR := Lib.hid (okK_all HK.out)
      go_wp2_with fail
      go_ret
      exact ⟨-1, rfl, by rw [HR.out]; rfl, by omega, by omega, hbw⟩
theorem containsP_any (ps : List (Int × Int)) (v : Value) (w : World) (ha : SlP w v ps) (hmax : ps.length ≤ 1000000000000) :
    Calls Try.prog 94 #[v, .func (.func 95) #[] #[]] w (BoolBel (!ps.all okP) w) := by
  go_enter Try.func94, Try.ntmps94
  go_wp2_with fail
  refine (idxP_any ps v w ha hmax).mono ?_
  rintro e w1 ⟨r, rfl, hr, h1, h2, hb⟩
  have HR := Lib.hid hr
  clear hr
  go_wp2_with fail
  go_ret
  exact ⟨ret_bool HR.out, hb⟩
set_option maxHeartbeats 1000000 in
theorem isTrain_any (ps : List (Int × Int)) (v : Value) (w : World) (ha : SlP w v ps) (hmax : ps.length ≤ 1000000000000) :
    Calls Try.prog 88 #[v] w (BoolBel (okT ps) w) := by
  have hcon := containsP_any ps v w ha hmax
  obtain ⟨ao, cap, rfl, _⟩ := ha
  by_cases h5 : ps.length ≤ 5
  · have HE := Lib.hid (show okT ps = !!ps.all okP by simp [okT, h5])
    generalize (!ps.all okP) = r at hcon HE
    go_enter Try.func88, Try.ntmps88
    go_wp2_with fail
    refine hcon.mono ?_
    rintro e w1 ⟨rfl, hb⟩
    go_wp2_with fail
    go_ret
    exact ⟨ret_bool HE.out.symm, hb⟩
  · have HE := Lib.hid (show okT ps = false by simp [okT, h5])
    clear hcon
    go_enter Try.func88, Try.ntmps88
    go_wp2_with fail
    go_ret
    exact ⟨ret_bool HE.out.symm, bR _⟩
end Go.Proofs.Ytclefibjmnabbaa

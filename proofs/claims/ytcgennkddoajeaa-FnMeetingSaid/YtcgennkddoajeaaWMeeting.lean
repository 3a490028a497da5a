/-
  The walk of laws.FnMeeting.
-/
import Derived.Test.YtcgennkddoajeaaTrA
import Derived.Test.YtcgennkddoajeaaDrawT
namespace Go.Proofs.Ytcgennkddoajeaa
open Go.RowKit

/-- The number of turns: it is within the limits, and fits. -/
theorem mt_fits {x y : Int} (h : okP (x, y) = true) : 1 ≤ mtN x y ∧ mtN x y ≤ y ∧ mtN x y * x % y = 0 ∧ mtC x y = 0 := by
  obtain ⟨a1, a2, a3, a4⟩ := okP_bd h
  obtain ⟨g1, g2⟩ := gcd_lim h
  simp only at a1 a2 a3 a4
  obtain ⟨d1, d2⟩ := div_pos_bd (y := y) (by omega) g1
  rw [(mt_yes h).1, (mt_yes h).2]
  obtain ⟨u, hu⟩ := Int.gcd_dvd_left x y
  obtain ⟨v, hv⟩ := Int.gcd_dvd_right x y
  generalize ((Int.gcd x y : Nat) : Int) = g at *
  have e : y / g = v := by rw [hv]; exact Int.mul_ediv_cancel_left _ (by omega)
  rw [e] at d1 d2 ⊢
  refine ⟨?_, d2, ?_, rfl⟩
  · by_cases hv0 : v = 0
    · subst hv0; omega
    · omega
  · have : v * x = y * u := by rw [hu, hv]; grind
    rw [this]; exact Int.mul_emod_right _ _
/-- No lesser number of turns does. -/
theorem mt_least {x y k : Int} (h : okP (x, y) = true) (h1 : 1 ≤ k) (h2 : k < mtN x y) : k * x % y ≠ 0 := by
  intro h0
  obtain ⟨a1, a2, a3, a4⟩ := okP_bd h
  obtain ⟨g1, g2⟩ := gcd_lim h
  simp only at a1 a2 a3 a4
  rw [(mt_yes h).1] at h2
  have hdvd : y ∣ k * x := Int.dvd_of_emod_eq_zero h0
  have hg : (0 : Int) < ((Int.gcd x y : Nat) : Int) := by omega
  have hd : y / ((Int.gcd x y : Nat) : Int) ∣ k := by
    have hx := Int.ediv_mul_cancel (Int.gcd_dvd_left x y)
    have hy := Int.ediv_mul_cancel (Int.gcd_dvd_right x y)
    have hcop : Int.gcd (x / ((Int.gcd x y : Nat) : Int)) (y / ((Int.gcd x y : Nat) : Int)) = 1 := Int.gcd_ediv_gcd_ediv_gcd (by omega)
    generalize ((Int.gcd x y : Nat) : Int) = g at *
    have h3 : y / g ∣ k * (x / g) := by
      obtain ⟨q, hq⟩ := hdvd
      refine ⟨q, ?_⟩
      have : g * (k * (x / g)) = g * (y / g * q) := by
        have e1 : g * (k * (x / g)) = k * (x / g * g) := by grind
        have e2 : g * (y / g * q) = y / g * g * q := by grind
        rw [e1, e2, hx, hy]; exact hq
      exact Int.eq_of_mul_eq_mul_left (by omega) this
    have h4 := Int.natAbs_dvd_natAbs.2 h3
    rw [Int.natAbs_mul] at h4
    have hc2 : Nat.Coprime (y / g).natAbs (x / g).natAbs := by rw [Nat.coprime_comm]; exact hcop
    exact Int.natAbs_dvd_natAbs.1 (hc2.dvd_of_dvd_mul_right h4)
  have := Int.le_of_dvd (by omega) hd
  omega
theorem mod_lim {a y : Int} (_h : 6 ≤ y) : 0 ≤ a % y ∧ a % y < y := ⟨Int.emod_nonneg _ (by omega), Int.emod_lt_of_pos _ (by omega)⟩
theorem mul_lim {a b : Int} (h1 : 0 ≤ a) (h2 : a ≤ 1000) (h3 : 0 ≤ b) (h4 : b ≤ 1000) : 0 ≤ a * b ∧ a * b ≤ 1000000 := by
  have := Int.mul_nonneg h1 h3
  have h5 : a * b ≤ 1000 * b := Int.mul_le_mul_of_nonneg_right h2 h3
  omega
set_option maxRecDepth 100000 in
set_option maxHeartbeats 4000000 in
theorem FnMeeting_walk (a : Option Addr) (len cap : Nat) (zs : List Int) (w : World) (h : IsRow .u8 w a len cap zs) :
    Calls Try.prog 4 #[.slice a len cap] w fun e w' => e = .returned (.bool true) ∧ Below w.heap.size w w' := by
  have l1 := (row_of h).1
  unfold maxLen at l1
  have HA := Lib.hid h
  clear h
  by_cases hl : 3000 < len
  · go_enter Try.func4, Try.ntmps4
    go_wp2_with fail
    refine (a2Long_yes _ _ _ _ _ _ _ (by omega) (by omega) (.inl hl)).mono ?_
    rintro e w1 ⟨rfl, rfl⟩
    go_wp2_with fail
    go_ret
    exact ⟨rfl, bR _⟩
  · have hl1 : len ≤ 3000 := by omega
    clear hl
    go_enter Try.func4, Try.ntmps4
    go_wp2_with fail
    refine (a2Long_no _ _ _ _ _ _ _ hl1 (by omega)).mono ?_
    rintro e w0 ⟨rfl, rfl⟩
    go_wp2_with fail
    refine (A2Train_any _ a len cap zs HA.out).mono ?_
    rintro e w1 ⟨ps, v, rfl, hlen, hok, hsl, hb1⟩
    have HOK := Lib.hid hok
    have HL := Lib.hid hb1
    obtain ⟨ao, cap', rfl, hsl⟩ := hsl
    have HS := Lib.hid hsl
    clear hok hb1 hsl HA
    go_wp2_with fail
    go_loopw [4] (fun i wr => ∃ (k : Nat), k ≤ ps.length ∧ i = .int .i64 k ∧ Below w1.heap.size w1 wr) (fun i _ => ps.length - (intOf i).toNat)
    case atStart => exact ⟨0, by omega, rfl, bR _⟩
    case round =>
      obtain ⟨k, hk, rfl, hbw⟩ := hrel
      have HB := Lib.hid hbw
      clear hbw
      by_cases hlt : k < ps.length
      · obtain ⟨g, rfl, hg, hc⟩ := HS.out (by omega)
        obtain ⟨c1, c2⟩ := (hc.keep hg HB.out) k hlt
        have hgw : g < wr.heap.size := Nat.lt_of_lt_of_le hg HB.out.size
        have hp : okP ((pat ps k).1, (pat ps k).2) = true := (okT_iff.1 HOK.out).2 _ (pat_mem hlt)
        have HP := Lib.hid hp
        clear hc hg HS
        generalize (pat ps k).1 = x at *
        generalize (pat ps k).2 = y at *
        obtain ⟨a1, a2, a3, a4⟩ := okP_bd hp
        simp only at a1 a2 a3 a4
        obtain ⟨f1, f2, f3, f4⟩ := mt_fits hp
        obtain ⟨p1, p2⟩ := mul_lim (a := mtN x y) (b := x) (by omega) (by omega) (by omega) (by omega)
        have HF3 := Lib.hid f3
        have HF4 := Lib.hid f4
        clear hp f3 f4
        go_wp2_with fail
        refine (MeetingTurnsI_any _ _ _).mono ?_
        rw [HF4.out]
        rintro e w2 ⟨rfl, hb2⟩
        have HB2 := Lib.hid (bT HB.out hb2)
        have c1' : w2.cell? ⟨g, k * 2, none⟩ = some (.int .i64 x) := (hb2.cell (p := ⟨g, k * 2, none⟩) hgw).trans c1
        have c2' : w2.cell? ⟨g, k * 2 + 1, none⟩ = some (.int .i64 y) := (hb2.cell (p := ⟨g, k * 2 + 1, none⟩) hgw).trans c2
        clear hb2 c1 c2 hgw
        have HLEAST := Lib.hid (fun (j : Int) (h1 : 1 ≤ j) (h2 : j < mtN x y) => mt_least HP.out h1 h2)
        generalize mtN x y = n at *
        have f3' : (n * x).tmod y = 0 := by rw [Int.tmod_eq_emod_of_nonneg p1]; exact HF3.out
        have q1 : ((IntKind.i64.wrap (n * x)).tmod y != 0) = false := by rw [IntWalk.i64_in _ (by omega), f3']; rfl
        clear f3'
        have hy0 : ¬ y = 0 := by omega
        have hn1 : ¬ n < 1 := by omega
        have hny : ¬ y < n := by omega
        go_wp2_with fail
        go_quiet (fail)
        go_wp2_with fail
        generalize hw3 : w2.drewN _ = w3
        have c1'' : w3.cell? ⟨g, k * 2, none⟩ = some (.int .i64 x) := by rw [← hw3]; exact c1'
        have c2'' : w3.cell? ⟨g, k * 2 + 1, none⟩ = some (.int .i64 y) := by rw [← hw3]; exact c2'
        have HB3 := Lib.hid (show Below w1.heap.size w1 w3 by rw [← hw3]; exact bD HB2.out _)
        clear hw3 c1' c2' HB2 q1 HF3 HF4 hn1 hny p1 p2
        go_loopw [7] (fun j wr => ∃ (i n' : Nat), 1 ≤ i ∧ (i : Int) ≤ n ∧ j = .int .i64 i ∧ wr = w3.drewN n') (fun j _ => n.toNat - (intOf j).toNat)
        case atStart => exact ⟨1, 0, by omega, by omega, rfl, rfl⟩
        case round =>
          obtain ⟨i, n', hi1, hi2, rfl, rfl⟩ := hrel
          by_cases hin : (i : Int) < n
          · have HNE := HLEAST.out i (by omega) hin
            obtain ⟨p1, p2⟩ := mul_lim (a := (i : Int)) (b := x) (by omega) (by omega) (by omega) (by omega)
            have q1 : ((IntKind.i64.wrap ((i : Int) * x)).tmod y == 0) = false := by rw [IntWalk.i64_in _ (by omega), Int.tmod_eq_emod_of_nonneg p1]; simpa using HNE
            have q2 : ((i : Int) * x % y == 0) = false := by simpa using HNE
            clear HNE
            go_wp2_with fail
            go_quiet (fail)
            go_wp2_with fail
            go_roundw
            case rel => exact ⟨i + 1, n' + nq, by omega, by omega, by go_num, rfl⟩
            case measure => simp [intOf]; omega
          · go_wp2_with fail
            go_roundw
            case rel => exact ⟨k + 1, by omega, by go_num, bD HB3.out _⟩
            case measure => simp [intOf]; omega
      · go_wp2_with fail
        go_ret
        exact ⟨rfl, bT HL.out HB.out⟩
end Go.Proofs.Ytcgennkddoajeaa

/-
  The walk of laws.FnContacts.
-/
import Derived.Test.YtpbmpmcifpgchaaWFnIn
import Derived.Test.YtpbmpmcifpgchaaCtf
namespace Go.Proofs.Ytpbmpmcifpgchaa
open Go.RowKit

theorem rt_ge {n x : Int} (h0 : 0 ≤ x) (h : x * x ≤ n) : x ≤ rt n := by
  have r := rt_is (n := n) (by have := Int.mul_nonneg h0 h0; omega)
  have : x < rt n + 1 := sq_lt (by omega) (by omega)
  omega
theorem rt_mono {n m : Int} (h0 : 0 ≤ n) (h : n ≤ m) : rt n ≤ rt m := rt_ge (rt_is h0).1 (by have := (rt_is h0).2.1; omega)
theorem ru_is {n : Int} (h0 : 0 ≤ n) : 0 ≤ ru n ∧ n ≤ ru n * ru n ∧ rt n ≤ ru n := by
  have r := rt_is h0
  unfold ru
  split
  · exact ⟨by omega, by omega, by omega⟩
  · exact ⟨by omega, by omega, by omega⟩
theorem ru_le {n x : Int} (h0 : 0 ≤ n) (hx : 0 ≤ x) (h : n ≤ x * x) : ru n ≤ x := by
  have r := rt_is h0
  have h1 := rt_le h0 hx h
  unfold ru
  split
  · rename_i hc
    apply Classical.byContradiction; intro hn
    have : rt n = x := by omega
    rw [this] at hc; omega
  · exact h1
theorem ru_mono {n m : Int} (h0 : 0 ≤ n) (h : n ≤ m) : ru n ≤ ru m := ru_le h0 (ru_is (by omega)).1 (by have := (ru_is (n := m) (by omega)).2.1; omega)
theorem sqd_ge {t m k s c h : Int} (e : okPf t m k s c h = true) : pit t m * s ≤ rt (sqd t m k c h) := by
  have L := lim_of e
  obtain ⟨s1, s2, c1, c2, h1, h2, he⟩ := okAn_bd (okPf_bd e).2.2.2
  have p := pit_bd L.1 L.2.1
  have o := out_bd L.1 L.2.1 L.2.2.1
  have a := sq_mono (a := pit t m * h) (b := out_ t m k * h) (Int.mul_nonneg (by omega) (by omega)) (Int.mul_le_mul_of_nonneg_right (by omega) (by omega))
  refine rt_ge (Int.mul_nonneg (by omega) (by omega)) ?_
  unfold sqd
  have e1 : pit t m * s * (pit t m * s) + pit t m * c * (pit t m * c) = pit t m * h * (pit t m * h) := by
    have : pit t m * s * (pit t m * s) + pit t m * c * (pit t m * c) = pit t m * pit t m * (s * s + c * c) := by grind
    rw [this, he]; grind
  omega
theorem sqd_mono {t m k k2 c h : Int} (ht : 6 ≤ t ∧ t ≤ 240) (hm : 1 ≤ m ∧ m ≤ 500) (hk : 1 ≤ k) (hkk : k ≤ k2) (hh : 1 ≤ h) : sqd t m k c h ≤ sqd t m k2 c h := by
  have h0 := pit_bd ht hm
  have h1 : 2 * k * m ≤ 2 * k2 * m := Int.mul_le_mul_of_nonneg_right (by omega) (by omega)
  have h2 : 0 ≤ 2 * k * m := Int.mul_nonneg (by omega) (by omega)
  have h3 : out_ t m k * h ≤ out_ t m k2 * h := Int.mul_le_mul_of_nonneg_right (by unfold out_; omega) (by omega)
  have h4 : 0 ≤ out_ t m k * h := Int.mul_nonneg (by unfold out_; omega) (by omega)
  have h5 := sq_mono h4 h3
  unfold sqd; omega
theorem way_sym (d t m k s c h t2 k2 : Int) : wayN d t2 m k2 s c h t k = wayN d t m k s c h t2 k2 := by
  unfold wayN
  rw [Int.add_comm (pit t2 m) (pit t m)]; omega
theorem way_facts {t m k s c h t2 k2 : Int} (e : okPf t m k s c h = true) (e2 : okPf t2 m k2 s c h = true) : 0 ≤ wayN 0 t m k s c h t2 k2 ∧ wayN 0 t m k s c h t2 k2 ≤ wayN 1 t m k s c h t2 k2 := by
  have a := sqd_ge e
  have b := sqd_ge e2
  have r1 := (ru_is (sqd_bd e).1).2.2
  have r2 := (ru_is (sqd_bd e2).1).2.2
  have w0 : wayN 0 t m k s c h t2 k2 = rt (sqd t m k c h) + rt (sqd t2 m k2 c h) - (pit t m + pit t2 m) * s := rfl
  have w1 : wayN 1 t m k s c h t2 k2 = ru (sqd t m k c h) + ru (sqd t2 m k2 c h) - (pit t m + pit t2 m) * s := rfl
  rw [w0, w1, Int.add_mul]; omega
theorem way_mono {t m k s c h t2 k2 : Int} (e : okPf t m k s c h = true) (_e2 : okPf t m (k + 1) s c h = true) : wayN 0 t m k s c h t2 k2 ≤ wayN 0 t m (k + 1) s c h t2 k2 ∧ wayN 1 t m k s c h t2 k2 ≤ wayN 1 t m (k + 1) s c h t2 k2 := by
  have L := lim_of e
  have q := sqd_mono (c := c) L.1 L.2.1 L.2.2.1.1 (show k ≤ k + 1 by omega) L.2.2.2.2.2.1
  have a := rt_mono (sqd_bd e).1 q
  have b := ru_mono (sqd_bd e).1 q
  have w0 : ∀ k, wayN 0 t m k s c h t2 k2 = rt (sqd t m k c h) + rt (sqd t2 m k2 c h) - (pit t m + pit t2 m) * s := fun _ => rfl
  have w1 : ∀ k, wayN 1 t m k s c h t2 k2 = ru (sqd t m k c h) + ru (sqd t2 m k2 c h) - (pit t m + pit t2 m) * s := fun _ => rfl
  rw [w0, w0, w1, w1]; omega
theorem upq_mono {a b d : Int} (hd : 1 ≤ d) (h : a ≤ b) : upq a d ≤ upq b d := by
  have : (-b) / d ≤ (-a) / d := Int.ediv_le_ediv (by omega) (by omega)
  unfold upq; omega
theorem ct_facts {t m k s c h t2 k2 : Int} (e : okPf t m k s c h = true) (e2 : okPf t2 m k2 s c h = true) : 0 ≤ ctD t m k s c h t2 k2 ∧ ctD t m k s c h t2 k2 ≤ ctU t m k s c h t2 k2 := by
  have wf := way_facts e e2
  have L := lim_of e
  have bm := mc_bd L.2.1 L.2.2.2.2.1
  have q0 : 0 ≤ ctD t m k s c h t2 k2 := Int.ediv_nonneg (by omega) (by omega)
  refine ⟨q0, ?_⟩
  have q1 : ctD t m k s c h t2 k2 * (20 * m * c * 104348) ≤ 1000 * wayN 0 t m k s c h t2 k2 * 33215 := (le_div (by omega)).1 (Int.le_refl _)
  apply Classical.byContradiction; intro hn
  have q2 : upq (1000 * wayN 1 t m k s c h t2 k2 * 33102) (20 * m * c * 103993) ≤ ctD t m k s c h t2 k2 - 1 := by
    have : ctU t m k s c h t2 k2 = upq (1000 * wayN 1 t m k s c h t2 k2 * 33102) (20 * m * c * 103993) := rfl
    omega
  have q3 := (upq_le (by omega)).1 q2
  generalize ctD t m k s c h t2 k2 = q at *
  generalize wayN 0 t m k s c h t2 k2 = x at *
  generalize wayN 1 t m k s c h t2 k2 = y at *
  generalize 20 * m * c = M at *
  have e3 : q * (M * 104348) = q * M * 104348 := by grind
  have e4 : (q - 1) * (M * 103993) = q * M * 103993 - M * 103993 := by grind
  rw [e3] at q1
  rw [e4] at q3
  generalize q * M = Z at *
  omega
theorem ct_mono {t m k s c h t2 k2 : Int} (e : okPf t m k s c h = true) (e2 : okPf t m (k + 1) s c h = true) : ctD t m k s c h t2 k2 ≤ ctD t m (k + 1) s c h t2 k2 ∧ ctU t m k s c h t2 k2 ≤ ctU t m (k + 1) s c h t2 k2 := by
  have w := way_mono (t2 := t2) (k2 := k2) e e2
  have L := lim_of e
  have bm := mc_bd L.2.1 L.2.2.2.2.1
  exact ⟨Int.ediv_le_ediv (by omega) (by omega), upq_mono (by omega) (by omega)⟩
theorem ct_sym (t m k s c h t2 k2 : Int) : ctD t2 m k2 s c h t k = ctD t m k s c h t2 k2 ∧ ctU t2 m k2 s c h t k = ctU t m k s c h t2 k2 := by
  unfold ctD ctU
  rw [way_sym 0, way_sym 1]
  exact ⟨rfl, rfl⟩
set_option maxRecDepth 100000 in
set_option maxHeartbeats 8000000 in
theorem FnContacts_walk (a : Option Addr) (len cap : Nat) (zs : List Int) (w : World) (h : IsRow .u8 w a len cap zs) :
    Calls Try.prog 7 #[.slice a len cap] w fun e w' => e = .returned (.bool true) ∧ Below w.heap.size w w' := by
  have l1 := (row_of h).1
  unfold maxLen at l1
  have HA := Lib.hid h
  clear h
  by_cases hl : 4096 < len
  · have hd : decide (4096 < (len : Int)) = true := decide_eq_true (by omega)
    go_enter Try.func7, Try.ntmps7
    go_wp2_with fail
    refine (f6bigR_any _ _ _ _ (by omega)).mono ?_
    rw [hd]
    rintro e w1 ⟨rfl, rfl⟩
    go_wp2_with fail
    go_ret
    exact ⟨rfl, bR _⟩
  have hd : decide (4096 < (len : Int)) = false := decide_eq_false (by omega)
  go_enter Try.func7, Try.ntmps7
  go_wp2_with fail
  refine (f6bigR_any _ _ _ _ (by omega)).mono ?_
  rw [hd]
  rintro e w1 ⟨rfl, rfl⟩
  go_wp2_with fail
  refine (DrawContactBounds_any _ a len cap zs HA.out).mono ?_
  rintro e w1 ⟨t, m, k, s, c, h, t2, m2, k2, s2, c2, h2, rfl, hb⟩
  have L0 := Lib.hid hb
  have CI := Lib.hid (fun W => ContactBoundsI_any t m k s c h t2 m2 k2 s2 c2 h2 W)
  have CS := Lib.hid (fun W => ContactBoundsS_any t m k s c h t2 m2 k2 s2 c2 h2 W)
  have CB := Lib.hid (fun W => ContactBoundsI_any t2 m2 k2 s2 c2 h2 t m k s c h W)
  have H0 := Lib.hid (PwH.new w1 t m k s c h t2 m2 k2 s2 c2 h2 30 30)
  clear hb HA hd hl l1
  by_cases hz : twC t m k s c h t2 m2 k2 s2 c2 h2 = 0
  · have hz' : twC t2 m2 k2 s2 c2 h2 t m k s c h = 0 := by rw [twC_sym]; exact hz
    rw [cbN_yes hz] at CI CS
    rw [cbN_yes hz'] at CB
    obtain ⟨o1, o2, rfl, rfl, rfl, rfl⟩ := twC_zero hz
    rw [(ct_sym t m2 k s2 c2 h2 t2 k2).1, (ct_sym t m2 k s2 c2 h2 t2 k2).2] at CB
    have cf := ct_facts o1 o2
    have kb := (okPf_bd o1).2.2.1
    have X0 := Lib.hid (fun W => ContactBoundsI_any t m2 (k + 1) s2 c2 h2 t2 m2 k2 s2 c2 h2 W)
    have HX := Lib.hid (fun hq : twC t m2 (k + 1) s2 c2 h2 t2 m2 k2 s2 c2 h2 = 0 => ct_mono (t2 := t2) (k2 := k2) o1 (twC_zero hq).1)
    clear hz hz' o1 o2
    generalize ctD t m2 k s2 c2 h2 t2 k2 = lo at *
    generalize ctU t m2 k s2 c2 h2 t2 k2 = hi at *
    have n1 : (lo != lo) = false := by simp
    have n2 : (hi != hi) = false := by simp
    go_wp2_with fail
    refine (CI.out _).mono ?_
    rintro e v1 ⟨rfl, hb⟩
    have H1 := Lib.hid (H0.out.keep hb)
    clear hb H0
    obtain ⟨g0, g1, g2, g3, g4, g5, g6, g7, g8, g9, g10, g11, g12, g13, g14⟩ := H1.out
    go_wp2_with fail
    refine (CS.out _).mono ?_
    rintro e v2 ⟨rfl, hb⟩
    have H2 := Lib.hid (H1.out.keep hb)
    clear hb H1
    clear g0 g1 g2 g3 g4 g5 g6 g7 g8 g9 g10 g11 g12 g13 g14
    obtain ⟨g0, g1, g2, g3, g4, g5, g6, g7, g8, g9, g10, g11, g12, g13, g14⟩ := H2.out
    go_wp2_with fail
    refine (CB.out _).mono ?_
    rintro e v3 ⟨rfl, hb⟩
    have H3 := Lib.hid (H2.out.keep hb)
    clear hb H2
    clear g0 g1 g2 g3 g4 g5 g6 g7 g8 g9 g10 g11 g12 g13 g14
    obtain ⟨g0, g1, g2, g3, g4, g5, g6, g7, g8, g9, g10, g11, g12, g13, g14⟩ := H3.out
    have L3 := Lib.hid (bT L0.out H3.out.bel)
    have hn1 : w1.heap.size ≠ v3.heap.size := by omega
    have hn2 : ¬ v3.heap.size = w1.heap.size := by omega
    have hn3 : ¬ w1.heap.size + 1 = v3.heap.size := by omega
    have hn4 : ¬ v3.heap.size = w1.heap.size + 1 := by omega
    clear H3
    go_wp2_with fail
    refine (X0.out _).mono ?_
    rintro e v4 ⟨rfl, hb⟩
    have L4 := Lib.hid (bT (bA L3.out (.cells #[.int .i64 t, .int .i64 m2, .int .i64 (k + 1), .int .i64 s2, .int .i64 c2, .int .i64 h2] 30)) hb)
    clear hb g0 g1 g2 g3 g4 g5 g6 g7 g8 g9 g10 g11 g12 g13 g14
    by_cases hq : twC t m2 (k + 1) s2 c2 h2 t2 m2 k2 s2 c2 h2 = 0
    · rw [cbN_yes hq]
      have mo := HX.out hq
      generalize ctD t m2 (k + 1) s2 c2 h2 t2 k2 = lo2 at *
      generalize ctU t m2 (k + 1) s2 c2 h2 t2 k2 = hi2 at *
      obtain ⟨cf1, cf2⟩ := cf
      obtain ⟨mo1, mo2⟩ := mo
      go_wp2_with fail
      go_ret
      exact ⟨rfl, L4.out⟩
    · rw [cbN_no hq]
      generalize twC t m2 (k + 1) s2 c2 h2 t2 m2 k2 s2 c2 h2 = z at *
      have hz1 : (z != 0) = true := by simpa using hq
      obtain ⟨cf1, cf2⟩ := cf
      go_wp2_with fail
      go_ret
      exact ⟨rfl, L4.out⟩
  · have hz' : ¬ twC t2 m2 k2 s2 c2 h2 t m k s c h = 0 := by rw [twC_sym]; exact hz
    rw [cbN_no hz] at CI CS
    rw [cbN_no hz', twC_sym] at CB
    generalize twC t m k s c h t2 m2 k2 s2 c2 h2 = z at *
    have hz1 : (z != 0) = true := by simpa using hz
    have hz2 : (z != z) = false := by simp
    clear hz hz'
    go_wp2_with fail
    refine (CI.out _).mono ?_
    rintro e v1 ⟨rfl, hb⟩
    have H1 := Lib.hid (H0.out.keep hb)
    clear hb H0
    obtain ⟨g0, g1, g2, g3, g4, g5, g6, g7, g8, g9, g10, g11, g12, g13, g14⟩ := H1.out
    go_wp2_with fail
    refine (CS.out _).mono ?_
    rintro e v2 ⟨rfl, hb⟩
    have H2 := Lib.hid (H1.out.keep hb)
    clear hb H1
    clear g0 g1 g2 g3 g4 g5 g6 g7 g8 g9 g10 g11 g12 g13 g14
    obtain ⟨g0, g1, g2, g3, g4, g5, g6, g7, g8, g9, g10, g11, g12, g13, g14⟩ := H2.out
    go_wp2_with fail
    refine (CB.out _).mono ?_
    rintro e v3 ⟨rfl, hb⟩
    have H3 := Lib.hid (H2.out.keep hb)
    clear hb H2
    go_wp2_with fail
    go_ret
    exact ⟨rfl, bT L0.out H3.out.bel⟩
end Go.Proofs.Ytpbmpmcifpgchaa

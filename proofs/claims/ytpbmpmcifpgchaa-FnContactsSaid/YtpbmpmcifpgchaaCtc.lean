/-
  Contact ratios: the plain words; the roots of both sides; impl.direction.root, reach; spec.l10Square, l10Root, l10Above.
-/
import Derived.Test.YtpbmpmcifpgchaaIt
import Derived.Test.YtpbmpmcifpgchaaRtC
import Derived.Test.YtpbmpmcifpgchaaPi
namespace Go.Proofs.Ytpbmpmcifpgchaa
open Go.RowKit

/-- The square of the way from the base circle to the outside circle. -/
def sqd (t m k c h : Int) : Int := out_ t m k * h * (out_ t m k * h) - pit t m * c * (pit t m * c)
/-- The root, rounded up. -/
def ru (n : Int) : Int := if rt n * rt n < n then rt n + 1 else rt n
/-- The root in a direction. -/
def rdN (d n : Int) : Int := if d = 1 then ru n else rt n
theorem cos_le {s c h : Int} (e : okAn s c h = true) : c ≤ h ∧ s ≤ h := by
  obtain ⟨s1, s2, c1, c2, h1, h2, e1⟩ := okAn_bd e
  constructor
  · apply Classical.byContradiction; intro hn
    have a := sq_mono (a := h + 1) (b := c) (by omega) (by omega)
    have b := sq_mono (a := 0) (b := s) (by omega) (by omega)
    have : (h + 1) * (h + 1) = h * h + 2 * h + 1 := by grind
    omega
  · apply Classical.byContradiction; intro hn
    have a := sq_mono (a := h + 1) (b := s) (by omega) (by omega)
    have b := sq_mono (a := 0) (b := c) (by omega) (by omega)
    have : (h + 1) * (h + 1) = h * h + 2 * h + 1 := by grind
    omega
theorem po_le {t m k c h : Int} (ht : 6 ≤ t ∧ t ≤ 240) (hm : 1 ≤ m ∧ m ≤ 500) (hk : 1 ≤ k ∧ k ≤ 20) (h0 : 1 ≤ c) (hc : c ≤ h) : pit t m * c ≤ out_ t m k * h := by
  have a := pit_bd ht hm
  have b := out_bd ht hm hk
  exact Int.mul_le_mul (by omega) hc (by omega) (by omega)
theorem sqd_bd {t m k s c h : Int} (e : okPf t m k s c h = true) : 0 ≤ sqd t m k c h ∧ sqd t m k c h ≤ out_ t m k * h * (out_ t m k * h) ∧ out_ t m k * h * (out_ t m k * h) ≤ 1488400000000000000 ∧ 0 ≤ pit t m * c * (pit t m * c) ∧ pit t m * c * (pit t m * c) ≤ out_ t m k * h * (out_ t m k * h) := by
  have L := lim_of e
  have hc := cos_le (okPf_bd e).2.2.2
  have a := po_le (h := h) L.1 L.2.1 L.2.2.1 L.2.2.2.2.1.1 hc.1
  have b := pc_bd L.1 L.2.1 L.2.2.2.2.1
  have d := oh_bd L.1 L.2.1 L.2.2.1 L.2.2.2.2.2
  have q1 := sqq b.1 b.2
  have q2 := sqq d.1 d.2
  have q3 := sq_mono b.1 a
  unfold sqd
  omega
theorem rt_bdS {t m k s c h : Int} (e : okPf t m k s c h = true) : 0 ≤ rt (sqd t m k c h) ∧ rt (sqd t m k c h) ≤ 1220000000 ∧ 0 ≤ ru (sqd t m k c h) ∧ ru (sqd t m k c h) ≤ 1220000001 := by
  have b := sqd_bd e
  have L := lim_of e
  have d := oh_bd L.1 L.2.1 L.2.2.1 L.2.2.2.2.2
  have r := rt_is b.1
  have r2 := rt_le b.1 d.1 b.2.1
  unfold ru
  split <;> omega
theorem rd_bdS {t m k s c h d : Int} (e : okPf t m k s c h = true) : 0 ≤ rdN d (sqd t m k c h) ∧ rdN d (sqd t m k c h) ≤ 1220000001 := by
  have := rt_bdS e
  unfold rdN
  split <;> omega
set_option maxHeartbeats 1000000 in
theorem l10Root_any (n : Int) (w : World) (h0 : 0 ≤ n) (h1 : n ≤ 3000000000000000000) :
    Calls Try.prog 43 #[.int .i64 n] w fun e w' => e = .returned (.int .i64 (rt n)) ∧ w = w' := by
  go_enter Try.func43, Try.ntmps43
  go_wp2_with fail
  go_loop [3, 4] (fun x y => ∃ l h : Int, x = .int .i64 l ∧ y = .int .i64 h ∧ 0 ≤ l ∧ l ≤ h ∧ h ≤ 2000000000 ∧ l * l ≤ n ∧ n < (h + 1) * (h + 1)) (fun x y => (intOf y - intOf x).toNat)
  case atStart => exact ⟨0, 2000000000, rfl, rfl, by omega, by omega, by omega, by omega, by omega⟩
  case round =>
    obtain ⟨l, h, rfl, rfl, l0, lh, h9, hl, hh⟩ := hrel
    have HL := Lib.hid hl
    have HH := Lib.hid hh
    clear hl hh
    by_cases hlt : l < h
    · have m0 : 0 ≤ l + h + 1 := by omega
      have e1 : (l + h + 1).tdiv 2 = (l + h + 1) / 2 := Int.tdiv_eq_ediv_of_nonneg m0
      have m1 : l < (l + h + 1) / 2 := by omega
      have m2 : (l + h + 1) / 2 ≤ h := by omega
      generalize hm : (l + h + 1) / 2 = m at *
      have sq := sq_bd (x := m) (m := 2000000000) (by omega) (by omega)
      have HM := Lib.hid hm
      clear hm
      by_cases hc : m * m ≤ n
      · go_wp2_with fail
        go_round
        case rel => exact ⟨m, h, by go_num, rfl, by omega, by omega, by omega, hc, HH.out⟩
        case measure => simp [intOf]; omega
      · have HN := Lib.hid (show n < (m - 1 + 1) * (m - 1 + 1) by rw [show m - 1 + 1 = m by omega]; omega)
        go_wp2_with fail
        go_round
        case rel => exact ⟨l, m - 1, rfl, by go_num, by omega, by omega, by omega, HL.out, HN.out⟩
        case measure => simp [intOf]; omega
    · obtain rfl : l = h := by omega
      have HR := Lib.hid (rt_only l0 HL.out HH.out)
      go_wp2_with fail
      go_ret
      exact ⟨ret_int HR.out.symm, rfl⟩
theorem l10Above_any (n : Int) (w : World) (h0 : 0 ≤ n) (h1 : n ≤ 3000000000000000000) :
    Calls Try.prog 45 #[.int .i64 n] w fun e w' => e = .returned (.int .i64 (ru n)) ∧ w = w' := by
  have r := rt_is h0
  have r2 := rt_le (m := 2000000000) h0 (by omega) (by omega)
  have r3 := sqq r.1 r2
  have HR := Lib.hid (show ru n = if rt n * rt n < n then rt n + 1 else rt n from rfl)
  by_cases hc : rt n * rt n < n
  · have HV := Lib.hid (HR.out.trans (if_pos hc))
    go_enter Try.func45, Try.ntmps45
    go_wp2_with fail
    refine (l10Root_any _ _ h0 h1).mono ?_
    rintro e w1 ⟨rfl, rfl⟩
    clear HR
    generalize rt n = q at *
    go_wp2_with fail
    go_ret
    exact ⟨ret_int HV.out.symm, rfl⟩
  · have HV := Lib.hid (HR.out.trans (if_neg hc))
    go_enter Try.func45, Try.ntmps45
    go_wp2_with fail
    refine (l10Root_any _ _ h0 h1).mono ?_
    rintro e w1 ⟨rfl, rfl⟩
    clear HR
    generalize rt n = q at *
    go_wp2_with fail
    go_ret
    exact ⟨ret_int HV.out.symm, rfl⟩
set_option maxRecDepth 100000 in
set_option maxHeartbeats 2000000 in
theorem l10Square_any (t m k s c h : Int) (w : World) (e : okPf t m k s c h = true) :
    Calls Try.prog 44 #[.agg #[.int .i64 t, .int .i64 m, .int .i64 k, .int .i64 s, .int .i64 c, .int .i64 h]] w (IntB (sqd t m k c h) w) := by
  have L := lim_of e
  have b := pc_bd L.1 L.2.1 L.2.2.2.2.1
  have d := oh_bd L.1 L.2.1 L.2.2.1 L.2.2.2.2.2
  have q0 := wrI (out_ t m k * h) (by omega)
  have q1 := wrI (pit t m * c) (by omega)
  have HB := Lib.hid (And.intro b d)
  have HL := Lib.hid L
  clear e b d L
  have H0 := PfH.new w t m k s c h 30
  unfold sqd
  go_enter Try.func44, Try.ntmps44
  go_upto_region 1 with fail
  generalize w.alloc (.cells #[.int .i64 t, .int .i64 m, .int .i64 k, .int .i64 s, .int .i64 c, .int .i64 h] 30) = W0 at *
  go_region_held3 (fun w' => w'.cell? ⟨w.heap.size, 0, none⟩ = some (.int .i64 t) ∧ w'.cell? ⟨w.heap.size, 1, none⟩ = some (.int .i64 m) ∧ w'.cell? ⟨w.heap.size, 2, none⟩ = some (.int .i64 k) ∧ w'.cell? ⟨w.heap.size, 3, none⟩ = some (.int .i64 s) ∧ w'.cell? ⟨w.heap.size, 4, none⟩ = some (.int .i64 c) ∧ w'.cell? ⟨w.heap.size, 5, none⟩ = some (.int .i64 h) ∧ w.heap.size < w'.heap.size ∧ Below w.heap.size w w') (first | exact H0.drew | assumption | exact PfH.keep hb (by assumption))
    (first | (go_at_call 66; refine (l10Outside_any _ _ _ _ _ _ _ HL.out.1 HL.out.2.1 HL.out.2.2.1).mono ?_; rintro e w' ⟨rfl, hb⟩))
  have H1 : PfH w w.heap.size t m k s c h w' := by assumption
  clear hb H0
  go_upto_region 2 with fail
  generalize w' = W1 at *
  go_region_held3 (fun w' => w'.cell? ⟨w.heap.size, 0, none⟩ = some (.int .i64 t) ∧ w'.cell? ⟨w.heap.size, 1, none⟩ = some (.int .i64 m) ∧ w'.cell? ⟨w.heap.size, 2, none⟩ = some (.int .i64 k) ∧ w'.cell? ⟨w.heap.size, 3, none⟩ = some (.int .i64 s) ∧ w'.cell? ⟨w.heap.size, 4, none⟩ = some (.int .i64 c) ∧ w'.cell? ⟨w.heap.size, 5, none⟩ = some (.int .i64 h) ∧ w.heap.size < w'.heap.size ∧ Below w.heap.size w w') (first | exact H1.drew | assumption | exact PfH.keep hb (by assumption))
    (first | (go_at_call 42; refine (l10Pitch_any _ _ _ _ _ _ _ HL.out.1 HL.out.2.1).mono ?_; rintro e w' ⟨rfl, hb⟩))
  have H2 : PfH w w.heap.size t m k s c h w' := by assumption
  have L := Lib.hid H2.bel
  clear hb H1 H2 q0 q1
  obtain ⟨⟨b0, b1⟩, ⟨b3, b4⟩⟩ := HB.out
  generalize out_ t m k * h = O at *
  generalize pit t m * c = P at *
  have s1 := sqq b0 b1
  have s2 := sqq b3 b4
  go_wp2_with fail
  go_ret
  exact ⟨rfl, L.out⟩
theorem rootD_any (n : Int) (w : World) (h0 : 0 ≤ n) (h1 : n ≤ 3000000000000000000) :
    Calls Try.prog 91 #[.int .i64 0, .agg #[.int .u64 0, .int .u64 n]] w (IntB (rt n) w) := by
  have hcv : IntKind.i64.wrap n = n := wrI n (by omega)
  go_enter Try.func91, Try.ntmps91
  go_wp2_with fail
  refine (rootOf_any _ _ h0 (by omega)).mono ?_
  rintro e w1 ⟨rfl, rfl⟩
  go_wp2_with fail
  go_quiet (fail)
  go_wp2_with fail
  go_ret
  exact ⟨rfl, bD (bA (bR _) _) _⟩
end Go.Proofs.Ytpbmpmcifpgchaa

/-
  Balance points and mean temperatures: both sides.
-/
import Derived.Test.YtpmelgdhcjnagaaDoorRaS
import Derived.Test.YtpmelgdhcjnagaaDoorRaP
import Derived.Test.YtpmelgdhcjnagaaDoorRaG
import Derived.Test.YtpmelgdhcjnagaaDoorMakeR
namespace Go.Proofs.YtpmelgdhcjnagaaDoor
open Go.RowKit

def RcB (r : Int × Int × Int) (w : World) : Ending → World → Prop := fun en w' => en = .returned (.tuple #[.agg #[.int .i64 r.1, .int .i64 r.2.1], .int .i64 r.2.2]) ∧ Below w.heap.size w w'
/-- Terms of the balance point, and code. -/
def bpE (b l c m : Int) : Int × Int × Int := if okRt b l c m = true then (rA (2 * c * m - l) (2 * c), rB (2 * c * m - l) (2 * c), rC (2 * c * m - l) (2 * c)) else (0, 0, 1)
theorem bpE_1 {b l c m : Int} (h : okRt b l c m = false) : bpE b l c m = (0, 0, 1) := by simp [bpE, h]
theorem bpE_0 {b l c m : Int} (h : okRt b l c m = true) : bpE b l c m = (rA (2 * c * m - l) (2 * c), rB (2 * c * m - l) (2 * c), rC (2 * c * m - l) (2 * c)) := by simp [bpE, h]
theorem bpE_6 {b l c m : Int} (h : okRt b l c m = true) (hz : c = 0) : bpE b l c m = (0, 0, 6) := by
  subst hz
  obtain ⟨h1, h2, h3⟩ := r_zero (2 * 0 * m - l)
  rw [bpE_0 h, Int.mul_zero]
  simp only [Int.zero_mul, Int.mul_zero] at h1 h2 h3 ⊢
  rw [h1, h2, h3]
theorem bp_bd {b l c m : Int} (h : Rte b l c m) : -2000000 ≤ 2 * c * m - l ∧ 2 * c * m - l ≤ 2000000 ∧ -2000000 ≤ 2 * c * m ∧ 2 * c * m ≤ 2000000 := by
  have h1 := h.hc
  have h2 := h.hm
  have h3 := h.hl
  have := mulB (a := 2 * c) (b := m) (A := 2000) (B := 600) (by omega) (by omega) (by omega) (by omega)
  omega
/-- A rate's box and the result's. -/
def RtZ (w : World) (b1 : Nat) (b l c m : Int) (w' : World) : Prop := BoxL w' w.heap.size [.int .i64 b, .int .i64 l, .int .i64 c, .int .i64 m] ∧ BoxL w' b1 [.int .i64 0, .int .i64 0] ∧ Below w.heap.size w w'
theorem RtZ.keep {w : World} {b1 : Nat} {b l c m : Int} {x y : World} (h : RtZ w b1 b l c m x) (hb : Below x.heap.size x y) : RtZ w b1 b l c m y := ⟨h.1.keep hb, h.2.1.keep hb, bT h.2.2 hb⟩
theorem RtZ.new (w : World) (b l c m : Int) (T T2 : TypeId) : RtZ w (w.heap.size + 1) b l c m ((w.alloc (.cells #[.int .i64 b, .int .i64 l, .int .i64 c, .int .i64 m] T)).alloc (.cells #[.int .i64 0, .int .i64 0] T2)) :=
  ⟨(BoxL.new w [.int .i64 b, .int .i64 l, .int .i64 c, .int .i64 m] T).alloc _, BoxL.at_ (vs := [.int .i64 0, .int .i64 0]) (by simp), bA (bA (bR _) _) _⟩
set_option maxRecDepth 100000 in
set_option maxHeartbeats 4000000 in
theorem BalancePointS_any (b l c m : Int) (w : World) :
    Calls Tryd.prog 13 #[.agg #[.int .i64 b, .int .i64 l, .int .i64 c, .int .i64 m]] w (RcB (bpE b l c m) w) := by
  unfold RcB
  have CO := Lib.hid (fun W => l12Ok_any b l c m W)
  have H0 := Lib.hid (RtZ.new w b l c m 36 25)
  have lw6 : w.heap.size ≤ w.heap.size + 1 := by omega
  cases h1 : okRt b l c m
  · rw [bpE_1 h1]
    rw [h1] at CO
    go_enter Tryd.func13, Tryd.ntmps13
    go_wp2_with fail
    generalize (w.alloc (.cells #[.int .i64 b, .int .i64 l, .int .i64 c, .int .i64 m] 36)).alloc (.cells #[.int .i64 0, .int .i64 0] 25) = W0 at *
    generalize w.heap.size + 1 = b1 at *
    refine (CO.out _).mono ?_
    rintro en w1 ⟨rfl, hb⟩
    have H1 := Lib.hid (H0.out.keep hb)
    clear hb H0
    obtain ⟨c0, c1, c2, c3, c4⟩ := H1.out.1.c4
    obtain ⟨z0, z1, z2⟩ := H1.out.2.1.c2
    obtain ⟨f0, f1⟩ := H1.out.2.1.f2
    have L := Lib.hid H1.out.2.2
    go_wp2_with fail
    refine bodyPost_ret (v := .tuple #[.agg #[.int .i64 0, .int .i64 0], .int .i64 1]) ?_ rfl ⟨rfl, (L.out.setCell lw6 _).setCell lw6 _⟩
    simp [results, Tryd.results13, go_sem, z0, z1]
  rw [h1] at CO
  have hR := rte_of h1
  have hl := hR.hl
  have hc := hR.hc
  have hm := hR.hm
  have hbd := bp_bd hR
  by_cases hz : c = 0
  · rw [bpE_6 h1 hz]
    have hzb : (c == 0) = true := beq_iff_eq.2 hz
    clear hbd hR hz
    go_enter Tryd.func13, Tryd.ntmps13
    go_wp2_with fail
    generalize (w.alloc (.cells #[.int .i64 b, .int .i64 l, .int .i64 c, .int .i64 m] 36)).alloc (.cells #[.int .i64 0, .int .i64 0] 25) = W0 at *
    generalize w.heap.size + 1 = b1 at *
    refine (CO.out _).mono ?_
    rintro en w1 ⟨rfl, hb⟩
    have H1 := Lib.hid (H0.out.keep hb)
    clear hb H0
    obtain ⟨c0, c1, c2, c3, c4⟩ := H1.out.1.c4
    obtain ⟨z0, z1, z2⟩ := H1.out.2.1.c2
    obtain ⟨f0, f1⟩ := H1.out.2.1.f2
    have L := Lib.hid H1.out.2.2
    go_wp2_with fail
    refine bodyPost_ret (v := .tuple #[.agg #[.int .i64 0, .int .i64 0], .int .i64 6]) ?_ rfl ⟨rfl, (L.out.setCell lw6 _).setCell lw6 _⟩
    simp [results, Tryd.results13, go_sem, z0, z1]
  rw [bpE_0 h1]
  have hzb : (c == 0) = false := beq_eq_false_iff_ne.2 hz
  have HM := Lib.hid (r_make (n := 2 * c * m - l) (d := 2 * c) (by omega))
  have hd0 : 2 * c ≠ 0 := by omega
  clear hR h1
  go_enter Tryd.func13, Tryd.ntmps13
  go_wp2_with fail
  generalize (w.alloc (.cells #[.int .i64 b, .int .i64 l, .int .i64 c, .int .i64 m] 36)).alloc (.cells #[.int .i64 0, .int .i64 0] 25) = W0 at *
  generalize w.heap.size + 1 = b1 at *
  refine (CO.out _).mono ?_
  rintro en w1 ⟨rfl, hb⟩
  have H1 := Lib.hid (H0.out.keep hb)
  clear hb H0
  obtain ⟨c0, c1, c2, c3, c4⟩ := H1.out.1.c4
  obtain ⟨z0, z1, z2⟩ := H1.out.2.1.c2
  obtain ⟨f0, f1⟩ := H1.out.2.1.f2
  have L := Lib.hid H1.out.2.2
  go_wp2_with fail
  refine (l02Make_any _ _ _ hd0 (by omega) (by omega) (by omega) (by omega)).mono ?_
  rintro en w2 ⟨rfl, hb⟩
  have H2 := Lib.hid (H1.out.keep hb)
  clear hb c0 c1 c2 c3 c4 z0 z1 z2 f0 f1 L H1
  go_wp2_with fail
  refine (l02Code_any _ _ _ _).mono ?_
  rintro en w3 ⟨rfl, hb⟩
  have H3 := Lib.hid (H2.out.keep hb)
  have L := Lib.hid H3.out.2.2
  obtain ⟨z0, z1, z2⟩ := H3.out.2.1.c2
  obtain ⟨f0, f1⟩ := H3.out.2.1.f2
  clear hb H2 H3
  generalize (if lowOk (2 * c * m - l) (2 * c) = true then mkA (2 * c * m - l) (2 * c) else 0) = a at *
  generalize (if lowOk (2 * c * m - l) (2 * c) = true then mkB (2 * c * m - l) (2 * c) else 0) = d at *
  generalize (if lowOk (2 * c * m - l) (2 * c) = true then (0 : Int) else 2) = k at *
  go_wp2_with fail
  refine bodyPost_ret (v := .tuple #[.agg #[.int .i64 a, .int .i64 d], .int .i64 k]) (by simp [results, Tryd.results13, go_sem, z0, z1]) rfl ⟨ret_rc HM.out.1.symm HM.out.2.1.symm HM.out.2.2.symm, ?_⟩
  exact (L.out.setCell lw6 _).setCell lw6 _
set_option maxRecDepth 100000 in
set_option maxHeartbeats 4000000 in
theorem BalancePointI_any (b l c m : Int) (w : World) (a0 a1 : Addr) (hS : Sent w a0 a1) :
    Calls Tryd.prog 15 #[.agg #[.int .i64 b, .int .i64 l, .int .i64 c, .int .i64 m]] w (RcB (bpE b l c m) w) := by
  unfold RcB
  have CO := Lib.hid (fun W => ValidRateI_any b l c m W)
  have HS := Lib.hid hS
  clear hS
  have H0 := Lib.hid (RtZ.new w b l c m 36 25)
  have lw6 : w.heap.size ≤ w.heap.size + 1 := by omega
  cases h1 : okRt b l c m
  · rw [bpE_1 h1]
    rw [h1] at CO
    go_enter Tryd.func15, Tryd.ntmps15
    go_wp2_with fail
    generalize (w.alloc (.cells #[.int .i64 b, .int .i64 l, .int .i64 c, .int .i64 m] 36)).alloc (.cells #[.int .i64 0, .int .i64 0] 25) = W0 at *
    generalize w.heap.size + 1 = b1 at *
    refine (CO.out _).mono ?_
    rintro en w1 ⟨rfl, hb⟩
    have H1 := Lib.hid (H0.out.keep hb)
    clear hb H0
    obtain ⟨c0, c1, c2, c3, c4⟩ := H1.out.1.c4
    obtain ⟨z0, z1, z2⟩ := H1.out.2.1.c2
    obtain ⟨f0, f1⟩ := H1.out.2.1.f2
    have L := Lib.hid H1.out.2.2
    go_wp2_with fail
    refine bodyPost_ret (v := .tuple #[.agg #[.int .i64 0, .int .i64 0], .int .i64 1]) ?_ rfl ⟨rfl, (L.out.setCell lw6 _).setCell lw6 _⟩
    simp [results, Tryd.results15, go_sem, z0, z1]
  rw [h1] at CO
  have hR := rte_of h1
  have hl := hR.hl
  have hc := hR.hc
  have hm := hR.hm
  have hbd := bp_bd hR
  rw [bpE_0 h1]
  clear hR h1
  go_enter Tryd.func15, Tryd.ntmps15
  go_wp2_with fail
  generalize (w.alloc (.cells #[.int .i64 b, .int .i64 l, .int .i64 c, .int .i64 m] 36)).alloc (.cells #[.int .i64 0, .int .i64 0] 25) = W0 at *
  generalize w.heap.size + 1 = b1 at *
  refine (CO.out _).mono ?_
  rintro en w1 ⟨rfl, hb⟩
  have H1 := Lib.hid (H0.out.keep hb)
  clear hb H0
  obtain ⟨c0, c1, c2, c3, c4⟩ := H1.out.1.c4
  obtain ⟨z0, z1, z2⟩ := H1.out.2.1.c2
  obtain ⟨f0, f1⟩ := H1.out.2.1.f2
  have L := Lib.hid H1.out.2.2
  have S1 := Lib.hid (HS.out.keep L.out)
  go_wp2_with fail
  refine (MakeRatioI_any _ _ _ a0 a1 S1.out (by omega) (by omega) (by omega) (by omega)).mono ?_
  rintro en w2 ⟨rfl, hb⟩
  have H3 := Lib.hid (H1.out.keep hb)
  clear z0 z1 z2 f0 f1 L
  have L := Lib.hid H3.out.2.2
  obtain ⟨z0, z1, z2⟩ := H3.out.2.1.c2
  obtain ⟨f0, f1⟩ := H3.out.2.1.f2
  clear hb c0 c1 c2 c3 c4 H1 H3
  go_wp2_with fail
  refine bodyPost_ret (v := .tuple #[.agg #[.int .i64 (rA (2 * c * m - l) (2 * c)), .int .i64 (rB (2 * c * m - l) (2 * c))], .int .i64 (rC (2 * c * m - l) (2 * c))]) (by simp [results, Tryd.results15, go_sem, z0, z1]) rfl ⟨rfl, ?_⟩
  exact (L.out.setCell lw6 _).setCell lw6 _
/-- Terms of the mean temperature, and code. -/
def meE (ps : List (Int × Int)) : Int × Int × Int := if okSl ps = true then (rA (smF dgS ps) (smF hrS ps), rB (smF dgS ps) (smF hrS ps), rC (smF dgS ps) (smF hrS ps)) else (0, 0, 1)
theorem meE_1 {ps : List (Int × Int)} (h : okSl ps = false) : meE ps = (0, 0, 1) := by simp [meE, h]
theorem meE_0 {ps : List (Int × Int)} (h : okSl ps = true) : meE ps = (rA (smF dgS ps) (smF hrS ps), rB (smF dgS ps) (smF hrS ps), rC (smF dgS ps) (smF hrS ps)) := by simp [meE, h]
theorem meE_6 {ps : List (Int × Int)} (h : okSl ps = true) (h0 : ps.length = 0) : meE ps = (0, 0, 6) := by
  rw [meE_0 h, List.length_eq_zero_iff.1 h0]
  exact congr (congrArg Prod.mk (r_zero 0).1) (congr (congrArg Prod.mk (r_zero 0).2.1) (r_zero 0).2.2)
theorem sums_bd {ps : List (Int × Int)} (h : okSl ps = true) : (-8640000 ≤ smF dgS ps ∧ smF dgS ps ≤ 8640000) ∧ smF hrS ps ≤ 14400 ∧ (ps.length : Int) ≤ smF hrS ps := by
  have h1 := sumG_bd h ps.length
  have h2 := sumH_bd h ps.length
  rw [List.take_of_length_le (Nat.le_refl _)] at h1 h2
  exact ⟨h1, h2.2, hours_ge (okSl_iff.1 h).2⟩
set_option maxRecDepth 100000 in
set_option maxHeartbeats 4000000 in
theorem MeanTempS_any (ps : List (Int × Int)) (v : Value) (w : World) (ha : SlP w v ps) (hmax : ps.length ≤ 1000000000000) :
    Calls Tryd.prog 8 #[v] w (RcB (meE ps) w) := by
  unfold RcB
  have CL := Lib.hid (fun W (h : SlP W v ps) => l12List_any ps v W h hmax)
  have X0 := Lib.hid (BoxL.new w [.int .i64 0, .int .i64 0] 25)
  have L0 := Lib.hid (bA (bR w) (.cells #[.int .i64 0, .int .i64 0] 25))
  have A0 := Lib.hid (ha.keep L0.out)
  obtain ⟨ao, cap, rfl, _⟩ := ha
  cases h1 : okSl ps
  · rw [meE_1 h1]
    rw [h1] at CL
    go_enter Tryd.func8, Tryd.ntmps8
    go_wp2_with fail
    generalize w.alloc (.cells #[.int .i64 0, .int .i64 0] 25) = W0 at *
    refine (CL.out _ A0.out).mono ?_
    rintro en w1 ⟨rfl, hb⟩
    have X1 := Lib.hid (X0.out.keep hb)
    have A1 := Lib.hid (A0.out.keep hb)
    have L := Lib.hid (bT L0.out hb)
    clear hb X0 A0 L0
    obtain ⟨z0, z1, z2⟩ := X1.out.c2
    obtain ⟨f0, f1⟩ := X1.out.f2
    go_wp2_with fail
    refine bodyPost_ret (v := .tuple #[.agg #[.int .i64 0, .int .i64 0], .int .i64 1]) ?_ rfl ⟨rfl, (L.out.setCell (p := ⟨w.heap.size, 0, none⟩) (Nat.le_refl _) _).setCell (p := ⟨w.heap.size, 1, none⟩) (Nat.le_refl _) _⟩
    simp [results, Tryd.results8, go_sem, z0, z1]
  rw [h1] at CL
  obtain ⟨hg, hh, hhl⟩ := sums_bd h1
  by_cases h0 : ps.length = 0
  · rw [meE_6 h1 h0]
    have hz : ((ps.length : Int) == 0) = true := beq_iff_eq.2 (by omega)
    clear h0 hg hh hhl
    go_enter Tryd.func8, Tryd.ntmps8
    go_wp2_with fail
    generalize w.alloc (.cells #[.int .i64 0, .int .i64 0] 25) = W0 at *
    refine (CL.out _ A0.out).mono ?_
    rintro en w1 ⟨rfl, hb⟩
    have X1 := Lib.hid (X0.out.keep hb)
    have A1 := Lib.hid (A0.out.keep hb)
    have L := Lib.hid (bT L0.out hb)
    clear hb X0 A0 L0
    obtain ⟨z0, z1, z2⟩ := X1.out.c2
    obtain ⟨f0, f1⟩ := X1.out.f2
    go_wp2_with fail
    refine bodyPost_ret (v := .tuple #[.agg #[.int .i64 0, .int .i64 0], .int .i64 6]) ?_ rfl ⟨rfl, (L.out.setCell (p := ⟨w.heap.size, 0, none⟩) (Nat.le_refl _) _).setCell (p := ⟨w.heap.size, 1, none⟩) (Nat.le_refl _) _⟩
    simp [results, Tryd.results8, go_sem, z0, z1]
  have hz : ((ps.length : Int) == 0) = false := beq_eq_false_iff_ne.2 (by omega)
  rw [meE_0 h1]
  have HM := Lib.hid (r_make (n := smF dgS ps) (d := smF hrS ps) (by omega))
  have hd0 : smF hrS ps ≠ 0 := by omega
  have HG := Lib.hid (sumG_bd h1)
  have HP := Lib.hid (fun k (hk : k < ps.length) => dgS_bd ((okSl_iff.1 h1).2 _ (pat_mem hk)))
  have CH := Lib.hid (fun v W (h : SlP W v ps) => l12Hours_any ps v W h h1)
  have hln := (okSl_iff.1 h1).1
  clear h0 h1
  go_enter Tryd.func8, Tryd.ntmps8
  go_wp2_with fail
  generalize w.alloc (.cells #[.int .i64 0, .int .i64 0] 25) = W0 at *
  refine (CL.out _ A0.out).mono ?_
  rintro en w1 ⟨rfl, hb⟩
  have X1 := Lib.hid (X0.out.keep hb)
  have A1 := Lib.hid (A0.out.keep hb)
  have L := Lib.hid (bT L0.out hb)
  clear hb X0 A0 L0
  obtain ⟨z0, z1, z2⟩ := X1.out.c2
  obtain ⟨f0, f1⟩ := X1.out.f2
  go_wp2_with fail
  clear z0 z1 z2 f0 f1
  go_loopw [4, 5] (fun vs vi wr => ∃ k : Nat, k ≤ ps.length ∧ vi = .int .i64 k ∧ vs = .int .i64 (smF dgS (ps.take k)) ∧ Below w1.heap.size w1 wr) (fun _ vi _ => ps.length - (intOf vi).toNat)
  case atStart => exact ⟨0, Nat.zero_le _, rfl, by simp [smF], bR _⟩
  case round =>
    obtain ⟨k, hk, rfl, rfl, hbel⟩ := hrel
    have BB := Lib.hid hbel
    by_cases hlt : k < ps.length
    · obtain ⟨ao2, cap2, e2, ha2⟩ := A1.out.keep hbel
      cases e2
      obtain ⟨g, rfl, hg2, hc2⟩ := ha2 (by omega)
      obtain ⟨c1, c2⟩ := hc2 k hlt
      have hs0 := HG.out k
      have hp := HP.out k hlt
      have HT := Lib.hid (smF_take dgS hlt)
      have hd : dgS (pat ps k) = (pat ps k).1 * (pat ps k).2 := rfl
      rw [hd] at HT hp
      clear hd hc2 ha2 hbel HG HP CH A1 HM hd0 hg hh hhl
      generalize (pat ps k).1 = x at *
      generalize (pat ps k).2 = y at *
      generalize smF dgS (ps.take k) = s at *
      have g1 : IntKind.i64.wrap (x * y) = x * y := IntWalk.i64_in _ (by omega)
      have g2 : IntKind.i64.wrap (s + x * y) = s + x * y := IntWalk.i64_in _ (by omega)
      go_wp2_with fail
      go_quiet (fail)
      go_wp2_with fail
      go_roundw
      case rel => exact ⟨k + 1, by omega, by go_num, by rw [HT.out], bD BB.out _⟩
      case measure => simp [intOf]; omega
    · obtain rfl : k = ps.length := by omega
      rw [List.take_of_length_le (Nat.le_refl _)]
      have X2 := Lib.hid (X1.out.keep hbel)
      have A2 := Lib.hid (A1.out.keep hbel)
      have L2 := Lib.hid (bT L.out hbel)
      clear hbel BB L X1 A1 HG HP
      go_wp2_with fail
      refine (CH.out _ _ A2.out).mono ?_
      rintro en w3 ⟨rfl, rfl⟩
      go_wp2_with fail
      refine (l02Make_any _ _ _ hd0 (by omega) (by omega) (by omega) (by omega)).mono ?_
      rintro en w4 ⟨rfl, hb⟩
      have X4 := Lib.hid (X2.out.keep hb)
      have L4 := Lib.hid (bT L2.out hb)
      clear hb X2 L2
      go_wp2_with fail
      refine (l02Code_any _ _ _ _).mono ?_
      rintro en w5 ⟨rfl, hb⟩
      have X5 := Lib.hid (X4.out.keep hb)
      have L5 := Lib.hid (bT L4.out hb)
      obtain ⟨z0, z1, z2⟩ := X5.out.c2
      obtain ⟨f0, f1⟩ := X5.out.f2
      clear hb X4 L4
      generalize (if lowOk (smF dgS ps) (smF hrS ps) = true then mkA (smF dgS ps) (smF hrS ps) else 0) = a at *
      generalize (if lowOk (smF dgS ps) (smF hrS ps) = true then mkB (smF dgS ps) (smF hrS ps) else 0) = e at *
      generalize (if lowOk (smF dgS ps) (smF hrS ps) = true then (0 : Int) else 2) = kk at *
      go_wp2_with fail
      refine bodyPost_ret (v := .tuple #[.agg #[.int .i64 a, .int .i64 e], .int .i64 kk]) (by simp [results, Tryd.results8, go_sem, z0, z1]) rfl ⟨ret_rc HM.out.1.symm HM.out.2.1.symm HM.out.2.2.symm, ?_⟩
      exact (L5.out.setCell (p := ⟨w.heap.size, 0, none⟩) (Nat.le_refl _) _).setCell (p := ⟨w.heap.size, 1, none⟩) (Nat.le_refl _) _
set_option maxRecDepth 100000 in
set_option maxHeartbeats 4000000 in
theorem MeanTempI_any (ps : List (Int × Int)) (v : Value) (w : World) (ha : SlP w v ps) (hmax : ps.length ≤ 1000000000000) (a0 a1 : Addr) (hS : Sent w a0 a1) :
    Calls Tryd.prog 10 #[v] w (RcB (meE ps) w) := by
  unfold RcB
  have CL := Lib.hid (fun W (h : SlP W v ps) => ValidSegmentsI_any ps v W h hmax)
  have HS := Lib.hid hS
  clear hS
  have X0 := Lib.hid (BoxL.new w [.int .i64 0, .int .i64 0] 25)
  have L0 := Lib.hid (bA (bR w) (.cells #[.int .i64 0, .int .i64 0] 25))
  have A0 := Lib.hid (ha.keep L0.out)
  obtain ⟨ao, cap, rfl, _⟩ := ha
  cases h1 : okSl ps
  · rw [meE_1 h1]
    rw [h1] at CL
    go_enter Tryd.func10, Tryd.ntmps10
    go_wp2_with fail
    generalize w.alloc (.cells #[.int .i64 0, .int .i64 0] 25) = W0 at *
    refine (CL.out _ A0.out).mono ?_
    rintro en w1 ⟨rfl, hb⟩
    have X1 := Lib.hid (X0.out.keep hb)
    have A1 := Lib.hid (A0.out.keep hb)
    have L := Lib.hid (bT L0.out hb)
    clear hb X0 A0 L0
    obtain ⟨z0, z1, z2⟩ := X1.out.c2
    obtain ⟨f0, f1⟩ := X1.out.f2
    go_wp2_with fail
    refine bodyPost_ret (v := .tuple #[.agg #[.int .i64 0, .int .i64 0], .int .i64 1]) ?_ rfl ⟨rfl, (L.out.setCell (p := ⟨w.heap.size, 0, none⟩) (Nat.le_refl _) _).setCell (p := ⟨w.heap.size, 1, none⟩) (Nat.le_refl _) _⟩
    simp [results, Tryd.results10, go_sem, z0, z1]
  rw [h1] at CL
  obtain ⟨hg, hh, hhl⟩ := sums_bd h1
  rw [meE_0 h1]
  have CG := Lib.hid (fun v W (h : SlP W v ps) => sumG_any ps v W h h1)
  have CH := Lib.hid (fun v W (h : SlP W v ps) => sumH_any ps v W h h1)
  clear h1
  generalize smF dgS ps = n at *
  generalize smF hrS ps = d at *
  go_enter Tryd.func10, Tryd.ntmps10
  go_wp2_with fail
  generalize w.alloc (.cells #[.int .i64 0, .int .i64 0] 25) = W0 at *
  refine (CL.out _ A0.out).mono ?_
  rintro en w1 ⟨rfl, hb⟩
  have X1 := Lib.hid (X0.out.keep hb)
  have A1 := Lib.hid (A0.out.keep hb)
  have L := Lib.hid (bT L0.out hb)
  clear hb X0 A0 L0
  obtain ⟨z0, z1, z2⟩ := X1.out.c2
  obtain ⟨f0, f1⟩ := X1.out.f2
  go_wp2_with fail
  refine (CG.out _ _ A1.out).mono ?_
  rintro en w2 ⟨rfl, hb⟩
  have X2 := Lib.hid (X1.out.keep hb)
  have A2 := Lib.hid (A1.out.keep hb)
  have L2 := Lib.hid (bT L.out hb)
  clear hb X1 A1 L z0 z1 z2 f0 f1
  go_wp2_with fail
  refine (CH.out _ _ A2.out).mono ?_
  rintro en w3 ⟨rfl, hb⟩
  have X3 := Lib.hid (X2.out.keep hb)
  have L3 := Lib.hid (bT L2.out hb)
  clear hb X2 A2 L2
  have S1 := Lib.hid (HS.out.keep L3.out)
  go_wp2_with fail
  refine (MakeRatioI_any _ _ _ a0 a1 S1.out (by omega) (by omega) (by omega) (by omega)).mono ?_
  rintro en w4 ⟨rfl, hb⟩
  have X4 := Lib.hid (X3.out.keep hb)
  have L4 := Lib.hid (bT L3.out hb)
  obtain ⟨z0, z1, z2⟩ := X4.out.c2
  obtain ⟨f0, f1⟩ := X4.out.f2
  clear hb X3 L3
  go_wp2_with fail
  refine bodyPost_ret (v := .tuple #[.agg #[.int .i64 (rA n d), .int .i64 (rB n d)], .int .i64 (rC n d)]) (by simp [results, Tryd.results10, go_sem, z0, z1]) rfl ⟨rfl, ?_⟩
  exact (L4.out.setCell (p := ⟨w.heap.size, 0, none⟩) (Nat.le_refl _) _).setCell (p := ⟨w.heap.size, 1, none⟩) (Nat.le_refl _) _
end Go.Proofs.YtpmelgdhcjnagaaDoor

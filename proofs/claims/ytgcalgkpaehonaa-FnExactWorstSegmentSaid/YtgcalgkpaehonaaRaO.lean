/-
  Rates at a temperature; the other temperature: both sides.
-/
import Derived.Test.YtgcalgkpaehonaaRaS
namespace Go.Proofs.Ytgcalgkpaehonaa
open Go.RowKit

theorem ret_two {a b c d : Int} (h : a = b) (h' : c = d) : Ending.returned (.tuple #[.int .i64 a, .int .i64 c]) = .returned (.tuple #[.int .i64 b, .int .i64 d]) := by rw [h, h']
/-- The temperature on the other side, and the code. -/
def otO (l c m t : Int) : Int := 2 * m - l.tdiv c - t
def otE (b l c m t : Int) : Int × Int := if okRt b l c m = true then (if inB t (-400) 600 = true then (if c = 0 then (0, 6) else (if l.tmod c = 0 then (if inB (otO l c m t) (-400) 600 = true then (otO l c m t, 0) else (0, 3)) else (0, 3))) else (0, 2)) else (0, 1)
theorem otE_1 {b l c m t : Int} (h : okRt b l c m = false) : otE b l c m t = (0, 1) := by simp [otE, h]
theorem otE_2 {b l c m t : Int} (h : okRt b l c m = true) (h2 : inB t (-400) 600 = false) : otE b l c m t = (0, 2) := by simp [otE, h, h2]
theorem otE_6 {b l m t : Int} (h : okRt b l 0 m = true) (h2 : inB t (-400) 600 = true) : otE b l 0 m t = (0, 6) := by simp [otE, h, h2]
theorem otE_3 {b l c m t : Int} (h : okRt b l c m = true) (h2 : inB t (-400) 600 = true) (h3 : c ≠ 0) (h4 : ¬ l.tmod c = 0) : otE b l c m t = (0, 3) := by simp [otE, h, h2, h3, h4]
theorem otE_4 {b l c m t : Int} (h : okRt b l c m = true) (h2 : inB t (-400) 600 = true) (h3 : c ≠ 0) (h4 : l.tmod c = 0) (h5 : inB (otO l c m t) (-400) 600 = false) : otE b l c m t = (0, 3) := by simp [otE, h, h2, h3, h4, h5]
theorem otE_0 {b l c m t : Int} (h : okRt b l c m = true) (h2 : inB t (-400) 600 = true) (h3 : c ≠ 0) (h4 : l.tmod c = 0) (h5 : inB (otO l c m t) (-400) 600 = true) : otE b l c m t = (otO l c m t, 0) := by simp [otE, h, h2, h3, h4, h5]
theorem tdiv_bd {l c : Int} (h : -10000 ≤ l ∧ l ≤ 10000) (_hc : c ≠ 0) : -10000 ≤ l.tdiv c ∧ l.tdiv c ≤ 10000 := by
  have h1 := Int.natAbs_tdiv_le_natAbs l c
  omega
set_option maxRecDepth 100000 in
set_option maxHeartbeats 2000000 in
theorem RateAtS_any (b l c m t : Int) (w : World) :
    Calls Try.prog 19 #[.agg #[.int .i64 b, .int .i64 l, .int .i64 c, .int .i64 m], .int .i64 t] w (TwoN (raE b l c m t).1 (raE b l c m t).2 w) := by
  have CO := Lib.hid (fun W => l12Ok_any b l c m W)
  have B0 := Lib.hid (BoxL.new w [.int .i64 b, .int .i64 l, .int .i64 c, .int .i64 m] 25)
  have L0 := Lib.hid (bA (bR w) (.cells #[.int .i64 b, .int .i64 l, .int .i64 c, .int .i64 m] 25))
  cases h1 : okRt b l c m
  · rw [raE_1 h1]
    rw [h1] at CO
    go_enter Try.func19, Try.ntmps19
    go_wp2_with fail
    refine (CO.out _).mono ?_
    rintro e w1 ⟨rfl, hb⟩
    have B1 := Lib.hid (B0.out.keep hb)
    have L1 := Lib.hid (bT L0.out hb)
    clear hb B0 L0
    obtain ⟨c0, c1, c2, c3, c4⟩ := B1.out.c4
    go_wp2_with fail
    go_ret2
    exact ⟨rfl, L1.out⟩
  rw [h1] at CO
  cases h2 : inB t (-400) 600
  · rw [raE_2 h1 h2]
    go_enter Try.func19, Try.ntmps19
    go_wp2_with fail
    refine (CO.out _).mono ?_
    rintro e w1 ⟨rfl, hb⟩
    have B1 := Lib.hid (B0.out.keep hb)
    have L1 := Lib.hid (bT L0.out hb)
    clear hb B0 L0
    obtain ⟨c0, c1, c2, c3, c4⟩ := B1.out.c4
    go_wp2_with (go_at_call 41; refine (l12Temp_any _ _).mono ?_; rintro e w1 ⟨rfl, rfl⟩)
    go_ret2
    exact ⟨rfl, L1.out⟩
  rw [raE_0 h1 h2]
  have hR := rte_of h1
  have ht := inB_true.1 h2
  have CA := Lib.hid (fun W => l12At_any b l c m t W hR ht)
  clear hR ht
  generalize atR b l c m t = r at *
  go_enter Try.func19, Try.ntmps19
  go_wp2_with fail
  refine (CO.out _).mono ?_
  rintro e w1 ⟨rfl, hb⟩
  have B1 := Lib.hid (B0.out.keep hb)
  have L1 := Lib.hid (bT L0.out hb)
  clear hb B0 L0
  obtain ⟨c0, c1, c2, c3, c4⟩ := B1.out.c4
  go_wp2_with (go_at_call 41; refine (l12Temp_any _ _).mono ?_; rintro e w1 ⟨rfl, rfl⟩)
  refine (CA.out _).mono ?_
  rintro e w2 ⟨rfl, hb⟩
  have L2 := Lib.hid (bT L1.out hb)
  clear hb
  go_wp2_with fail
  go_ret2
  exact ⟨rfl, L2.out⟩
set_option maxRecDepth 100000 in
set_option maxHeartbeats 2000000 in
theorem OtherTempS_any (b l c m t : Int) (w : World) :
    Calls Try.prog 33 #[.agg #[.int .i64 b, .int .i64 l, .int .i64 c, .int .i64 m], .int .i64 t] w (TwoN (otE b l c m t).1 (otE b l c m t).2 w) := by
  have CO := Lib.hid (fun W => l12Ok_any b l c m W)
  have B0 := Lib.hid (BoxL.new w [.int .i64 b, .int .i64 l, .int .i64 c, .int .i64 m] 25)
  have L0 := Lib.hid (bA (bR w) (.cells #[.int .i64 b, .int .i64 l, .int .i64 c, .int .i64 m] 25))
  cases h1 : okRt b l c m
  · rw [otE_1 h1]
    rw [h1] at CO
    go_enter Try.func33, Try.ntmps33
    go_wp2_with fail
    refine (CO.out _).mono ?_
    rintro e w1 ⟨rfl, hb⟩
    have B1 := Lib.hid (B0.out.keep hb)
    have L1 := Lib.hid (bT L0.out hb)
    clear hb B0 L0
    obtain ⟨c0, c1, c2, c3, c4⟩ := B1.out.c4
    go_wp2_with fail
    go_ret2
    exact ⟨rfl, L1.out⟩
  rw [h1] at CO
  have HR := Lib.hid (rte_of h1)
  cases h2 : inB t (-400) 600
  · rw [otE_2 h1 h2]
    go_enter Try.func33, Try.ntmps33
    go_wp2_with fail
    refine (CO.out _).mono ?_
    rintro e w1 ⟨rfl, hb⟩
    have B1 := Lib.hid (B0.out.keep hb)
    have L1 := Lib.hid (bT L0.out hb)
    clear hb B0 L0
    obtain ⟨c0, c1, c2, c3, c4⟩ := B1.out.c4
    go_wp2_with (go_at_call 41; refine (l12Temp_any _ _).mono ?_; rintro e w1 ⟨rfl, rfl⟩)
    go_ret2
    exact ⟨rfl, L1.out⟩
  by_cases h3 : c = 0
  · subst h3
    rw [otE_6 h1 h2]
    go_enter Try.func33, Try.ntmps33
    go_wp2_with fail
    refine (CO.out _).mono ?_
    rintro e w1 ⟨rfl, hb⟩
    have B1 := Lib.hid (B0.out.keep hb)
    have L1 := Lib.hid (bT L0.out hb)
    clear hb B0 L0
    obtain ⟨c0, c1, c2, c3, c4⟩ := B1.out.c4
    go_wp2_with (go_at_call 41; refine (l12Temp_any _ _).mono ?_; rintro e w1 ⟨rfl, rfl⟩)
    go_ret2
    exact ⟨rfl, L1.out⟩
  have hl := HR.out.hl
  have hm := HR.out.hm
  have ht := inB_true.1 h2
  have hq := tdiv_bd hl h3
  have hz : (c == 0) = false := by simpa using h3
  by_cases h4 : l.tmod c = 0
  · have h4b : (l.tmod c != 0) = false := by simpa using h4
    have HO := Lib.hid (show 2 * m - l.tdiv c - t = otO l c m t from rfl)
    cases h5 : inB (otO l c m t) (-400) 600
    · rw [otE_4 h1 h2 h3 h4 h5]
      rw [← HO.out] at h5
      clear HO HR h4
      have g1 : IntKind.i64.wrap (2 * m) = 2 * m := IntWalk.i64_in _ (by omega)
      have g2 : IntKind.i64.wrap (2 * m - l.tdiv c) = 2 * m - l.tdiv c := IntWalk.i64_in _ (by omega)
      have g3 : IntKind.i64.wrap (2 * m - l.tdiv c - t) = 2 * m - l.tdiv c - t := IntWalk.i64_in _ (by omega)
      go_enter Try.func33, Try.ntmps33
      go_wp2_with fail
      refine (CO.out _).mono ?_
      rintro e w1 ⟨rfl, hb⟩
      have B1 := Lib.hid (B0.out.keep hb)
      have L1 := Lib.hid (bT L0.out hb)
      clear hb B0 L0
      obtain ⟨c0, c1, c2, c3, c4⟩ := B1.out.c4
      go_wp2_with (go_at_call 41; refine (l12Temp_any _ _).mono ?_; rintro e w1 ⟨rfl, rfl⟩)
      go_quiet (fail)
      go_wp2_with (go_at_call 41; refine (l12Temp_any _ _).mono ?_; rintro e w1 ⟨rfl, rfl⟩)
      go_ret2
      exact ⟨rfl, by first | exact L1.out | exact bD L1.out _⟩
    · rw [otE_0 h1 h2 h3 h4 h5]
      rw [← HO.out] at h5 ⊢
      clear HO HR h4
      have g1 : IntKind.i64.wrap (2 * m) = 2 * m := IntWalk.i64_in _ (by omega)
      have g2 : IntKind.i64.wrap (2 * m - l.tdiv c) = 2 * m - l.tdiv c := IntWalk.i64_in _ (by omega)
      have g3 : IntKind.i64.wrap (2 * m - l.tdiv c - t) = 2 * m - l.tdiv c - t := IntWalk.i64_in _ (by omega)
      go_enter Try.func33, Try.ntmps33
      go_wp2_with fail
      refine (CO.out _).mono ?_
      rintro e w1 ⟨rfl, hb⟩
      have B1 := Lib.hid (B0.out.keep hb)
      have L1 := Lib.hid (bT L0.out hb)
      clear hb B0 L0
      obtain ⟨c0, c1, c2, c3, c4⟩ := B1.out.c4
      go_wp2_with (go_at_call 41; refine (l12Temp_any _ _).mono ?_; rintro e w1 ⟨rfl, rfl⟩)
      go_quiet (fail)
      go_wp2_with (go_at_call 41; refine (l12Temp_any _ _).mono ?_; rintro e w1 ⟨rfl, rfl⟩)
      go_ret2
      exact ⟨rfl, by first | exact L1.out | exact bD L1.out _⟩
  · have h4b : (l.tmod c != 0) = true := by simpa using h4
    rw [otE_3 h1 h2 h3 h4]
    clear HR h4
    go_enter Try.func33, Try.ntmps33
    go_wp2_with fail
    refine (CO.out _).mono ?_
    rintro e w1 ⟨rfl, hb⟩
    have B1 := Lib.hid (B0.out.keep hb)
    have L1 := Lib.hid (bT L0.out hb)
    clear hb B0 L0
    obtain ⟨c0, c1, c2, c3, c4⟩ := B1.out.c4
    go_wp2_with (go_at_call 41; refine (l12Temp_any _ _).mono ?_; rintro e w1 ⟨rfl, rfl⟩)
    go_ret2
    exact ⟨rfl, L1.out⟩
set_option maxRecDepth 100000 in
set_option maxHeartbeats 2000000 in
theorem RateAtI_any (b l c m t : Int) (w : World) :
    Calls Try.prog 20 #[.agg #[.int .i64 b, .int .i64 l, .int .i64 c, .int .i64 m], .int .i64 t] w (TwoN (raE b l c m t).1 (raE b l c m t).2 w) := by
  have CO := Lib.hid (fun W => ValidRateI_any b l c m W)
  have B0 := Lib.hid (BoxL.new w [.int .i64 b, .int .i64 l, .int .i64 c, .int .i64 m] 25)
  have L0 := Lib.hid (bA (bR w) (.cells #[.int .i64 b, .int .i64 l, .int .i64 c, .int .i64 m] 25))
  cases h1 : okRt b l c m
  · rw [raE_1 h1]
    rw [h1] at CO
    go_enter Try.func20, Try.ntmps20
    go_wp2_with fail
    refine (CO.out _).mono ?_
    rintro e w1 ⟨rfl, hb⟩
    have B1 := Lib.hid (B0.out.keep hb)
    have L1 := Lib.hid (bT L0.out hb)
    clear hb B0 L0
    obtain ⟨c0, c1, c2, c3, c4⟩ := B1.out.c4
    go_wp2_with fail
    go_ret2
    exact ⟨rfl, L1.out⟩
  rw [h1] at CO
  cases h2 : inB t (-400) 600
  · rw [raE_2 h1 h2]
    go_enter Try.func20, Try.ntmps20
    go_wp2_with fail
    refine (CO.out _).mono ?_
    rintro e w1 ⟨rfl, hb⟩
    have B1 := Lib.hid (B0.out.keep hb)
    have L1 := Lib.hid (bT L0.out hb)
    clear hb B0 L0
    obtain ⟨c0, c1, c2, c3, c4⟩ := B1.out.c4
    go_wp2_with (go_at_call 37; refine (isTemperature_any _ _).mono ?_; rintro e w1 ⟨rfl, rfl⟩)
    go_ret2
    exact ⟨rfl, L1.out⟩
  rw [raE_0 h1 h2]
  have hR := rte_of h1
  have ht := inB_true.1 h2
  have CA := Lib.hid (fun W => atI_any b l c m t W hR ht)
  clear hR ht
  generalize atR b l c m t = r at *
  go_enter Try.func20, Try.ntmps20
  go_wp2_with fail
  refine (CO.out _).mono ?_
  rintro e w1 ⟨rfl, hb⟩
  have B1 := Lib.hid (B0.out.keep hb)
  have L1 := Lib.hid (bT L0.out hb)
  clear hb B0 L0
  obtain ⟨c0, c1, c2, c3, c4⟩ := B1.out.c4
  go_wp2_with (go_at_call 37; refine (isTemperature_any _ _).mono ?_; rintro e w1 ⟨rfl, rfl⟩)
  refine (CA.out _).mono ?_
  rintro e w2 ⟨rfl, hb⟩
  have L2 := Lib.hid (bT L1.out hb)
  clear hb
  go_wp2_with fail
  go_ret2
  exact ⟨rfl, L2.out⟩
set_option maxRecDepth 100000 in
set_option maxHeartbeats 2000000 in
theorem OtherTempI_any (b l c m t : Int) (w : World) :
    Calls Try.prog 34 #[.agg #[.int .i64 b, .int .i64 l, .int .i64 c, .int .i64 m], .int .i64 t] w (TwoN (otE b l c m t).1 (otE b l c m t).2 w) := by
  have CO := Lib.hid (fun W => ValidRateI_any b l c m W)
  have B0 := Lib.hid (BoxL.new w [.int .i64 b, .int .i64 l, .int .i64 c, .int .i64 m] 25)
  have L0 := Lib.hid (bA (bR w) (.cells #[.int .i64 b, .int .i64 l, .int .i64 c, .int .i64 m] 25))
  cases h1 : okRt b l c m
  · rw [otE_1 h1]
    rw [h1] at CO
    go_enter Try.func34, Try.ntmps34
    go_wp2_with fail
    refine (CO.out _).mono ?_
    rintro e w1 ⟨rfl, hb⟩
    have B1 := Lib.hid (B0.out.keep hb)
    have L1 := Lib.hid (bT L0.out hb)
    clear hb B0 L0
    obtain ⟨c0, c1, c2, c3, c4⟩ := B1.out.c4
    go_wp2_with fail
    go_ret2
    exact ⟨rfl, L1.out⟩
  rw [h1] at CO
  have HR := Lib.hid (rte_of h1)
  cases h2 : inB t (-400) 600
  · rw [otE_2 h1 h2]
    go_enter Try.func34, Try.ntmps34
    go_wp2_with fail
    refine (CO.out _).mono ?_
    rintro e w1 ⟨rfl, hb⟩
    have B1 := Lib.hid (B0.out.keep hb)
    have L1 := Lib.hid (bT L0.out hb)
    clear hb B0 L0
    obtain ⟨c0, c1, c2, c3, c4⟩ := B1.out.c4
    go_wp2_with (go_at_call 37; refine (isTemperature_any _ _).mono ?_; rintro e w1 ⟨rfl, rfl⟩)
    go_ret2
    exact ⟨rfl, L1.out⟩
  by_cases h3 : c = 0
  · subst h3
    rw [otE_6 h1 h2]
    go_enter Try.func34, Try.ntmps34
    go_wp2_with fail
    refine (CO.out _).mono ?_
    rintro e w1 ⟨rfl, hb⟩
    have B1 := Lib.hid (B0.out.keep hb)
    have L1 := Lib.hid (bT L0.out hb)
    clear hb B0 L0
    obtain ⟨c0, c1, c2, c3, c4⟩ := B1.out.c4
    go_wp2_with (go_at_call 37; refine (isTemperature_any _ _).mono ?_; rintro e w1 ⟨rfl, rfl⟩)
    go_ret2
    exact ⟨rfl, L1.out⟩
  have hl := HR.out.hl
  have hm := HR.out.hm
  have ht := inB_true.1 h2
  have hq := tdiv_bd hl h3
  have hz : (c == 0) = false := by simpa using h3
  by_cases h4 : l.tmod c = 0
  · have h4b : (l.tmod c != 0) = false := by simpa using h4
    have HO := Lib.hid (show 2 * m - l.tdiv c - t = otO l c m t from rfl)
    cases h5 : inB (otO l c m t) (-400) 600
    · rw [otE_4 h1 h2 h3 h4 h5]
      rw [← HO.out] at h5
      clear HO HR h4
      have g1 : IntKind.i64.wrap (2 * m) = 2 * m := IntWalk.i64_in _ (by omega)
      have g2 : IntKind.i64.wrap (2 * m - l.tdiv c) = 2 * m - l.tdiv c := IntWalk.i64_in _ (by omega)
      have g3 : IntKind.i64.wrap (2 * m - l.tdiv c - t) = 2 * m - l.tdiv c - t := IntWalk.i64_in _ (by omega)
      go_enter Try.func34, Try.ntmps34
      go_wp2_with fail
      refine (CO.out _).mono ?_
      rintro e w1 ⟨rfl, hb⟩
      have B1 := Lib.hid (B0.out.keep hb)
      have L1 := Lib.hid (bT L0.out hb)
      clear hb B0 L0
      obtain ⟨c0, c1, c2, c3, c4⟩ := B1.out.c4
      go_wp2_with (go_at_call 37; refine (isTemperature_any _ _).mono ?_; rintro e w1 ⟨rfl, rfl⟩)
      go_quiet (fail)
      go_wp2_with (go_at_call 37; refine (isTemperature_any _ _).mono ?_; rintro e w1 ⟨rfl, rfl⟩)
      go_ret2
      exact ⟨rfl, by first | exact L1.out | exact bD L1.out _⟩
    · rw [otE_0 h1 h2 h3 h4 h5]
      rw [← HO.out] at h5 ⊢
      clear HO HR h4
      have g1 : IntKind.i64.wrap (2 * m) = 2 * m := IntWalk.i64_in _ (by omega)
      have g2 : IntKind.i64.wrap (2 * m - l.tdiv c) = 2 * m - l.tdiv c := IntWalk.i64_in _ (by omega)
      have g3 : IntKind.i64.wrap (2 * m - l.tdiv c - t) = 2 * m - l.tdiv c - t := IntWalk.i64_in _ (by omega)
      go_enter Try.func34, Try.ntmps34
      go_wp2_with fail
      refine (CO.out _).mono ?_
      rintro e w1 ⟨rfl, hb⟩
      have B1 := Lib.hid (B0.out.keep hb)
      have L1 := Lib.hid (bT L0.out hb)
      clear hb B0 L0
      obtain ⟨c0, c1, c2, c3, c4⟩ := B1.out.c4
      go_wp2_with (go_at_call 37; refine (isTemperature_any _ _).mono ?_; rintro e w1 ⟨rfl, rfl⟩)
      go_quiet (fail)
      go_wp2_with (go_at_call 37; refine (isTemperature_any _ _).mono ?_; rintro e w1 ⟨rfl, rfl⟩)
      go_ret2
      exact ⟨rfl, by first | exact L1.out | exact bD L1.out _⟩
  · have h4b : (l.tmod c != 0) = true := by simpa using h4
    rw [otE_3 h1 h2 h3 h4]
    clear HR h4
    go_enter Try.func34, Try.ntmps34
    go_wp2_with fail
    refine (CO.out _).mono ?_
    rintro e w1 ⟨rfl, hb⟩
    have B1 := Lib.hid (B0.out.keep hb)
    have L1 := Lib.hid (bT L0.out hb)
    clear hb B0 L0
    obtain ⟨c0, c1, c2, c3, c4⟩ := B1.out.c4
    go_wp2_with (go_at_call 37; refine (isTemperature_any _ _).mono ?_; rintro e w1 ⟨rfl, rfl⟩)
    go_ret2
    exact ⟨rfl, L1.out⟩
end Go.Proofs.Ytgcalgkpaehonaa

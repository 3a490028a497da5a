/-
  The greatest addendum without interference: impl.engagement.withAddendum; GreatestAddendum, both sides.
-/
import Derived.Test.YtpbmpmcifpgchaaIt
namespace Go.Proofs.Ytpbmpmcifpgchaa
open Go.RowKit

/-- The greatest number from 1 to n with which f is false; 0 if there is none. -/
def gaN (f : Int → Bool) : Nat → Int
  | 0 => 0
  | n + 1 => if f ((n : Int) + 1) = true then gaN f n else (n : Int) + 1
theorem gaN_no {f : Int → Bool} {n : Nat} (h : f ((n : Int) + 1) = true) : gaN f (n + 1) = gaN f n := by simp [gaN, h]
theorem gaN_yes {f : Int → Bool} {n : Nat} (h : f ((n : Int) + 1) = false) : gaN f (n + 1) = (n : Int) + 1 := by simp [gaN, h]
theorem gaN_bd (f : Int → Bool) : ∀ n : Nat, 0 ≤ gaN f n ∧ gaN f n ≤ n
  | 0 => by simp [gaN]
  | n + 1 => by
    have := gaN_bd f n
    unfold gaN
    split <;> omega
/-- Interference with the same addendum for both. -/
def itK (t m s c h t2 : Int) (z : Int) : Bool := itF t m z s c h t2 z
/-- What GreatestAddendum returns. -/
def gaF (t m k s c h t2 m2 k2 s2 c2 h2 : Int) : Int × Int := if twC t m k s c h t2 m2 k2 s2 c2 h2 = 0 then (if gaN (itK t m s c h t2) 20 = 0 then (0, 3) else (gaN (itK t m s c h t2) 20, 0)) else (0, twC t m k s c h t2 m2 k2 s2 c2 h2)
theorem gaF_no {t m k s c h t2 m2 k2 s2 c2 h2 : Int} (e : ¬ twC t m k s c h t2 m2 k2 s2 c2 h2 = 0) : gaF t m k s c h t2 m2 k2 s2 c2 h2 = (0, twC t m k s c h t2 m2 k2 s2 c2 h2) := by simp [gaF, e]
theorem gaF_3 {t m k s c h t2 m2 k2 s2 c2 h2 : Int} (e : twC t m k s c h t2 m2 k2 s2 c2 h2 = 0) (e2 : gaN (itK t m s c h t2) 20 = 0) : gaF t m k s c h t2 m2 k2 s2 c2 h2 = (0, 3) := by simp [gaF, e, e2]
theorem gaF_yes {t m k s c h t2 m2 k2 s2 c2 h2 : Int} (e : twC t m k s c h t2 m2 k2 s2 c2 h2 = 0) (e2 : ¬ gaN (itK t m s c h t2) 20 = 0) : gaF t m k s c h t2 m2 k2 s2 c2 h2 = (gaN (itK t m s c h t2) 20, 0) := by simp [gaF, e, e2]
theorem retF2 {a b c d : Int} (h : a = b) (h' : c = d) : Ending.returned (.tuple #[.int .i64 a, .int .i64 c]) = .returned (.tuple #[.int .i64 b, .int .i64 d]) := by rw [h, h']
theorem Lim.add {t m k s c h z : Int} (hl : Lim t m k s c h) (hz : 1 ≤ z ∧ z ≤ 20) : Lim t m z s c h := ⟨hl.1, hl.2.1, hz, hl.2.2.2⟩
def EgB (t m k s c h t2 m2 k2 s2 c2 h2 : Int) (w : World) (e : Ending) (w' : World) : Prop := e = .returned (.agg #[.int .i64 t, .int .i64 m, .int .i64 k, .int .i64 s, .int .i64 c, .int .i64 h, .int .i64 t2, .int .i64 m2, .int .i64 k2, .int .i64 s2, .int .i64 c2, .int .i64 h2]) ∧ Below w.heap.size w w'
set_option maxRecDepth 100000 in
set_option maxHeartbeats 4000000 in
theorem withAddendum_any (t m k s c h t2 m2 k2 s2 c2 h2 z : Int) (w : World) :
    Calls Try.prog 41 #[.agg #[.int .i64 t, .int .i64 m, .int .i64 k, .int .i64 s, .int .i64 c, .int .i64 h, .int .i64 t2, .int .i64 m2, .int .i64 k2, .int .i64 s2, .int .i64 c2, .int .i64 h2], .int .i64 z] w (EgB t m z s c h t2 m2 z s2 c2 h2 w) := by
  go_enter Try.func41, Try.ntmps41
  go_wp2
  exact bodyPost_ret (v := .agg #[.int .i64 t, .int .i64 m, .int .i64 z, .int .i64 s, .int .i64 c, .int .i64 h, .int .i64 t2, .int .i64 m2, .int .i64 z, .int .i64 s2, .int .i64 c2, .int .i64 h2]) (by simp [results, Try.results41, go_sem]) rfl ⟨rfl, bA (bA (bR _) _) _⟩
set_option maxRecDepth 100000 in
set_option maxHeartbeats 4000000 in
theorem GreatestAddendumI_any (t m k s c h t2 m2 k2 s2 c2 h2 : Int) (w : World) :
    Calls Try.prog 14 #[.agg #[.int .i64 t, .int .i64 m, .int .i64 k, .int .i64 s, .int .i64 c, .int .i64 h], .agg #[.int .i64 t2, .int .i64 m2, .int .i64 k2, .int .i64 s2, .int .i64 c2, .int .i64 h2]] w (TwoIn (gaF t m k s c h t2 m2 k2 s2 c2 h2).1 (gaF t m k s c h t2 m2 k2 s2 c2 h2).2 w) := by
  have H0 := Lib.hid (PwH.new w t m k s c h t2 m2 k2 s2 c2 h2 30 30)
  have X0 := Lib.hid (EgH.new ((w.alloc (.cells #[.int .i64 t, .int .i64 m, .int .i64 k, .int .i64 s, .int .i64 c, .int .i64 h] 30)).alloc (.cells #[.int .i64 t2, .int .i64 m2, .int .i64 k2, .int .i64 s2, .int .i64 c2, .int .i64 h2] 30)) t m k s c h t2 m2 k2 s2 c2 h2 61)
  have e2 : ((w.alloc (.cells #[.int .i64 t, .int .i64 m, .int .i64 k, .int .i64 s, .int .i64 c, .int .i64 h] 30)).alloc (.cells #[.int .i64 t2, .int .i64 m2, .int .i64 k2, .int .i64 s2, .int .i64 c2, .int .i64 h2] 30)).heap.size = w.heap.size + 1 + 1 := by simp
  rw [e2] at X0
  clear e2
  have CO := Lib.hid (fun W => code_any t m k s c h t2 m2 k2 s2 c2 h2 W)
  by_cases hz : twC t m k s c h t2 m2 k2 s2 c2 h2 = 0
  · have G3 := Lib.hid (gaF_3 (t := t) (m := m) (k := k) (s := s) (c := c) (h := h) (t2 := t2) (m2 := m2) (k2 := k2) (s2 := s2) (c2 := c2) (h2 := h2) hz)
    have GY := Lib.hid (gaF_yes (t := t) (m := m) (k := k) (s := s) (c := c) (h := h) (t2 := t2) (m2 := m2) (k2 := k2) (s2 := s2) (c2 := c2) (h2 := h2) hz)
    obtain ⟨o1, o2, rfl, rfl, rfl, rfl⟩ := twC_zero hz
    rw [hz] at CO
    have IT := Lib.hid (fun W z (hz : 1 ≤ z ∧ z ≤ 20) => interferes_any t m2 z s2 c2 h2 t2 z W ((lim_of o1).add hz) ((lim_of o2).add hz))
    clear hz o1 o2
    have HK : ∀ z, itF t m2 z s2 c2 h2 t2 z = itK t m2 s2 c2 h2 t2 z := fun _ => rfl
    simp only [HK] at IT
    clear HK
    generalize itK t m2 s2 c2 h2 t2 = f at *
    go_enter Try.func14, Try.ntmps14
    go_wp2_with fail
    refine (CO.out _).mono ?_
    rintro e w1 ⟨rfl, hb⟩
    have X1 := Lib.hid (X0.out.keep hb)
    clear hb
    go_wp2_with fail
    generalize hb3 : w.heap.size + 1 + 1 = b3 at *
    clear hb3
    have H0' := Lib.hid H0.out.bel
    clear H0 X0
    generalize (w.alloc (.cells #[.int .i64 t, .int .i64 m2, .int .i64 k, .int .i64 s2, .int .i64 c2, .int .i64 h2] 30)).alloc (.cells #[.int .i64 t2, .int .i64 m2, .int .i64 k2, .int .i64 s2, .int .i64 c2, .int .i64 h2] 30) = W0 at *
    have L1 := Lib.hid (bT H0'.out X1.out.bel)
    go_loopw [8] (fun i wr => ∃ n : Nat, i = .int .i64 n ∧ n ≤ 20 ∧ gaN f n = gaN f 20 ∧ Below w1.heap.size w1 wr) (fun i _ => (intOf i).toNat)
    case atStart => exact ⟨20, rfl, by omega, rfl, bR _⟩
    case round =>
      obtain ⟨n, rfl, n1, n2, hb⟩ := hrel
      have X2 := Lib.hid (X1.out.keep hb)
      have L2 := Lib.hid (bT L1.out hb)
      have HBW := Lib.hid hb
      clear hb
      obtain ⟨g0, g1, g2, g3, g4, g5, g6, g7, g8, g9, g10, g11, g12, g13⟩ := X2.out
      match n, n1, n2 with
      | 0, n1, n2 =>
        have HG := Lib.hid (G3.out (by rw [← n2]; rfl))
        go_wp2_with fail
        go_ret2
        rw [HG.out]
        exact ⟨rfl, L2.out⟩
      | n + 1, n1, n2 =>
        have hn1 : ((n + 1 : Nat) : Int) = (n : Int) + 1 := by omega
        rw [hn1]
        have hpos : 0 < (n : Int) + 1 := by omega
        cases hf : f ((n : Int) + 1)
        · have hv := gaN_yes hf
          have HG := Lib.hid (GY.out (by rw [← n2, hv]; omega))
          have HV := Lib.hid (show (n : Int) + 1 = gaN f 20 by rw [← n2, hv])
          go_wp2_with fail
          refine (withAddendum_any _ _ _ _ _ _ _ _ _ _ _ _ _ _).mono ?_
          rintro e w2 ⟨rfl, hb2⟩
          go_wp2_with fail
          refine (IT.out _ _ (by omega)).mono ?_
          rw [hf]
          rintro e w3 ⟨rfl, hb3⟩
          go_wp2_with fail
          go_ret2
          rw [HG.out]
          exact ⟨retF2 HV.out rfl, bT (bT L2.out hb2) hb3⟩
        · have HV := Lib.hid (show gaN f n = gaN f 20 by rw [← n2, gaN_no hf])
          go_wp2_with fail
          refine (withAddendum_any _ _ _ _ _ _ _ _ _ _ _ _ _ _).mono ?_
          rintro e w2 ⟨rfl, hb2⟩
          go_wp2_with fail
          refine (IT.out _ _ (by omega)).mono ?_
          rw [hf]
          rintro e w3 ⟨rfl, hb3⟩
          go_wp2_with fail
          go_roundw
          case rel => exact ⟨n, by first | rfl | (congr 1; omega), by omega, HV.out, bT (bT HBW.out hb2) hb3⟩
          case measure => simp [intOf]
  · rw [gaF_no hz]
    generalize twC t m k s c h t2 m2 k2 s2 c2 h2 = z at *
    have hz1 : (z != 0) = true := by simpa using hz
    go_enter Try.func14, Try.ntmps14
    go_wp2_with fail
    refine (CO.out _).mono ?_
    rintro e w1 ⟨rfl, hb⟩
    have X1 := Lib.hid (X0.out.keep hb)
    have L1 := Lib.hid (bT H0.out.bel X1.out.bel)
    clear hb
    go_wp2_with fail
    go_ret2
    exact ⟨rfl, L1.out⟩
theorem itK_eq (t m s c h t2 z : Int) : itK t m s c h t2 z = (bey (out_ t m z * h) (pit t m * c) ((pit t m + pit t2 m) * s) || bey (out_ t2 m z * h) (pit t2 m * c) ((pit t m + pit t2 m) * s)) := rfl
set_option maxRecDepth 100000 in
set_option maxHeartbeats 4000000 in
theorem GreatestAddendumS_any (t m k s c h t2 m2 k2 s2 c2 h2 : Int) (w : World) :
    Calls Try.prog 13 #[.agg #[.int .i64 t, .int .i64 m, .int .i64 k, .int .i64 s, .int .i64 c, .int .i64 h], .agg #[.int .i64 t2, .int .i64 m2, .int .i64 k2, .int .i64 s2, .int .i64 c2, .int .i64 h2]] w (TwoIn (gaF t m k s c h t2 m2 k2 s2 c2 h2).1 (gaF t m k s c h t2 m2 k2 s2 c2 h2).2 w) := by
  have H0 := Lib.hid (PwH.new w t m k s c h t2 m2 k2 s2 c2 h2 30 30)
  have CO := Lib.hid (fun W => l10Two_any t m k s c h t2 m2 k2 s2 c2 h2 W)
  by_cases hz : twC t m k s c h t2 m2 k2 s2 c2 h2 = 0
  · have G3 := Lib.hid (gaF_3 (t := t) (m := m) (k := k) (s := s) (c := c) (h := h) (t2 := t2) (m2 := m2) (k2 := k2) (s2 := s2) (c2 := c2) (h2 := h2) hz)
    have GY := Lib.hid (gaF_yes (t := t) (m := m) (k := k) (s := s) (c := c) (h := h) (t2 := t2) (m2 := m2) (k2 := k2) (s2 := s2) (c2 := c2) (h2 := h2) hz)
    obtain ⟨o1, o2, rfl, rfl, rfl, rfl⟩ := twC_zero hz
    rw [hz] at CO
    have B1 := Lib.hid (fun z W (hz : 1 ≤ z ∧ z ≤ 20) => l10Beyond_any t m2 z s2 c2 h2 t2 m2 z s2 c2 h2 W ((lim_of o1).add hz) ((lim_of o2).add hz))
    have B2 := Lib.hid (fun z W (hz : 1 ≤ z ∧ z ≤ 20) => l10Beyond_any t2 m2 z s2 c2 h2 t m2 z s2 c2 h2 W ((lim_of o2).add hz) ((lim_of o1).add hz))
    have HK := Lib.hid (itK_eq t m2 s2 c2 h2 t2)
    simp only [bey_comm _ _ (pit t2 m2)] at B2
    clear hz o1 o2
    generalize itK t m2 s2 c2 h2 t2 = f at *
    go_enter Try.func13, Try.ntmps13
    go_wp2_with fail
    refine (CO.out _).mono ?_
    rintro e w1 ⟨rfl, hb⟩
    have X1 := Lib.hid (H0.out.keep hb)
    clear hb H0
    go_wp2_with fail
    have L1 := Lib.hid X1.out.bel
    go_loopw [7] (fun i wr => ∃ n : Nat, i = .int .i64 n ∧ n ≤ 20 ∧ gaN f n = gaN f 20 ∧ Below w1.heap.size w1 wr) (fun i _ => (intOf i).toNat)
    case atStart => exact ⟨20, rfl, by omega, rfl, bR _⟩
    case round =>
      obtain ⟨n, rfl, n1, n2, hb⟩ := hrel
      have X2 := Lib.hid (X1.out.keep hb)
      have L2 := Lib.hid (bT L1.out hb)
      have HBW := Lib.hid hb
      clear hb
      obtain ⟨g0, g1, g2, g3, g4, g5, g6, g7, g8, g9, g10, g11, g12, g13, g14⟩ := X2.out
      match n, n1, n2 with
      | 0, n1, n2 =>
        have HG := Lib.hid (G3.out (by rw [← n2]; rfl))
        go_wp2_with fail
        go_ret2
        rw [HG.out]
        exact ⟨rfl, L2.out⟩
      | n + 1, n1, n2 =>
        have hn1 : ((n + 1 : Nat) : Int) = (n : Int) + 1 := by omega
        rw [hn1]
        have hpos : 1 ≤ (n : Int) + 1 := by omega
        have H5 := Lib.hid (PwH.new wr t m2 ((n : Int) + 1) s2 c2 h2 t2 m2 ((n : Int) + 1) s2 c2 h2 30 30)
        have hz2 : 1 ≤ (n : Int) + 1 ∧ (n : Int) + 1 ≤ 20 := by omega
        have C1 := Lib.hid (fun W => B1.out ((n : Int) + 1) W hz2)
        have C2 := Lib.hid (fun W => B2.out ((n : Int) + 1) W hz2)
        have hk := HK.out ((n : Int) + 1)
        clear hz2 B1 B2 HK
        generalize (bey (out_ t m2 ((n : Int) + 1) * h2) (pit t m2 * c2) ((pit t m2 + pit t2 m2) * s2)) = x at *
        generalize (bey (out_ t2 m2 ((n : Int) + 1) * h2) (pit t2 m2 * c2) ((pit t m2 + pit t2 m2) * s2)) = y at *
        go_wp2_with fail
        refine (C1.out _).mono ?_
        rintro e w2 ⟨rfl, hb2⟩
        have H6 := Lib.hid (H5.out.keep hb2)
        have L6 := Lib.hid (bT L2.out H6.out.bel)
        clear hb2 H5 g0 g1 g2 g3 g4 g5 g6 g7 g8 g9 g10 g11 g12 g13 g14
        obtain ⟨g0, g1, g2, g3, g4, g5, g6, g7, g8, g9, g10, g11, g12, g13, g14⟩ := H6.out
        cases x
        · rw [Bool.false_or] at hk
          go_wp2_with fail
          refine (C2.out _).mono ?_
          rintro e w3 ⟨rfl, hb3⟩
          cases y
          · have hv := gaN_yes hk
            have HG := Lib.hid (GY.out (by rw [← n2, hv]; omega))
            have HV := Lib.hid (show (n : Int) + 1 = gaN f 20 by rw [← n2, hv])
            go_wp2_with fail
            go_ret2
            rw [HG.out]
            exact ⟨retF2 HV.out rfl, bT L6.out hb3⟩
          · have HV := Lib.hid (show gaN f n = gaN f 20 by rw [← n2, gaN_no hk])
            go_wp2_with fail
            go_roundw
            case rel => exact ⟨n, by first | rfl | (congr 1; omega), by omega, HV.out, bT (bT HBW.out H6.out.bel) hb3⟩
            case measure => simp [intOf]
        · rw [Bool.true_or] at hk
          have HV := Lib.hid (show gaN f n = gaN f 20 by rw [← n2, gaN_no hk])
          go_wp2_with fail
          go_roundw
          case rel => exact ⟨n, by first | rfl | (congr 1; omega), by omega, HV.out, bT HBW.out H6.out.bel⟩
          case measure => simp [intOf]
  · rw [gaF_no hz]
    generalize twC t m k s c h t2 m2 k2 s2 c2 h2 = z at *
    have hz1 : (z != 0) = true := by simpa using hz
    go_enter Try.func13, Try.ntmps13
    go_wp2_with fail
    refine (CO.out _).mono ?_
    rintro e w1 ⟨rfl, hb⟩
    go_wp2_with fail
    go_ret2
    exact ⟨rfl, bT H0.out.bel hb⟩
end Go.Proofs.Ytpbmpmcifpgchaa

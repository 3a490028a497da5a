/-
  Rates: validity and the rate at a temperature, both sides; the conversions of the laws.
-/
import Derived.Test.YtpmelgdhcjnagaaDoorRaM
import Derived.Test.YtpmelgdhcjnagaaDoorBl
import Derived.Test.YtpmelgdhcjnagaaDoorEqP
namespace Go.Proofs.YtpmelgdhcjnagaaDoor
open Go.RowKit

def OneN (n : Int) (w : World) (e : Ending) (w' : World) : Prop := e = .returned (.int .i64 n) ∧ Below w.heap.size w w'
def TwoN (a b : Int) (w : World) (e : Ending) (w' : World) : Prop := e = .returned (.tuple #[.int .i64 a, .int .i64 b]) ∧ Below w.heap.size w w'
theorem BoxL.c4 {w : World} {b : Nat} {u v x y : Value} (h : BoxL w b [u, v, x, y]) : w.cell? ⟨b, 0, none⟩ = some u ∧ w.cell? ⟨b, 1, none⟩ = some v ∧ w.cell? ⟨b, 2, none⟩ = some x ∧ w.cell? ⟨b, 3, none⟩ = some y ∧ b < w.heap.size := ⟨h.c 0 _ rfl, h.c 1 _ rfl, h.c 2 _ rfl, h.c 3 _ rfl, h.lt⟩
theorem BoxL.f4 {w : World} {b : Nat} {u v x y : Value} (h : BoxL w b [u, v, x, y]) : w.frozen? ⟨b, 0, none⟩ = false ∧ w.frozen? ⟨b, 1, none⟩ = false ∧ w.frozen? ⟨b, 2, none⟩ = false ∧ w.frozen? ⟨b, 3, none⟩ = false := ⟨h.f 0 _ rfl, h.f 1 _ rfl, h.f 2 _ rfl, h.f 3 _ rfl⟩
theorem l12Temp_any (t : Int) (w : World) :
    Calls Tryd.prog 47 #[.int .i64 t] w fun e w' => e = .returned (.bool (inB t (-400) 600)) ∧ w = w' := by
  go_enter Tryd.func47, Tryd.ntmps47
  go_wp2_with fail
  refine (l00In_any _ _ _ _).mono ?_
  rintro e w1 ⟨rfl, rfl⟩
  go_wp2_with fail
  go_ret
  exact ⟨rfl, rfl⟩
theorem isTemperature_any (t : Int) (w : World) :
    Calls Tryd.prog 45 #[.int .i64 t] w fun e w' => e = .returned (.bool (inB t (-400) 600)) ∧ w = w' := by
  go_enter Tryd.func45, Tryd.ntmps45
  go_wp2_with fail
  refine (isBetween_any _ _ _ _).mono ?_
  rintro e w1 ⟨rfl, rfl⟩
  go_wp2_with fail
  go_ret
  exact ⟨rfl, rfl⟩
theorem l12Ok_any (b l c m : Int) (w : World) :
    Calls Tryd.prog 40 #[.agg #[.int .i64 b, .int .i64 l, .int .i64 c, .int .i64 m]] w (BoolBel (okRt b l c m) w) := by
  cases e1 : inB b (-100000000) 100000000
  · rw [okRt_n1 e1]
    go_enter Tryd.func40, Tryd.ntmps40
    go_wp2_with (first | (go_at_call 52; refine (l00In_any _ _ _ _).mono ?_; rintro e w1 ⟨rfl, rfl⟩) | (go_at_call 47; refine (l12Temp_any _ _).mono ?_; rintro e w1 ⟨rfl, rfl⟩))
    go_ret
    exact ⟨rfl, bA (bR _) _⟩
  cases e2 : inB l (-10000) 10000
  · rw [okRt_n2 e2]
    go_enter Tryd.func40, Tryd.ntmps40
    go_wp2_with (first | (go_at_call 52; refine (l00In_any _ _ _ _).mono ?_; rintro e w1 ⟨rfl, rfl⟩) | (go_at_call 47; refine (l12Temp_any _ _).mono ?_; rintro e w1 ⟨rfl, rfl⟩))
    go_ret
    exact ⟨rfl, bA (bR _) _⟩
  cases e3 : inB c (-1000) 1000
  · rw [okRt_n3 e3]
    go_enter Tryd.func40, Tryd.ntmps40
    go_wp2_with (first | (go_at_call 52; refine (l00In_any _ _ _ _).mono ?_; rintro e w1 ⟨rfl, rfl⟩) | (go_at_call 47; refine (l12Temp_any _ _).mono ?_; rintro e w1 ⟨rfl, rfl⟩))
    go_ret
    exact ⟨rfl, bA (bR _) _⟩
  rw [okRt_go e1 e2 e3]
  go_enter Tryd.func40, Tryd.ntmps40
  go_wp2_with (first | (go_at_call 52; refine (l00In_any _ _ _ _).mono ?_; rintro e w1 ⟨rfl, rfl⟩) | (go_at_call 47; refine (l12Temp_any _ _).mono ?_; rintro e w1 ⟨rfl, rfl⟩))
  go_ret
  exact ⟨rfl, bA (bR _) _⟩
theorem ValidRateI_any (b l c m : Int) (w : World) :
    Calls Tryd.prog 27 #[.agg #[.int .i64 b, .int .i64 l, .int .i64 c, .int .i64 m]] w (BoolBel (okRt b l c m) w) := by
  cases e1 : inB b (-100000000) 100000000
  · rw [okRt_n1 e1]
    go_enter Tryd.func27, Tryd.ntmps27
    go_wp2_with (first | (go_at_call 44; refine (isBetween_any _ _ _ _).mono ?_; rintro e w1 ⟨rfl, rfl⟩) | (go_at_call 45; refine (isTemperature_any _ _).mono ?_; rintro e w1 ⟨rfl, rfl⟩))
    go_ret
    exact ⟨rfl, bA (bR _) _⟩
  cases e2 : inB l (-10000) 10000
  · rw [okRt_n2 e2]
    go_enter Tryd.func27, Tryd.ntmps27
    go_wp2_with (first | (go_at_call 44; refine (isBetween_any _ _ _ _).mono ?_; rintro e w1 ⟨rfl, rfl⟩) | (go_at_call 45; refine (isTemperature_any _ _).mono ?_; rintro e w1 ⟨rfl, rfl⟩))
    go_ret
    exact ⟨rfl, bA (bR _) _⟩
  cases e3 : inB c (-1000) 1000
  · rw [okRt_n3 e3]
    go_enter Tryd.func27, Tryd.ntmps27
    go_wp2_with (first | (go_at_call 44; refine (isBetween_any _ _ _ _).mono ?_; rintro e w1 ⟨rfl, rfl⟩) | (go_at_call 45; refine (isTemperature_any _ _).mono ?_; rintro e w1 ⟨rfl, rfl⟩))
    go_ret
    exact ⟨rfl, bA (bR _) _⟩
  rw [okRt_go e1 e2 e3]
  go_enter Tryd.func27, Tryd.ntmps27
  go_wp2_with (first | (go_at_call 44; refine (isBetween_any _ _ _ _).mono ?_; rintro e w1 ⟨rfl, rfl⟩) | (go_at_call 45; refine (isTemperature_any _ _).mono ?_; rintro e w1 ⟨rfl, rfl⟩))
  go_ret
  exact ⟨rfl, bA (bR _) _⟩
theorem ValidRateS_any (b l c m : Int) (w : World) :
    Calls Tryd.prog 28 #[.agg #[.int .i64 b, .int .i64 l, .int .i64 c, .int .i64 m]] w (BoolBel (okRt b l c m) w) := by
  go_enter Tryd.func28, Tryd.ntmps28
  go_wp2_with fail
  refine (l12Ok_any _ _ _ _ _).mono ?_
  rintro e w1 ⟨rfl, hb⟩
  go_wp2_with fail
  go_ret
  exact ⟨rfl, bT (bA (bR _) _) hb⟩
def RtB (b l c m : Int) (w : World) (e : Ending) (w' : World) : Prop := e = .returned (.agg #[.int .i64 b, .int .i64 l, .int .i64 c, .int .i64 m]) ∧ Below w.heap.size w w'
theorem toRate_any (b l c m : Int) (w : World) :
    Calls Tryd.prog 14 #[.agg #[.int .i64 b, .int .i64 l, .int .i64 c, .int .i64 m]] w (RtB b l c m w) := by
  go_enter Tryd.func14, Tryd.ntmps14
  go_wp2
  exact bodyPost_ret (v := .agg #[.int .i64 b, .int .i64 l, .int .i64 c, .int .i64 m]) (by simp [results, Tryd.results14, go_sem]) rfl ⟨rfl, by first | exact bA (bA (bR _) _) _ | exact bA (bA (bA (bR _) _) _) _⟩
set_option maxHeartbeats 1000000 in
theorem l12At_any (b l c m t : Int) (w : World) (h : Rte b l c m) (ht : -400 ≤ t ∧ t ≤ 600) :
    Calls Tryd.prog 49 #[.agg #[.int .i64 b, .int .i64 l, .int .i64 c, .int .i64 m], .int .i64 t] w (OneN (atR b l c m t) w) := by
  obtain ⟨⟨d1, d2⟩, ⟨a1, a2⟩, ⟨b1, b2⟩, ⟨e1, e2⟩, f1, f2⟩ := atR_steps h ht
  have HE := Lib.hid (show b + l * (t - m) + c * (t - m) * (t - m) = atR b l c m t from rfl)
  obtain ⟨h1, h2, h3, h4⟩ := h
  unfold atR at f1 f2
  go_enter Tryd.func49, Tryd.ntmps49
  go_wp2_with fail
  go_ret
  exact ⟨ret_int HE.out, bA (bR _) _⟩
set_option maxHeartbeats 1000000 in
theorem atI_any (b l c m t : Int) (w : World) (h : Rte b l c m) (ht : -400 ≤ t ∧ t ≤ 600) :
    Calls Tryd.prog 48 #[.agg #[.int .i64 b, .int .i64 l, .int .i64 c, .int .i64 m], .int .i64 t] w (OneN (atR b l c m t) w) := by
  obtain ⟨⟨d1, d2⟩, ⟨a1, a2⟩, ⟨b1, b2⟩, ⟨e1, e2⟩, f1, f2⟩ := atR_steps h ht
  have HE := Lib.hid (show b + l * (t - m) + c * (t - m) * (t - m) = atR b l c m t from rfl)
  obtain ⟨h1, h2, h3, h4⟩ := h
  unfold atR at f1 f2
  go_enter Tryd.func48, Tryd.ntmps48
  go_wp2_with fail
  go_ret
  exact ⟨ret_int HE.out, bA (bR _) _⟩
set_option maxHeartbeats 2000000 in
theorem l12List_any (ps : List (Int × Int)) (v : Value) (w : World) (ha : SlP w v ps) (hmax : ps.length ≤ 1000000000000) :
    Calls Tryd.prog 30 #[v] w (BoolBel (okSl ps) w) := by
  obtain ⟨ao, cap, rfl, ha⟩ := ha
  have HA := Lib.hid ha
  clear ha
  go_enter Tryd.func30, Tryd.ntmps30
  go_wp2_with fail
  go_loopw [3] (fun i wr => ∃ (k : Nat), k ≤ ps.length ∧ i = .int .i64 k ∧ sgK ps k ∧ Below w.heap.size w wr) (fun i _ => ps.length - (intOf i).toNat)
  case atStart => exact ⟨0, by omega, rfl, sgK_zero _, bR _⟩
  case round =>
    obtain ⟨k, hk, rfl, hok, hbw⟩ := hrel
    have HK := Lib.hid hok
    clear hok
    by_cases hlt : k < ps.length
    · obtain ⟨g, rfl, hg, hc⟩ := HA.out (by omega)
      obtain ⟨c1, c2⟩ := (hc.keep hg hbw) k hlt
      have HBW := Lib.hid hbw
      have HE := Lib.hid (show okSg (pat ps k) = okSg ((pat ps k).1, (pat ps k).2) from rfl)
      clear hc HA hbw hg
      generalize (pat ps k).1 = x at *
      generalize (pat ps k).2 = y at *
      cases h1 : inB x 1 240
      · have HN := Lib.hid (okSl_bad (sg_no hlt (HE.out.trans (okSg_no1 h1))))
        go_wp2_with (first | (go_at_call 52; refine (l00In_any _ _ _ _).mono ?_; rintro e w1 ⟨rfl, rfl⟩) | (go_at_call 47; refine (l12Temp_any _ _).mono ?_; rintro e w1 ⟨rfl, rfl⟩))
        go_ret
        exact ⟨ret_bool HN.out.symm, by first | exact HBW.out | exact bA HBW.out _⟩
      · cases h2 : inB y (-400) 600
        · have HN := Lib.hid (okSl_bad (sg_no hlt (HE.out.trans ((okSg_go h1).trans h2))))
          go_wp2_with (first | (go_at_call 52; refine (l00In_any _ _ _ _).mono ?_; rintro e w1 ⟨rfl, rfl⟩) | (go_at_call 47; refine (l12Temp_any _ _).mono ?_; rintro e w1 ⟨rfl, rfl⟩))
          go_ret
          exact ⟨ret_bool HN.out.symm, by first | exact HBW.out | exact bA HBW.out _⟩
        · have HS := Lib.hid (sgK_succ HK.out (HE.out.trans ((okSg_go h1).trans h2)))
          go_wp2_with (first | (go_at_call 52; refine (l00In_any _ _ _ _).mono ?_; rintro e w1 ⟨rfl, rfl⟩) | (go_at_call 47; refine (l12Temp_any _ _).mono ?_; rintro e w1 ⟨rfl, rfl⟩))
          go_roundw
          case rel => exact ⟨k + 1, by omega, by go_num, HS.out, by first | exact HBW.out | exact bA HBW.out _⟩
          case measure => simp [intOf]; omega
    · obtain rfl : k = ps.length := by omega
      have HR := Lib.hid (okSl_short (sgK_all HK.out))
      go_wp2_with fail
      go_ret
      exact ⟨ret_bool (by rw [HR.out, Bool.eq_iff_iff]; simp; omega), hbw⟩
set_option maxHeartbeats 2000000 in
theorem ValidSegmentsI_any (ps : List (Int × Int)) (v : Value) (w : World) (ha : SlP w v ps) (hmax : ps.length ≤ 1000000000000) :
    Calls Tryd.prog 21 #[v] w (BoolBel (okSl ps) w) := by
  obtain ⟨ao, cap, rfl, ha⟩ := ha
  have HA := Lib.hid ha
  clear ha
  by_cases h60 : 60 < ps.length
  · have HN := Lib.hid (okSl_long (ps := ps) (by omega))
    go_enter Tryd.func21, Tryd.ntmps21
    go_wp2_with fail
    go_ret
    exact ⟨ret_bool HN.out.symm, bR _⟩
  go_enter Tryd.func21, Tryd.ntmps21
  go_wp2_with fail
  go_loopw [10] (fun i wr => ∃ (k : Nat), k ≤ ps.length ∧ i = .int .i64 k ∧ sgK ps k ∧ Below w.heap.size w wr) (fun i _ => ps.length - (intOf i).toNat)
  case atStart => exact ⟨0, by omega, rfl, sgK_zero _, bR _⟩
  case round =>
    obtain ⟨k, hk, rfl, hok, hbw⟩ := hrel
    have HK := Lib.hid hok
    clear hok
    by_cases hlt : k < ps.length
    · obtain ⟨g, rfl, hg, hc⟩ := HA.out (by omega)
      obtain ⟨c1, c2⟩ := (hc.keep hg hbw) k hlt
      have HBW := Lib.hid hbw
      have HE := Lib.hid (show okSg (pat ps k) = okSg ((pat ps k).1, (pat ps k).2) from rfl)
      clear hc HA hbw hg
      generalize (pat ps k).1 = x at *
      generalize (pat ps k).2 = y at *
      cases h1 : inB x 1 240
      · have HN := Lib.hid (okSl_bad (sg_no hlt (HE.out.trans (okSg_no1 h1))))
        go_wp2_with (first | (go_at_call 44; refine (isBetween_any _ _ _ _).mono ?_; rintro e w1 ⟨rfl, rfl⟩) | (go_at_call 45; refine (isTemperature_any _ _).mono ?_; rintro e w1 ⟨rfl, rfl⟩))
        go_ret
        exact ⟨ret_bool HN.out.symm, by first | exact HBW.out | exact bA HBW.out _⟩
      · cases h2 : inB y (-400) 600
        · have HN := Lib.hid (okSl_bad (sg_no hlt (HE.out.trans ((okSg_go h1).trans h2))))
          go_wp2_with (first | (go_at_call 44; refine (isBetween_any _ _ _ _).mono ?_; rintro e w1 ⟨rfl, rfl⟩) | (go_at_call 45; refine (isTemperature_any _ _).mono ?_; rintro e w1 ⟨rfl, rfl⟩))
          go_ret
          exact ⟨ret_bool HN.out.symm, by first | exact HBW.out | exact bA HBW.out _⟩
        · have HS := Lib.hid (sgK_succ HK.out (HE.out.trans ((okSg_go h1).trans h2)))
          go_wp2_with (first | (go_at_call 44; refine (isBetween_any _ _ _ _).mono ?_; rintro e w1 ⟨rfl, rfl⟩) | (go_at_call 45; refine (isTemperature_any _ _).mono ?_; rintro e w1 ⟨rfl, rfl⟩))
          go_roundw
          case rel => exact ⟨k + 1, by omega, by go_num, HS.out, by first | exact HBW.out | exact bA HBW.out _⟩
          case measure => simp [intOf]; omega
    · obtain rfl : k = ps.length := by omega
      have HR := Lib.hid (okSl_short (sgK_all HK.out))
      go_wp2_with fail
      go_ret
      exact ⟨ret_bool (by rw [HR.out, Bool.eq_iff_iff]; simp; omega), hbw⟩
end Go.Proofs.YtpmelgdhcjnagaaDoor

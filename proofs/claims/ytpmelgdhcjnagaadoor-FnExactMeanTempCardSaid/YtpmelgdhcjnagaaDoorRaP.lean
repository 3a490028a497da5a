/-
  Drifts, the program's side: sums over segments, the clock on its way.
-/
import Derived.Test.YtpmelgdhcjnagaaDoorRaT
import Derived.Test.YtpmelgdhcjnagaaDoorRaN
import Derived.Test.YtpmelgdhcjnagaaDoorApd
namespace Go.Proofs.YtpmelgdhcjnagaaDoor
open Go.RowKit

/-- What stands while the drift in a segment is taken. -/
def DiC (w : World) (x y b l c m : Int) (w' : World) : Prop :=
  w'.cell? ⟨w.heap.size + 1, 0, none⟩ = some (.int .i64 x) ∧ w'.cell? ⟨w.heap.size + 1, 1, none⟩ = some (.int .i64 y) ∧ w'.cell? ⟨w.heap.size, 0, none⟩ = some (.int .i64 b) ∧ w'.cell? ⟨w.heap.size, 1, none⟩ = some (.int .i64 l) ∧ w'.cell? ⟨w.heap.size, 2, none⟩ = some (.int .i64 c) ∧ w'.cell? ⟨w.heap.size, 3, none⟩ = some (.int .i64 m) ∧ w.heap.size + 1 < w'.heap.size ∧ Below w.heap.size w w'
theorem DiC.of {w : World} {x y b l c m : Int} {w' : World} (h : BoxL w' w.heap.size [.int .i64 b, .int .i64 l, .int .i64 c, .int .i64 m]) (h2 : BoxL w' (w.heap.size + 1) [.int .i64 x, .int .i64 y]) (hb : Below w.heap.size w w') : DiC w x y b l c m w' := by
  obtain ⟨c0, c1, c2, c3, _⟩ := h.c4
  obtain ⟨d0, d1, d2⟩ := h2.c2
  exact ⟨d0, d1, c0, c1, c2, c3, d2, hb⟩
theorem DiC.keep {w : World} {x y b l c m : Int} {w' w2 : World} (hb : Below w'.heap.size w' w2) (h : DiC w x y b l c m w') : DiC w x y b l c m w2 := by
  obtain ⟨h1, h2, h3, h4, h5, h6, h7, h8⟩ := h
  exact ⟨(hb.cell (p := ⟨w.heap.size + 1, 0, none⟩) h7).trans h1, (hb.cell (p := ⟨w.heap.size + 1, 1, none⟩) h7).trans h2, (hb.cell (p := ⟨w.heap.size, 0, none⟩) (by simp; omega)).trans h3, (hb.cell (p := ⟨w.heap.size, 1, none⟩) (by simp; omega)).trans h4, (hb.cell (p := ⟨w.heap.size, 2, none⟩) (by simp; omega)).trans h5, (hb.cell (p := ⟨w.heap.size, 3, none⟩) (by simp; omega)).trans h6, Nat.lt_of_lt_of_le h7 hb.size, bT h8 hb⟩
theorem DiC.drew {w : World} {x y b l c m : Int} {w' : World} (h : DiC w x y b l c m w') : DiC w x y b l c m w'.drew := h.keep (bR _).drew
theorem DiC.bel {w : World} {x y b l c m : Int} {w' : World} (h : DiC w x y b l c m w') : Below w.heap.size w w' := h.2.2.2.2.2.2.2
set_option maxHeartbeats 1000000 in
theorem driftIn_any (b l c m x y : Int) (w : World) (h : Rte b l c m) (hp : okSg (x, y) = true) :
    Calls Tryd.prog 43 #[.agg #[.int .i64 b, .int .i64 l, .int .i64 c, .int .i64 m], .agg #[.int .i64 x, .int .i64 y]] w (OneN (drS b l c m (x, y)) w) := by
  have CA := Lib.hid (fun W => atI_any b l c m y W h (okSg_bd hp).2)
  have hd := drS_bd h hp
  have hd2 : drS b l c m (x, y) = x * atR b l c m y := rfl
  rw [hd2] at hd ⊢
  clear hd2 h hp
  generalize atR b l c m y = r at *
  have g1 : IntKind.i64.wrap (x * r) = x * r := IntWalk.i64_in _ (by omega)
  have H0 := DiC.of (w := w) (x := x) (y := y) (b := b) (l := l) (c := c) (m := m) ((BoxL.new w [.int .i64 b, .int .i64 l, .int .i64 c, .int .i64 m] 36).alloc (.cells #[.int .i64 x, .int .i64 y] 48)) (BoxL.at_ (vs := [.int .i64 x, .int .i64 y]) (by simp)) (bA (bA (bR _) _) _)
  go_enter Tryd.func43, Tryd.ntmps43
  go_wp2_with fail
  generalize (w.alloc (.cells #[.int .i64 b, .int .i64 l, .int .i64 c, .int .i64 m] 36)).alloc (.cells #[.int .i64 x, .int .i64 y] 48) = W0 at *
  go_region_held3 (fun w' => w'.cell? ⟨w.heap.size + 1, 0, none⟩ = some (.int .i64 x) ∧ w'.cell? ⟨w.heap.size + 1, 1, none⟩ = some (.int .i64 y) ∧ w'.cell? ⟨w.heap.size, 0, none⟩ = some (.int .i64 b) ∧ w'.cell? ⟨w.heap.size, 1, none⟩ = some (.int .i64 l) ∧ w'.cell? ⟨w.heap.size, 2, none⟩ = some (.int .i64 c) ∧ w'.cell? ⟨w.heap.size, 3, none⟩ = some (.int .i64 m) ∧ w.heap.size + 1 < w'.heap.size ∧ Below w.heap.size w w') (first | exact H0.drew | assumption | exact DiC.keep hb (by assumption))
    ((go_at_call 48; refine (CA.out _).mono ?_; rintro en w' ⟨rfl, hb⟩))
  have HL := Lib.hid (DiC.bel (w := w) (x := x) (y := y) (b := b) (l := l) (c := c) (m := m) (w' := w') (by assumption))
  clear hb H0
  go_wp2_with fail
  go_ret
  exact ⟨rfl, HL.out⟩
theorem hoursI_any (x y : Int) (w : World) :
    Calls Tryd.prog 38 #[.agg #[.int .i64 x, .int .i64 y]] w (OneN (hrS (x, y)) w) := by
  go_enter Tryd.func38, Tryd.ntmps38
  go_wp2_with fail
  go_ret
  exact ⟨rfl, bA (bR _) _⟩
theorem seg_eta (ps : List (Int × Int)) (k : Nat) : ((pat ps k).1, (pat ps k).2) = pat ps k := rfl
set_option maxRecDepth 100000 in
set_option maxHeartbeats 2000000 in
theorem sumD_any (b l c m : Int) (ps : List (Int × Int)) (v : Value) (w : World) (ha : SlP w v ps) (h : Rte b l c m) (hp : okSl ps = true) :
    Calls Tryd.prog 36 #[v, .func (.func 43) #[.agg #[.int .i64 b, .int .i64 l, .int .i64 c, .int .i64 m]] #[]] w (OneN (smF (drS b l c m) ps) w) := by
  obtain ⟨ao, cap, rfl, ha⟩ := ha
  have HA := Lib.hid ha
  have HS := Lib.hid (sumD_bd h hp)
  have CA := Lib.hid (fun k (hk : k < ps.length) W => driftIn_any b l c m (pat ps k).1 (pat ps k).2 W h ((okSl_iff.1 hp).2 _ (pat_mem hk)))
  have hlen := (okSl_iff.1 hp).1
  clear ha hp
  go_enter Tryd.func36, Tryd.ntmps36
  go_wp2_with fail
  go_loopw [5, 10] (fun vs vi wr => ∃ k : Nat, k ≤ ps.length ∧ vi = .int .i64 k ∧ vs = .int .i64 (smF (drS b l c m) (ps.take k)) ∧ Below w.heap.size w wr) (fun _ vi _ => ps.length - (intOf vi).toNat)
  case atStart => exact ⟨0, Nat.zero_le _, rfl, by simp [smF], bR _⟩
  case round =>
    obtain ⟨k, hk, rfl, rfl, hbel⟩ := hrel
    have BL := Lib.hid hbel
    by_cases hlt : k < ps.length
    · obtain ⟨g, rfl, hg, hc⟩ := HA.out (by omega)
      obtain ⟨c1, c2⟩ := (hc.keep hg hbel) k hlt
      have C1 := Lib.hid (CA.out k hlt)
      have h0 := HS.out k
      have h1 := HS.out (k + 1)
      have HT := Lib.hid (smF_take (drS b l c m) hlt)
      rw [HT.out] at h1
      clear hc HA HS CA hbel
      generalize drS b l c m (pat ps k) = d at *
      generalize (pat ps k).1 = x at *
      generalize (pat ps k).2 = y at *
      generalize smF (drS b l c m) (ps.take k) = s at *
      go_wp2_with fail
      refine (C1.out _).mono ?_
      rintro en w2 ⟨rfl, hb⟩
      have BL2 := Lib.hid (bT (bA BL.out _) hb)
      clear hb c1 c2
      go_wp2_with fail
      go_roundw
      case rel => exact ⟨k + 1, by omega, by go_num, by rw [HT.out], BL2.out⟩
      case measure => simp [intOf]; omega
    · obtain rfl : k = ps.length := by omega
      rw [List.take_of_length_le (Nat.le_refl _)]
      go_wp2_with fail
      go_ret
      exact ⟨rfl, BL.out⟩
set_option maxRecDepth 100000 in
set_option maxHeartbeats 2000000 in
theorem sumH_any (ps : List (Int × Int)) (v : Value) (w : World) (ha : SlP w v ps) (hp : okSl ps = true) :
    Calls Tryd.prog 36 #[v, .func (.func 38) #[] #[]] w (OneN (smF hrS ps) w) := by
  obtain ⟨ao, cap, rfl, ha⟩ := ha
  have HA := Lib.hid ha
  have HS := Lib.hid (sumH_bd hp)
  have CA := Lib.hid (fun k (hk : k < ps.length) W => hoursI_any (pat ps k).1 (pat ps k).2 W)
  have hlen := (okSl_iff.1 hp).1
  clear ha hp
  go_enter Tryd.func36, Tryd.ntmps36
  go_wp2_with fail
  go_loopw [5, 10] (fun vs vi wr => ∃ k : Nat, k ≤ ps.length ∧ vi = .int .i64 k ∧ vs = .int .i64 (smF hrS (ps.take k)) ∧ Below w.heap.size w wr) (fun _ vi _ => ps.length - (intOf vi).toNat)
  case atStart => exact ⟨0, Nat.zero_le _, rfl, by simp [smF], bR _⟩
  case round =>
    obtain ⟨k, hk, rfl, rfl, hbel⟩ := hrel
    have BL := Lib.hid hbel
    by_cases hlt : k < ps.length
    · obtain ⟨g, rfl, hg, hc⟩ := HA.out (by omega)
      obtain ⟨c1, c2⟩ := (hc.keep hg hbel) k hlt
      have C1 := Lib.hid (CA.out k hlt)
      have h0 := HS.out k
      have h1 := HS.out (k + 1)
      have HT := Lib.hid (smF_take (hrS) hlt)
      rw [HT.out] at h1
      clear hc HA HS CA hbel
      generalize hrS (pat ps k) = d at *
      generalize (pat ps k).1 = x at *
      generalize (pat ps k).2 = y at *
      generalize smF (hrS) (ps.take k) = s at *
      go_wp2_with fail
      refine (C1.out _).mono ?_
      rintro en w2 ⟨rfl, hb⟩
      have BL2 := Lib.hid (bT (bA BL.out _) hb)
      clear hb c1 c2
      go_wp2_with fail
      go_roundw
      case rel => exact ⟨k + 1, by omega, by go_num, by rw [HT.out], BL2.out⟩
      case measure => simp [intOf]; omega
    · obtain rfl : k = ps.length := by omega
      rw [List.take_of_length_le (Nat.le_refl _)]
      go_wp2_with fail
      go_ret
      exact ⟨rfl, BL.out⟩
end Go.Proofs.YtpmelgdhcjnagaaDoor

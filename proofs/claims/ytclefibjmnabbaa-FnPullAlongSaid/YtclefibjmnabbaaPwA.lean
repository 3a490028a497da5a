/-
  Torque along a train: both sides.
-/
import Derived.Test.YtclefibjmnabbaaPwM
import Derived.Test.YtclefibjmnabbaaRaU
import Derived.Test.YtclefibjmnabbaaTrA
namespace Go.Proofs.Ytclefibjmnabbaa
open Go.RowKit

theorem row1 (w : World) (t : TypeId) (x : Int) : (w.alloc (.cells #[.int .i64 x] t)).ownsRow w.heap.size t 1 (.slice (some ⟨w.heap.size, 0, none⟩) 1 1) 1 [.int .i64 x] :=
  ⟨rfl, .inr ⟨w.heap.size, 1, #[.int .i64 x], rfl, Nat.le_refl _, (MapKept.heap_alloc w _).1, Nat.le_refl _, by unfold maxLen; omega, rfl, rfl⟩⟩
def PaR (l q : Int) (ps : List (Int × Int)) (w : World) (vq vo vi : Value) (wr : World) : Prop :=
  ∃ k : Nat, k ≤ ps.length ∧ vi = .int .i64 k ∧ vq = .int .i64 (paV l q (ps.take k)) ∧ wr.ownsRow w.heap.size 2 1 vo (paK l q ps k).length (intC (paK l q ps k)) ∧ Below w.heap.size w wr
set_option maxRecDepth 100000 in
set_option maxHeartbeats 4000000 in
theorem l13Along_any (l q : Int) (ps : List (Int × Int)) (v : Value) (w : World) (ha : SlP w v ps) (hp : okT ps = true) (hl : 0 ≤ l ∧ l ≤ 1000) (hq : 0 ≤ q ∧ q ≤ 1000000) :
    Calls Try.prog 42 #[v, .int .i64 q, .int .i64 l] w (NumsB (paK l q ps ps.length) w) := by
  obtain ⟨ao, cap, rfl, ha⟩ := ha
  have HA := Lib.hid ha
  have HV := Lib.hid (fun k (hk : k < ps.length) => paV_lim hp hl hq (k := k) hk)
  have HP := Lib.hid (fun k (hk : k < ps.length) => okT_at hp hk)
  have hlen := (okT_iff.1 hp).1
  have R0 := Lib.hid (row1 w 2 q)
  have L0 := Lib.hid (bA (bR w) (.cells #[.int .i64 q] 2))
  have hz := Lib.hid (paK_zero l q ps)
  clear ha hp hq
  go_enter Try.func42, Try.ntmps42
  go_wp2_with fail
  generalize w.alloc (.cells #[.int .i64 q] 2) = W0 at *
  go_loopw [1, 7, 8] (fun vq vo vi wr => PaR l q ps w vq vo vi wr) (fun _ _ vi _ => ps.length - (intOf vi).toNat)
  case atStart => exact ⟨0, Nat.zero_le _, rfl, rfl, by rw [hz.out]; exact R0.out, L0.out⟩
  case round =>
    obtain ⟨k, hk, rfl, rfl, hrow, hbel⟩ := hrel
    have RW := Lib.hid hrow
    have BL := Lib.hid hbel
    clear R0 L0 hz
    by_cases hlt : k < ps.length
    · obtain ⟨g, rfl, hg, hc⟩ := HA.out (by omega)
      obtain ⟨c1, c2⟩ := (hc.keep hg hbel) k hlt
      have hv := HV.out k hlt
      have hxy := HP.out k hlt
      have HT := Lib.hid (paV_take (l := l) (q := q) hlt)
      have HN := Lib.hid (paK_succ l q ps k)
      have HL := Lib.hid (paK_len l q ps k)
      rw [HT.out] at HN
      obtain ⟨⟨m1, m2⟩, m3, m4⟩ := paG_bd hv.1 hv.2 hxy
      obtain ⟨⟨m5, m6⟩, m7, m8⟩ := paS_bd hl hv.1 hv.2 hxy
      have HE := Lib.hid (show paS l (paV l q (ps.take k)) (pat ps k) = paV l q (ps.take k) * (pat ps k).2 / (pat ps k).1 * (1000 - l) / 1000 from rfl)
      rw [HE.out] at HT HN
      unfold paS at m7 m8
      unfold paG at m3 m4 m5 m6 m7 m8
      clear hc HA HV HP hrow hbel HE
      generalize paV l q (ps.take k) = t at *
      generalize (pat ps k).1 = x at *
      generalize (pat ps k).2 = y at *
      have hx0 : ¬ x = 0 := by omega
      have hxz : (x == 0) = false := beq_eq_false_iff_ne.2 hx0
      have g1 : IntKind.i64.wrap (t * y) = t * y := IntWalk.i64_in _ (by omega)
      generalize hz1 : t * y = z1 at *
      have g2 : IntKind.i64.wrap (z1 / x) = z1 / x := IntWalk.i64_in _ (by omega)
      generalize hz2 : z1 / x = z2 at *
      have g3 : IntKind.i64.wrap (1000 - l) = 1000 - l := IntWalk.i64_in _ (by omega)
      have g4 : IntKind.i64.wrap (z2 * (1000 - l)) = z2 * (1000 - l) := IntWalk.i64_in _ (by omega)
      have hsz := BL.out.size
      have HB := Lib.hid (show w.heap.size ≤ wr.heap.size from hsz)
      have hll := HL.out
      go_wp2_with fail
      go_quiet (fail)
      have RQ := Lib.hid (own_keep RW.out (bD (bR wr) nq))
      have BQ := Lib.hid (bD BL.out nq)
      clear RW BL c1 c2
      generalize wr.drewN nq = w2 at *
      have hB2 := BQ.out.size
      go_wp2_with (at_builtin; refine app64w rfl _ _ rfl _ _ (z2 * (1000 - l) / 1000) rfl RQ.out hB2 (by first | (show Value.slice (some ⟨w2.heap.size, 0, none⟩) 1 1 = _; rfl) | (show Value.slice (some ⟨wr.heap.size + 1, 0, none⟩) 1 1 = _; simp)) (by omega) ?_)
      intro v' w3 hown hap
      have RW3 := Lib.hid hown
      have BL3 := Lib.hid (BQ.out.trans (hap.below (fun r e => (own_blk RQ.out r e).1) hB2))
      clear hown hap RQ BQ
      go_wp2_with fail
      go_roundw
      case rel => exact ⟨k + 1, by omega, by go_num, by rw [HT.out], by rw [HN.out, List.length_append, HL.out]; exact RW3.out, BL3.out⟩
      case measure => simp [intOf]; omega
    · obtain rfl : k = ps.length := by omega
      clear hrow hbel
      go_wp2_with fail
      go_ret
      exact ⟨_, rfl, RW.out, BL.out⟩
set_option maxRecDepth 100000 in
set_option maxHeartbeats 4000000 in
theorem pullsAlong_any (l q : Int) (ps : List (Int × Int)) (v : Value) (w : World) (ha : SlP w v ps) (hp : okT ps = true) (hl : 0 ≤ l ∧ l ≤ 1000) (hq : 0 ≤ q ∧ q ≤ 1000000) :
    Calls Try.prog 45 #[v, .int .i64 q, .int .i64 l] w (NumsB (paK l q ps ps.length) w) := by
  obtain ⟨ao, cap, rfl, ha⟩ := ha
  have HA := Lib.hid ha
  have HV := Lib.hid (fun k (hk : k < ps.length) => paV_lim hp hl hq (k := k) hk)
  have HP := Lib.hid (fun k (hk : k < ps.length) => okT_at hp hk)
  have hlen := (okT_iff.1 hp).1
  have R0 := Lib.hid (row1 w 2 q)
  have L0 := Lib.hid (bA (bR w) (.cells #[.int .i64 q] 2))
  have hz := Lib.hid (paK_zero l q ps)
  clear ha hp hq
  go_enter Try.func45, Try.ntmps45
  go_wp2_with fail
  generalize w.alloc (.cells #[.int .i64 q] 2) = W0 at *
  go_loopw [1, 7, 14] (fun vq vo vi wr => PaR l q ps w vq vo vi wr) (fun _ _ vi _ => ps.length - (intOf vi).toNat)
  case atStart => exact ⟨0, Nat.zero_le _, rfl, rfl, by rw [hz.out]; exact R0.out, L0.out⟩
  case round =>
    obtain ⟨k, hk, rfl, rfl, hrow, hbel⟩ := hrel
    have RW := Lib.hid hrow
    have BL := Lib.hid hbel
    clear R0 L0 hz
    by_cases hlt : k < ps.length
    · obtain ⟨g, rfl, hg, hc⟩ := HA.out (by omega)
      obtain ⟨c1, c2⟩ := (hc.keep hg hbel) k hlt
      have hv := HV.out k hlt
      have hxy := HP.out k hlt
      have HT := Lib.hid (paV_take (l := l) (q := q) hlt)
      have HN := Lib.hid (paK_succ l q ps k)
      have HL := Lib.hid (paK_len l q ps k)
      rw [HT.out] at HN
      obtain ⟨⟨m1, m2⟩, m3, m4⟩ := paG_bd hv.1 hv.2 hxy
      obtain ⟨⟨m5, m6⟩, m7, m8⟩ := paS_bd hl hv.1 hv.2 hxy
      have HE := Lib.hid (show paS l (paV l q (ps.take k)) (pat ps k) = paV l q (ps.take k) * (pat ps k).2 / (pat ps k).1 * (1000 - l) / 1000 from rfl)
      rw [HE.out] at HT HN
      unfold paS at m7 m8
      unfold paG at m3 m4 m5 m6 m7 m8
      clear hc HA HV HP hrow hbel HE
      generalize paV l q (ps.take k) = t at *
      generalize (pat ps k).1 = x at *
      generalize (pat ps k).2 = y at *
      have hx0 : ¬ x = 0 := by omega
      have hxz : (x == 0) = false := beq_eq_false_iff_ne.2 hx0
      have g1 : IntKind.i64.wrap (t * y) = t * y := IntWalk.i64_in _ (by omega)
      generalize hz1 : t * y = z1 at *
      have g2 : IntKind.i64.wrap (z1 / x) = z1 / x := IntWalk.i64_in _ (by omega)
      generalize hz2 : z1 / x = z2 at *
      have g3 : IntKind.i64.wrap (1000 - l) = 1000 - l := IntWalk.i64_in _ (by omega)
      have g4 : IntKind.i64.wrap (z2 * (1000 - l)) = z2 * (1000 - l) := IntWalk.i64_in _ (by omega)
      have hsz := BL.out.size
      have HB := Lib.hid (show w.heap.size ≤ wr.heap.size from hsz)
      have hll := HL.out
      have RQ := Lib.hid (own_keep RW.out (bA (bR wr) (.cells #[.int .i64 x, .int .i64 y] 67)))
      have BQ := Lib.hid (bA BL.out (.cells #[.int .i64 x, .int .i64 y] 67))
      have hB2 := BQ.out.size
      go_wp2_with (at_builtin; refine app64w rfl _ _ rfl _ _ (z2 * (1000 - l) / 1000) rfl RQ.out hB2 (by first | (show Value.slice (some ⟨w2.heap.size, 0, none⟩) 1 1 = _; rfl) | (show Value.slice (some ⟨wr.heap.size + 1, 0, none⟩) 1 1 = _; simp)) (by omega) ?_)
      intro v' w3 hown hap
      have RW3 := Lib.hid hown
      have BL3 := Lib.hid (BQ.out.trans (hap.below (fun r e => (own_blk RQ.out r e).1) hB2))
      clear hown hap RQ BQ
      go_wp2_with fail
      go_roundw
      case rel => exact ⟨k + 1, by omega, by go_num, by rw [HT.out], by rw [HN.out, List.length_append, HL.out]; exact RW3.out, BL3.out⟩
      case measure => simp [intOf]; omega
    · obtain rfl : k = ps.length := by omega
      clear hrow hbel
      go_wp2_with fail
      go_ret
      exact ⟨_, rfl, RW.out, BL.out⟩
end Go.Proofs.Ytclefibjmnabbaa

/-
  Drifts, worst segments, best bases: the document's side.
-/
import Derived.Test.YtpmelgdhcjnagaaDoorRaT
import Derived.Test.YtpmelgdhcjnagaaDoorRaN
import Derived.Test.YtpmelgdhcjnagaaDoorApd
namespace Go.Proofs.YtpmelgdhcjnagaaDoor
open Go.RowKit

/-- A rate's box, cell by cell. -/
def RtC5 (b0 : Nat) (w : World) (b l c m : Int) (w' : World) : Prop :=
  w'.cell? ⟨b0, 0, none⟩ = some (.int .i64 b) ∧ w'.cell? ⟨b0, 1, none⟩ = some (.int .i64 l) ∧ w'.cell? ⟨b0, 2, none⟩ = some (.int .i64 c) ∧ w'.cell? ⟨b0, 3, none⟩ = some (.int .i64 m) ∧ Below w.heap.size w w'
theorem RtC5.of {b0 : Nat} {w : World} {b l c m : Int} {w' : World} (h : BoxL w b0 [.int .i64 b, .int .i64 l, .int .i64 c, .int .i64 m]) (hb : Below w.heap.size w w') : RtC5 b0 w b l c m w' := by
  obtain ⟨c0, c1, c2, c3, _⟩ := (h.keep hb).c4
  exact ⟨c0, c1, c2, c3, hb⟩
theorem RtC5.bel {b0 : Nat} {w : World} {b l c m : Int} {w' : World} (h : RtC5 b0 w b l c m w') : Below w.heap.size w w' := h.2.2.2.2
def SlC (ts : List Int) (c : Int) (w : World) (e : Ending) (w' : World) : Prop := ∃ v, e = .returned (.tuple #[v, .int .i64 c]) ∧ w'.ownsRow w.heap.size 2 1 v ts.length (intC ts) ∧ Below w.heap.size w w'
set_option maxHeartbeats 1000000 in
theorem l12Hours_any (ps : List (Int × Int)) (v : Value) (w : World) (ha : SlP w v ps) (hp : okSl ps = true) :
    Calls Tryd.prog 33 #[v] w fun e w' => e = .returned (.int .i64 (smF hrS ps)) ∧ w = w' := by
  obtain ⟨ao, cap, rfl, ha⟩ := ha
  have HA := Lib.hid ha
  have HS := Lib.hid (sumH_bd hp)
  have hlen := (okSl_iff.1 hp).1
  clear ha hp
  go_enter Tryd.func33, Tryd.ntmps33
  go_wp2_with fail
  go_loop [3, 4] (fun vs vi => ∃ k : Nat, k ≤ ps.length ∧ vi = .int .i64 k ∧ vs = .int .i64 (smF hrS (ps.take k))) (fun _ vi => ps.length - (intOf vi).toNat)
  case atStart => exact ⟨0, Nat.zero_le _, rfl, by simp [smF]⟩
  case round =>
    obtain ⟨k, hk, rfl, rfl⟩ := hrel
    by_cases hlt : k < ps.length
    · obtain ⟨g, rfl, hg, hc⟩ := HA.out (by omega)
      obtain ⟨c1, c2⟩ := hc k hlt
      have h0 := HS.out k
      have h1 := HS.out (k + 1)
      have HT := Lib.hid (smF_take hrS hlt)
      have hd : hrS (pat ps k) = (pat ps k).1 := rfl
      rw [HT.out, hd] at h1
      rw [hd] at HT
      clear hc HA hd HS
      generalize (pat ps k).1 = x at *
      generalize smF hrS (ps.take k) = s at *
      go_wp2_with fail
      go_round
      case rel => exact ⟨k + 1, by omega, by go_num, by rw [HT.out]⟩
      case measure => simp [intOf]; omega
    · obtain rfl : k = ps.length := by omega
      rw [List.take_of_length_le (Nat.le_refl _)]
      go_wp2_with fail
      go_ret
      exact ⟨rfl, rfl⟩
end Go.Proofs.YtpmelgdhcjnagaaDoor

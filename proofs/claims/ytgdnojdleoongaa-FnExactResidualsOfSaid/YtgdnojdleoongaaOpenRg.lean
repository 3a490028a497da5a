/-
  An argument that is a slice of readings, opened.
-/
import Derived.Test.YtgdnojdleoongaaOpenP
import Derived.Test.YtgdnojdleoongaaRgQ
namespace Go.Proofs.Ytgdnojdleoongaa
open Go.RowKit Go.Deep Go.ChangeShapes

theorem isRg_open {H : Type} {enc : TypeId × Value → H} {W : World} {a : Option Addr} {len cap fuel : Nat} {x : DataW H × List MemPlace}
    (h : DataW.trod enc Try.prog W 0 (fun _ => true) true fuel 22 [.slice a len cap] = some x) : ∃ ps, IsPR W a len cap ps := by
  rcases open_slice_pairs Try.underlying22 Try.underlying53 (by kernel_rfl) rfl rfl (by kernel_rfl) (by kernel_rfl) h with ⟨hcs, _⟩ | ⟨ad, l, c, m, n, V0, V1, D0, D1, P0, P1, hcs, _, hl, hm, hmm, _, hx⟩
  · simp at hcs
    obtain ⟨rfl, rfl, rfl⟩ := hcs
    exact ⟨[], ⟨Nat.le_refl _, Nat.zero_le _⟩, rfl, fun p hp => by simp at hp, fun i hi => absurd hi (Nat.not_lt_zero _)⟩
  · simp at hcs
    obtain ⟨rfl, rfl, rfl⟩ := hcs
    have hm' : m = cap := by simpa using hmm
    have each : ∀ i, i < len → (∃ y, V0 i = .int .i64 y ∧ -9223372036854775808 ≤ y ∧ y ≤ 9223372036854775807) ∧ ∃ z, V1 i = .int .i64 z ∧ -9223372036854775808 ≤ z ∧ z ≤ 9223372036854775807 := by
      intro i hi
      obtain ⟨_, _, h3, h4⟩ := hx i (by omega)
      obtain ⟨y, e1, _, wy⟩ := DataW.trod_int Try.underlying2 h3
      obtain ⟨z, e2, _, wz⟩ := DataW.trod_int Try.underlying2 h4
      exact ⟨⟨y, by simpa using e1, i64_lim wy⟩, ⟨z, by simpa using e2, i64_lim wz⟩⟩
    refine ⟨(List.range len).map fun i => (numOf (V0 i), numOf (V1 i)), ⟨hl, hm⟩, by simp, ?_, ?_⟩
    · intro p hp
      obtain ⟨i, hi, rfl⟩ := List.mem_map.1 hp
      obtain ⟨⟨y, e1, b1⟩, ⟨z, e2, b2⟩⟩ := each i (List.mem_range.1 hi)
      simp only [e1, e2, numOf]
      exact ⟨b1, b2⟩
    · intro i hi
      obtain ⟨h1, h2, _, _⟩ := hx i (by omega)
      obtain ⟨⟨y, e1, b1⟩, ⟨z, e2, b2⟩⟩ := each i hi
      have e : pat ((List.range len).map fun i => (numOf (V0 i), numOf (V1 i))) i = (y, z) := by
        unfold pat; rw [List.getElem?_map, List.getElem?_range hi]; simp [e1, e2, numOf]
      rw [e]
      rw [e1] at h1
      rw [e2] at h2
      have h0 := (hx 0 (by omega)).1
      obtain ⟨b, o, spot⟩ := ad
      have hspot : spot = none := by simpa [Addr.add] using World.cell?_spot h0
      subst hspot
      rw [Go.WideShapes.add_plain] at h1 h2
      exact ⟨b, o, rfl, ltP_of_cell h1, h1, by rw [Nat.add_assoc]; exact h2⟩
end Go.Proofs.Ytgdnojdleoongaa

/-
  An argument that is a slice of bends, and a struct of one, opened.
-/
import Derived.Test.YtdjnopffglcfmaaOpenP
import Derived.Test.YtdjnopffglcfmaaBdQ
import Derived.Lib.SmallJoins
namespace Go.Proofs.Ytdjnopffglcfmaa
open Go.RowKit Go.Deep Go.ChangeShapes Go.WideShapes Go.Joins

theorem isBd_open {H : Type} {enc : TypeId × Value → H} {W : World} {a : Option Addr} {len cap fuel : Nat} {x : DataW H × List MemPlace}
    (h : DataW.trod enc Try.prog W 0 (fun _ => true) true fuel 22 [.slice a len cap] = some x) : ∃ ps, IsPR W a len cap ps := by
  rcases open_slice_pairs Try.underlying22 Try.underlying53 (by kernel_rfl) rfl rfl (by kernel_rfl) (by kernel_rfl) h with ⟨hcs, _⟩ | ⟨ad, l, c, m, n, V0, V1, D0, D1, P0, P1, hcs, _, hl, hm, hmm, _, hx⟩
  · simp at hcs
    obtain ⟨rfl, rfl, rfl⟩ := hcs
    exact ⟨[], ⟨Nat.le_refl _, Nat.zero_le _⟩, rfl, fun p hp => by simp at hp, fun i hi => absurd hi (Nat.not_lt_zero _)⟩
  · simp at hcs
    obtain ⟨rfl, rfl, rfl⟩ := hcs
    have hm' : m = cap := by simpa using hmm
    have each : ∀ i, i < len → (∃ y, V0 i = .int .i64 y ∧ -9223372036854775808 ≤ y ∧ y ≤ 9223372036854775807) ∧ ∃ z, V1 i = .int .i64 z ∧ -9223372036854775808 ≤ z ∧ z ≤ 9223372036854775807 := by
      intro i hi
      obtain ⟨_, _, h3, h4⟩ := hx i (by omega)
      obtain ⟨y, e1, _, wy⟩ := DataW.trod_int Try.underlying2 h3
      obtain ⟨z, e2, _, wz⟩ := DataW.trod_int Try.underlying2 h4
      exact ⟨⟨y, by simpa using e1, i64_lim wy⟩, ⟨z, by simpa using e2, i64_lim wz⟩⟩
    refine ⟨(List.range len).map fun i => (numOf (V0 i), numOf (V1 i)), ⟨hl, hm⟩, by simp, ?_, ?_⟩
    · intro p hp
      obtain ⟨i, hi, rfl⟩ := List.mem_map.1 hp
      obtain ⟨⟨y, e1, b1⟩, ⟨z, e2, b2⟩⟩ := each i (List.mem_range.1 hi)
      simp only [e1, e2, numOf]
      exact ⟨b1, b2⟩
    · intro i hi
      obtain ⟨h1, h2, _, _⟩ := hx i (by omega)
      obtain ⟨⟨y, e1, b1⟩, ⟨z, e2, b2⟩⟩ := each i hi
      have e : pat ((List.range len).map fun i => (numOf (V0 i), numOf (V1 i))) i = (y, z) := by
        unfold pat; rw [List.getElem?_map, List.getElem?_range hi]; simp [e1, e2, numOf]
      rw [e]
      rw [e1] at h1
      rw [e2] at h2
      have h0 := (hx 0 (by omega)).1
      obtain ⟨b, o, spot⟩ := ad
      have hspot : spot = none := by simpa [Addr.add] using World.cell?_spot h0
      subst hspot
      rw [Go.WideShapes.add_plain] at h1 h2
      exact ⟨b, o, rfl, ltP_of_cell h1, h1, by rw [Nat.add_assoc]; exact h2⟩

set_option maxRecDepth 100000 in
theorem spring_open {H : Type} {enc : TypeId × Value → H} {W : World} {r : Reach} {b0 : Nat} {v : Value} {d : DataW H} {p : List MemPlace}
    (hv : Value.okWide Try.prog W r b0 24 v) (h : DataW.Trod enc Try.prog W 0 (fun _ => true) true 24 v d p) :
    ∃ (a : Option Addr) (len cap : Nat) (ps : List (Int × Int)), v = .agg #[.slice a len cap] ∧ IsPR W a len cap ps := by
  obtain ⟨cs, rfl, hsz⟩ := okWide_struct Try.underlying24 hv
  rw [show Try.prog.cellsOf 24 = 1 by kernel_rfl] at hsz
  obtain ⟨c0, rfl⟩ : ∃ c, cs = #[c] := by
    obtain ⟨l⟩ := cs
    match l, hsz with
    | [c], _ => exact ⟨c, rfl⟩
  obtain ⟨fuel, hf⟩ := h
  obtain ⟨xs, n, _, _, _, hlen, hg⟩ := DataW.trod_struct Try.underlying24 hf
  have h0' : DataW.trod enc Try.prog W 0 (fun _ => true) true n 22 (List.take (Try.prog.cellsOf 22) (List.drop 0 [c0])) = xs[0]? := hg 0 _ rfl
  have s0 : 0 < xs.length := by rw [hlen]; decide
  rw [show Try.prog.cellsOf 22 = 1 by kernel_rfl, List.getElem?_eq_getElem s0] at h0'
  simp only [List.drop_zero, List.take_succ_cons, List.take_zero] at h0'
  obtain ⟨a, len, cap, rfl⟩ : ∃ a len cap, c0 = .slice a len cap := by
    rcases open_slice_pairs Try.underlying22 Try.underlying53 (by kernel_rfl) rfl rfl (by kernel_rfl) (by kernel_rfl) h0' with ⟨hcs, _⟩ | ⟨ad, l, c, m, n, V0, V1, D0, D1, P0, P1, hcs, _⟩
    · exact ⟨_, _, _, by simpa using hcs⟩
    · exact ⟨_, _, _, by simpa using hcs⟩
  obtain ⟨ps, hps⟩ := isBd_open h0'
  exact ⟨a, len, cap, ps, rfl, hps⟩
end Go.Proofs.Ytdjnopffglcfmaa

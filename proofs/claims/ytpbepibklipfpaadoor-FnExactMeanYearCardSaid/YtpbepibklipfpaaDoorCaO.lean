/-
  An argument that is a calendar, opened.
-/
import Derived.Test.YtpbepibklipfpaaDoorCaT
import Derived.Test.YtpbepibklipfpaaDoorOpenP
import Derived.Lib.SmallJoins
namespace Go.Proofs.YtpbepibklipfpaaDoor
open Go.RowKit Go.Deep Go.ChangeShapes Go.WideShapes Go.Joins

set_option maxRecDepth 100000 in
theorem mo_open {H : Type} {enc : TypeId × Value → H} {W : World} {v : Value} {fuel : Nat} {x : DataW H × List MemPlace}
    (h : DataW.trod enc Tryd.prog W 0 (fun _ => true) true fuel 22 [v] = some x) : ∃ q, SlMo W v q := by
  rcases open_slice Tryd.underlying22 h with ⟨hcs, _⟩ | ⟨ad, l, c, m, n, D, Pl, hcs, _, hl, hm, hmm, _, hx⟩
  · simp at hcs
    obtain rfl := hcs
    exact ⟨[], ⟨none, 0, rfl, ⟨Nat.le_refl _, Nat.zero_le _⟩, fun h => absurd h (by simp)⟩, fun i hi => absurd hi (Nat.not_lt_zero _)⟩
  · simp at hcs
    obtain rfl := hcs
    have hm' : m = c := by simpa using hmm
    rw [show Tryd.prog.cellsOf 109 = 3 by kernel_rfl] at hx
    have each : ∀ i, i < l → ∃ q : Mo, W.cell? (ad.add (i * 3)) = some (moT q).1 ∧ W.cell? (ad.add (i * 3 + 1)) = some (moT q).2.1 ∧ W.cell? (ad.add (i * 3 + 2)) = some (moT q).2.2 ∧ q.nm.size ≤ maxLen := by
      intro i hi
      obtain ⟨cs', h1, h2⟩ := hx i (by omega)
      obtain ⟨_, hlen, hcell⟩ := World.cells?_some h1
      obtain ⟨xs, k, _, _, _, hxl, hf⟩ := DataW.trod_struct Tryd.underlying109 h2
      have f0 : DataW.trod enc Tryd.prog W 0 (fun _ => true) true k 9 (List.take (Tryd.prog.cellsOf 9) (List.drop 0 cs')) = xs[0]? := hf 0 _ rfl
      have f1 : DataW.trod enc Tryd.prog W 0 (fun _ => true) true k 2 (List.take (Tryd.prog.cellsOf 2) (List.drop 1 cs')) = xs[1]? := hf 1 _ rfl
      have f2 : DataW.trod enc Tryd.prog W 0 (fun _ => true) true k 2 (List.take (Tryd.prog.cellsOf 2) (List.drop 2 cs')) = xs[2]? := hf 2 _ rfl
      rw [show Tryd.prog.cellsOf 9 = 1 by kernel_rfl] at f0
      rw [show Tryd.prog.cellsOf 2 = 1 by kernel_rfl] at f1
      rw [show Tryd.prog.cellsOf 2 = 1 by kernel_rfl] at f2
      have hxl' : xs.length = 3 := hxl
      match cs', hlen with
      | [v0, v1, v2], _ =>
        rw [List.getElem?_eq_getElem (by omega)] at f0 f1 f2
        simp only [List.drop_zero, List.take_succ_cons, List.take_zero, List.drop_succ_cons] at f0 f1 f2
        obtain ⟨s0, q0, _, hs⟩ := DataW.trod_string Tryd.underlying9 f0
        obtain ⟨s1, q1, _, _⟩ := DataW.trod_int Tryd.underlying2 f1
        obtain ⟨s2, q2, _, _⟩ := DataW.trod_int Tryd.underlying2 f2
        simp at q0 q1 q2
        subst q0 q1 q2
        have e0 := hcell 0 (by omega)
        have e1 := hcell 1 (by omega)
        have e2 := hcell 2 (by omega)
        rw [add_add] at e0 e1 e2
        exact ⟨⟨s0, s1, s2⟩, by simpa [moT] using e0, by simpa [moT] using e1, by simpa [moT] using e2, hs⟩
    obtain ⟨q, hq⟩ := choose_lt each
    have hlen : (((List.range l).map q).map moT).length = l := by simp
    have E : ∀ i, i < l → moAt ((List.range l).map q) i = q i := fun i hi => by unfold moAt; rw [List.getElem?_map, List.getElem?_range hi]; rfl
    refine ⟨(List.range l).map q, ⟨some ad, c, by rw [hlen], by rw [hlen]; exact ⟨hl, by omega⟩, fun h1 => ?_⟩, fun i hi => by rw [E i (by simpa using hi)]; exact (hq i (by simpa using hi)).2.2.2⟩
    rw [hlen] at h1
    obtain ⟨b, o, spot⟩ := ad
    have hspot : spot = none := by simpa [Addr.add] using World.cell?_spot (hq 0 (by omega)).1
    subst hspot
    refine ⟨b, o, rfl, ?_, fun i hi => ?_⟩
    · have := (hq 0 (by omega)).1
      rw [Go.WideShapes.add_plain] at this
      exact ltP_of_cell this
    · rw [hlen] at hi
      rw [moT_at (by simpa using hi), E i hi]
      obtain ⟨h1, h2, h3, _⟩ := hq i hi
      rw [Go.WideShapes.add_plain] at h1 h2 h3
      exact ⟨h1, by rw [Nat.add_assoc]; exact h2, by rw [Nat.add_assoc]; exact h3⟩
set_option maxRecDepth 100000 in
theorem ru_open {H : Type} {enc : TypeId × Value → H} {W : World} {v : Value} {fuel : Nat} {x : DataW H × List MemPlace}
    (h : DataW.trod enc Tryd.prog W 0 (fun _ => true) true fuel 23 [v] = some x) : ∃ q, SlRu W v q := by
  rcases open_slice Tryd.underlying23 h with ⟨hcs, _⟩ | ⟨ad, l, c, m, n, D, Pl, hcs, _, hl, hm, hmm, _, hx⟩
  · simp at hcs
    obtain rfl := hcs
    exact ⟨[], none, 0, rfl, ⟨Nat.le_refl _, Nat.zero_le _⟩, fun h => absurd h (by simp)⟩
  · simp at hcs
    obtain rfl := hcs
    have hm' : m = c := by simpa using hmm
    rw [show Tryd.prog.cellsOf 119 = 3 by kernel_rfl] at hx
    have each : ∀ i, i < l → ∃ q : Ru, W.cell? (ad.add (i * 3)) = some (ruT q).1 ∧ W.cell? (ad.add (i * 3 + 1)) = some (ruT q).2.1 ∧ W.cell? (ad.add (i * 3 + 2)) = some (ruT q).2.2 := by
      intro i hi
      obtain ⟨cs', h1, h2⟩ := hx i (by omega)
      obtain ⟨_, hlen, hcell⟩ := World.cells?_some h1
      obtain ⟨xs, k, _, _, _, hxl, hf⟩ := DataW.trod_struct Tryd.underlying119 h2
      have f0 : DataW.trod enc Tryd.prog W 0 (fun _ => true) true k 2 (List.take (Tryd.prog.cellsOf 2) (List.drop 0 cs')) = xs[0]? := hf 0 _ rfl
      have f1 : DataW.trod enc Tryd.prog W 0 (fun _ => true) true k 2 (List.take (Tryd.prog.cellsOf 2) (List.drop 1 cs')) = xs[1]? := hf 1 _ rfl
      have f2 : DataW.trod enc Tryd.prog W 0 (fun _ => true) true k 4 (List.take (Tryd.prog.cellsOf 4) (List.drop 2 cs')) = xs[2]? := hf 2 _ rfl
      rw [show Tryd.prog.cellsOf 2 = 1 by kernel_rfl] at f0
      rw [show Tryd.prog.cellsOf 2 = 1 by kernel_rfl] at f1
      rw [show Tryd.prog.cellsOf 4 = 1 by kernel_rfl] at f2
      have hxl' : xs.length = 3 := hxl
      match cs', hlen with
      | [v0, v1, v2], _ =>
        rw [List.getElem?_eq_getElem (by omega)] at f0 f1 f2
        simp only [List.drop_zero, List.take_succ_cons, List.take_zero, List.drop_succ_cons] at f0 f1 f2
        obtain ⟨s0, q0, _, _⟩ := DataW.trod_int Tryd.underlying2 f0
        obtain ⟨s1, q1, _, _⟩ := DataW.trod_int Tryd.underlying2 f1
        obtain ⟨s2, q2, _⟩ := DataW.trod_bool Tryd.underlying4 f2
        simp at q0 q1 q2
        subst q0 q1 q2
        have e0 := hcell 0 (by omega)
        have e1 := hcell 1 (by omega)
        have e2 := hcell 2 (by omega)
        rw [add_add] at e0 e1 e2
        exact ⟨⟨s0, s1, s2⟩, by simpa [ruT] using e0, by simpa [ruT] using e1, by simpa [ruT] using e2⟩
    obtain ⟨q, hq⟩ := choose_lt each
    have hlen : (((List.range l).map q).map ruT).length = l := by simp
    have E : ∀ i, i < l → ruAt ((List.range l).map q) i = q i := fun i hi => by unfold ruAt; rw [List.getElem?_map, List.getElem?_range hi]; rfl
    refine ⟨(List.range l).map q, some ad, c, by rw [hlen], by rw [hlen]; exact ⟨hl, by omega⟩, fun h1 => ?_⟩
    rw [hlen] at h1
    obtain ⟨b, o, spot⟩ := ad
    have hspot : spot = none := by simpa [Addr.add] using World.cell?_spot (hq 0 (by omega)).1
    subst hspot
    refine ⟨b, o, rfl, ?_, fun i hi => ?_⟩
    · have := (hq 0 (by omega)).1
      rw [Go.WideShapes.add_plain] at this
      exact ltP_of_cell this
    · rw [hlen] at hi
      rw [ruT_at (by simpa using hi), E i hi]
      obtain ⟨h1, h2, h3⟩ := hq i hi
      rw [Go.WideShapes.add_plain] at h1 h2 h3
      exact ⟨h1, by rw [Nat.add_assoc]; exact h2, by rw [Nat.add_assoc]; exact h3⟩
theorem array4q {cs : Array Value} (h : cs.size = 4) : ∃ a b c d, cs = #[a, b, c, d] := by
  obtain ⟨l⟩ := cs
  match l, h with
  | [a, b, c, d], _ => exact ⟨a, b, c, d, rfl⟩
set_option maxRecDepth 100000 in
theorem cal_open {H : Type} {enc : TypeId × Value → H} {W : World} {r : Reach} {b0 : Nat} {v : Value} {d : DataW H} {p : List MemPlace}
    (hv : Value.okWide Tryd.prog W r b0 25 v) (h : DataW.Trod enc Tryd.prog W 0 (fun _ => true) true 25 v d p) : ∃ c, IsC W v c := by
  obtain ⟨cs, rfl, hsz⟩ := okWide_struct Tryd.underlying25 hv
  rw [show Tryd.prog.cellsOf 25 = 4 by kernel_rfl] at hsz
  obtain ⟨c0, c1, c2, c3, rfl⟩ := array4q hsz
  obtain ⟨fuel, hf⟩ := h
  obtain ⟨xs, n, _, _, _, hlen, hg⟩ := DataW.trod_struct Tryd.underlying25 hf
  have h0' : DataW.trod enc Tryd.prog W 0 (fun _ => true) true n 9 (List.take (Tryd.prog.cellsOf 9) (List.drop 0 [c0, c1, c2, c3])) = xs[0]? := hg 0 _ rfl
  have h1' : DataW.trod enc Tryd.prog W 0 (fun _ => true) true n 22 (List.take (Tryd.prog.cellsOf 22) (List.drop 1 [c0, c1, c2, c3])) = xs[1]? := hg 1 _ rfl
  have h2' : DataW.trod enc Tryd.prog W 0 (fun _ => true) true n 23 (List.take (Tryd.prog.cellsOf 23) (List.drop 2 [c0, c1, c2, c3])) = xs[2]? := hg 2 _ rfl
  have h3' : DataW.trod enc Tryd.prog W 0 (fun _ => true) true n 2 (List.take (Tryd.prog.cellsOf 2) (List.drop 3 [c0, c1, c2, c3])) = xs[3]? := hg 3 _ rfl
  have hxl : xs.length = 4 := hlen
  rw [show Tryd.prog.cellsOf 9 = 1 by kernel_rfl, List.getElem?_eq_getElem (by omega)] at h0'
  rw [show Tryd.prog.cellsOf 22 = 1 by kernel_rfl, List.getElem?_eq_getElem (by omega)] at h1'
  rw [show Tryd.prog.cellsOf 23 = 1 by kernel_rfl, List.getElem?_eq_getElem (by omega)] at h2'
  rw [show Tryd.prog.cellsOf 2 = 1 by kernel_rfl, List.getElem?_eq_getElem (by omega)] at h3'
  simp only [List.drop_zero, List.take_succ_cons, List.take_zero, List.drop_succ_cons] at h0' h1' h2' h3'
  obtain ⟨x0, q0, _, hs⟩ := DataW.trod_string Tryd.underlying9 h0'
  obtain ⟨x3, q3, _, _⟩ := DataW.trod_int Tryd.underlying2 h3'
  simp at q0 q3
  subst q0 q3
  obtain ⟨ms, hms⟩ := mo_open h1'
  obtain ⟨rs, hrs⟩ := ru_open h2'
  exact ⟨⟨x0, ms, rs, x3⟩, c1, c2, rfl, hs, hms, hrs⟩
end Go.Proofs.YtpbepibklipfpaaDoor

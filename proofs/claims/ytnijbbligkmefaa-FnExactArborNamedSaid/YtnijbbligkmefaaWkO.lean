/-
  Arguments that are works of arbors and meshes, opened.
-/
import Derived.Test.YtnijbbligkmefaaWkB
import Derived.Test.YtnijbbligkmefaaOpenP
import Derived.Lib.SmallJoins
namespace Go.Proofs.Ytnijbbligkmefaa
open Go.RowKit Go.Deep Go.ChangeShapes Go.WideShapes Go.Joins

theorem argI_open {H : Type} {enc : TypeId × Value → H} {W : World} {v : Value} {fuel : Nat} {x : DataW H × List MemPlace}
    (h : DataW.trod enc Try.prog W 0 (fun _ => true) true fuel 36 [v] = some x) : ∃ ts, ArgI W v ts := by
  rcases open_ints Try.underlying36 Try.underlying2 (by kernel_rfl) h with ⟨hcs, _⟩ | ⟨y, l, c, zs, hcs, _, hl, hm, hz, _, hcell, hwz⟩
  · simp at hcs
    exact ⟨_, none, 0, 0, [], hcs, .inl ⟨rfl, rfl, rfl, rfl⟩, rfl⟩
  · simp at hcs
    exact ⟨_, some y, l, c, zs, hcs, .inr ⟨y, rfl, hl, hm, by simpa using hz, hcell, hwz⟩, rfl⟩
theorem isAr_open {H : Type} {enc : TypeId × Value → H} {W : World} {a : Option Addr} {len cap fuel : Nat} {x : DataW H × List MemPlace}
    (h : DataW.trod enc Try.prog W 0 (fun _ => true) true fuel 22 [.slice a len cap] = some x) : ∃ rs, IsAr W a len cap rs := by
  rcases open_slice_pairs Try.underlying22 Try.underlying38 (by kernel_rfl) rfl rfl (by kernel_rfl) (by kernel_rfl) h with ⟨hcs, _⟩ | ⟨ad, l, c, m, n, V0, V1, D0, D1, P0, P1, hcs, _, hl, hm, hmm, _, hx⟩
  · simp at hcs
    obtain ⟨rfl, rfl, rfl⟩ := hcs
    exact ⟨[], ⟨Nat.le_refl _, Nat.zero_le _⟩, rfl, fun i hi => absurd hi (Nat.not_lt_zero _)⟩
  · simp at hcs
    obtain ⟨rfl, rfl, rfl⟩ := hcs
    have hm' : m = cap := by simpa using hmm
    have each : ∀ i, i < len → ∃ q : Arb, V0 i = .string q.1 ∧ q.1.size ≤ maxLen ∧ ArgI W (V1 i) q.2 := by
      intro i hi
      obtain ⟨_, _, h3, h4⟩ := hx i (by omega)
      obtain ⟨s, e1, _, hs⟩ := DataW.trod_string Try.underlying9 h3
      obtain ⟨ts, ht⟩ := argI_open h4
      exact ⟨(s, ts), by simpa using e1, hs, ht⟩
    obtain ⟨q, hq⟩ := choose_lt each
    refine ⟨(List.range len).map q, ⟨hl, hm⟩, by simp, fun i hi => ?_⟩
    obtain ⟨h1, h2, _, _⟩ := hx i (by omega)
    obtain ⟨e1, hs, ht⟩ := hq i hi
    have e : arAt ((List.range len).map q) i = q i := by
      unfold arAt; rw [List.getElem?_map, List.getElem?_range hi]; rfl
    rw [e]
    rw [e1] at h1
    have h0 := (hx 0 (by omega)).1
    obtain ⟨b, o, spot⟩ := ad
    have hspot : spot = none := by simpa [Addr.add] using World.cell?_spot h0
    subst hspot
    rw [Go.WideShapes.add_plain] at h1 h2
    exact ⟨b, o, V1 i, rfl, ltP_of_cell h1, h1, by rw [Nat.add_assoc]; exact h2, hs, ht⟩
set_option maxRecDepth 100000 in
theorem isMr_open {H : Type} {enc : TypeId × Value → H} {W : World} {a : Option Addr} {len cap fuel : Nat} {x : DataW H × List MemPlace}
    (h : DataW.trod enc Try.prog W 0 (fun _ => true) true fuel 23 [.slice a len cap] = some x) : ∃ ms, IsMr W a len cap ms := by
  rcases open_slice Try.underlying23 h with ⟨hcs, _⟩ | ⟨ad, l, c, m, n, D, Pl, hcs, _, hl, hm, hmm, _, hx⟩
  · simp at hcs
    obtain ⟨rfl, rfl, rfl⟩ := hcs
    exact ⟨[], ⟨Nat.le_refl _, Nat.zero_le _⟩, rfl, fun i hi => absurd hi (Nat.not_lt_zero _)⟩
  · simp at hcs
    obtain ⟨rfl, rfl, rfl⟩ := hcs
    have hm' : m = cap := by simpa using hmm
    rw [show Try.prog.cellsOf 49 = 4 by kernel_rfl] at hx
    have each : ∀ i, i < len → ∃ q : Msh, W.cell? (ad.add (i * 4)) = some (.int .i64 q.1) ∧ W.cell? (ad.add (i * 4 + 1)) = some (.int .i64 q.2.1) ∧ W.cell? (ad.add (i * 4 + 2)) = some (.int .i64 q.2.2.1) ∧ W.cell? (ad.add (i * 4 + 3)) = some (.int .i64 q.2.2.2) := by
      intro i hi
      obtain ⟨cs', h1, h2⟩ := hx i (by omega)
      obtain ⟨_, hlen, hcell⟩ := World.cells?_some h1
      obtain ⟨xs, k, _, _, _, hxl, hf⟩ := DataW.trod_struct Try.underlying49 h2
      have f0 : DataW.trod enc Try.prog W 0 (fun _ => true) true k 2 (List.take (Try.prog.cellsOf 2) (List.drop 0 cs')) = xs[0]? := hf 0 _ rfl
      have f1 : DataW.trod enc Try.prog W 0 (fun _ => true) true k 2 (List.take (Try.prog.cellsOf 2) (List.drop 1 cs')) = xs[1]? := hf 1 _ rfl
      have f2 : DataW.trod enc Try.prog W 0 (fun _ => true) true k 2 (List.take (Try.prog.cellsOf 2) (List.drop 2 cs')) = xs[2]? := hf 2 _ rfl
      have f3 : DataW.trod enc Try.prog W 0 (fun _ => true) true k 2 (List.take (Try.prog.cellsOf 2) (List.drop 3 cs')) = xs[3]? := hf 3 _ rfl
      rw [show Try.prog.cellsOf 2 = 1 by kernel_rfl] at f0 f1 f2 f3
      have hxl' : xs.length = 4 := hxl
      match cs', hlen with
      | [v0, v1, v2, v3], _ =>
        rw [List.getElem?_eq_getElem (by omega)] at f0 f1 f2 f3
        simp only [List.drop_zero, List.take_succ_cons, List.take_zero, List.drop_succ_cons] at f0 f1 f2 f3
        obtain ⟨x0, q0, _, _⟩ := DataW.trod_int Try.underlying2 f0
        obtain ⟨x1, q1, _, _⟩ := DataW.trod_int Try.underlying2 f1
        obtain ⟨x2, q2, _, _⟩ := DataW.trod_int Try.underlying2 f2
        obtain ⟨x3, q3, _, _⟩ := DataW.trod_int Try.underlying2 f3
        simp at q0 q1 q2 q3
        subst q0 q1 q2 q3
        have e0 := hcell 0 (by omega)
        have e1 := hcell 1 (by omega)
        have e2 := hcell 2 (by omega)
        have e3 := hcell 3 (by omega)
        rw [add_add] at e0 e1 e2 e3
        exact ⟨(x0, x1, x2, x3), by simpa using e0, by simpa using e1, by simpa using e2, by simpa using e3⟩
    obtain ⟨q, hq⟩ := choose_lt each
    refine ⟨(List.range len).map q, ⟨hl, hm⟩, by simp, fun i hi => ?_⟩
    obtain ⟨h1, h2, h3, h4⟩ := hq i hi
    have e : msAt ((List.range len).map q) i = q i := by
      unfold msAt; rw [List.getElem?_map, List.getElem?_range hi]; rfl
    rw [e]
    obtain ⟨b, o, spot⟩ := ad
    have hspot : spot = none := by simpa [Addr.add] using World.cell?_spot (hq 0 (by omega)).1
    subst hspot
    rw [Go.WideShapes.add_plain] at h1 h2 h3 h4
    exact ⟨b, o, rfl, ltP_of_cell h1, h1, by rw [Nat.add_assoc]; exact h2, by rw [Nat.add_assoc]; exact h3, by rw [Nat.add_assoc]; exact h4⟩
/-- Works that came in. -/
def IsWk (W : World) (v : Value) (rs : List Arb) (ms : List Msh) : Prop := ∃ a len cap a' len' cap', v = .agg #[.slice a len cap, .slice a' len' cap'] ∧ IsAr W a len cap rs ∧ IsMr W a' len' cap' ms
theorem IsWk.keep {W W' : World} {v : Value} {rs : List Arb} {ms : List Msh} (h : IsWk W v rs ms) (hb : Below W.heap.size W W') : IsWk W' v rs ms := by
  obtain ⟨a, len, cap, a', len', cap', e, h1, h2⟩ := h
  exact ⟨a, len, cap, a', len', cap', e, h1.keep hb, h2.keep hb⟩
set_option maxRecDepth 100000 in
theorem works_open {H : Type} {enc : TypeId × Value → H} {W : World} {r : Reach} {b0 : Nat} {v : Value} {d : DataW H} {p : List MemPlace}
    (hv : Value.okWide Try.prog W r b0 25 v) (h : DataW.Trod enc Try.prog W 0 (fun _ => true) true 25 v d p) : ∃ rs ms, IsWk W v rs ms := by
  obtain ⟨cs, rfl, hsz⟩ := okWide_struct Try.underlying25 hv
  rw [show Try.prog.cellsOf 25 = 2 by kernel_rfl] at hsz
  obtain ⟨c0, c1, rfl⟩ := array2 hsz
  obtain ⟨fuel, hf⟩ := h
  obtain ⟨xs, n, _, _, _, hlen, hg⟩ := DataW.trod_struct Try.underlying25 hf
  have h0' : DataW.trod enc Try.prog W 0 (fun _ => true) true n 22 (List.take (Try.prog.cellsOf 22) (List.drop 0 [c0, c1])) = xs[0]? := hg 0 _ rfl
  have h1' : DataW.trod enc Try.prog W 0 (fun _ => true) true n 23 (List.take (Try.prog.cellsOf 23) (List.drop 1 [c0, c1])) = xs[1]? := hg 1 _ rfl
  have s0 : 0 < xs.length := by rw [hlen]; decide
  have s1 : 1 < xs.length := by rw [hlen]; decide
  rw [show Try.prog.cellsOf 22 = 1 by kernel_rfl, List.getElem?_eq_getElem s0] at h0'
  rw [show Try.prog.cellsOf 23 = 1 by kernel_rfl, List.getElem?_eq_getElem s1] at h1'
  simp only [List.drop_zero, List.take_succ_cons, List.take_zero, List.drop_succ_cons] at h0' h1'
  obtain ⟨a, len, cap, rfl⟩ : ∃ a len cap, c0 = .slice a len cap := by
    rcases open_slice Try.underlying22 h0' with ⟨hcs, _⟩ | ⟨ad, l, c, m, n, D, Pl, hcs, _⟩
    · exact ⟨_, _, _, by simpa using hcs⟩
    · exact ⟨_, _, _, by simpa using hcs⟩
  obtain ⟨a', len', cap', rfl⟩ : ∃ a len cap, c1 = .slice a len cap := by
    rcases open_slice Try.underlying23 h1' with ⟨hcs, _⟩ | ⟨ad, l, c, m, n, D, Pl, hcs, _⟩
    · exact ⟨_, _, _, by simpa using hcs⟩
    · exact ⟨_, _, _, by simpa using hcs⟩
  obtain ⟨rs, has⟩ := isAr_open h0'
  obtain ⟨ms, hms⟩ := isMr_open h1'
  exact ⟨rs, ms, a, len, cap, a', len', cap', rfl, has, hms⟩
end Go.Proofs.Ytnijbbligkmefaa

/-
  An argument that is a plate, opened.
-/
import Derived.Test.YtmhheecjpalajaaPlB
import Derived.Test.YtmhheecjpalajaaOpenP
import Derived.Lib.SmallJoins
namespace Go.Proofs.Ytmhheecjpalajaa
open Go.RowKit Go.Deep Go.ChangeShapes Go.WideShapes Go.Joins

set_option maxRecDepth 100000 in
theorem isSi_open {H : Type} {enc : TypeId × Value → H} {W : World} {a : Option Addr} {len cap fuel : Nat} {x : DataW H × List MemPlace}
    (h : DataW.trod enc Try.prog W 0 (fun _ => true) true fuel 22 [.slice a len cap] = some x) : ∃ ss, IsSi W a len cap ss := by
  rcases open_slice Try.underlying22 h with ⟨hcs, _⟩ | ⟨ad, l, c, m, n, D, Pl, hcs, _, hl, hm, hmm, _, hx⟩
  · simp at hcs
    obtain ⟨rfl, rfl, rfl⟩ := hcs
    exact ⟨[], ⟨Nat.le_refl _, Nat.zero_le _⟩, rfl, fun i hi => absurd hi (Nat.not_lt_zero _)⟩
  · simp at hcs
    obtain ⟨rfl, rfl, rfl⟩ := hcs
    have hm' : m = cap := by simpa using hmm
    rw [show Try.prog.cellsOf 85 = 5 by kernel_rfl] at hx
    have each : ∀ i, i < len → ∃ q : Sit, W.cell? (ad.add (i * 5)) = some (.string q.nm) ∧ W.cell? (ad.add (i * 5 + 1)) = some (.int .i64 q.x) ∧ W.cell? (ad.add (i * 5 + 2)) = some (.int .i64 q.y) ∧ W.cell? (ad.add (i * 5 + 3)) = some (.int .i64 q.wh) ∧ W.cell? (ad.add (i * 5 + 4)) = some (.int .i64 q.st) ∧ q.nm.size ≤ maxLen := by
      intro i hi
      obtain ⟨cs', h1, h2⟩ := hx i (by omega)
      obtain ⟨_, hlen, hcell⟩ := World.cells?_some h1
      obtain ⟨xs, k, _, _, _, hxl, hf⟩ := DataW.trod_struct Try.underlying85 h2
      have f0 : DataW.trod enc Try.prog W 0 (fun _ => true) true k 9 (List.take (Try.prog.cellsOf 9) (List.drop 0 cs')) = xs[0]? := hf 0 _ rfl
      have f1 : DataW.trod enc Try.prog W 0 (fun _ => true) true k 83 (List.take (Try.prog.cellsOf 83) (List.drop 1 cs')) = xs[1]? := hf 1 _ rfl
      have f2 : DataW.trod enc Try.prog W 0 (fun _ => true) true k 2 (List.take (Try.prog.cellsOf 2) (List.drop 3 cs')) = xs[2]? := hf 2 _ rfl
      have f3 : DataW.trod enc Try.prog W 0 (fun _ => true) true k 2 (List.take (Try.prog.cellsOf 2) (List.drop 4 cs')) = xs[3]? := hf 3 _ rfl
      rw [show Try.prog.cellsOf 2 = 1 by kernel_rfl] at f2 f3
      rw [show Try.prog.cellsOf 9 = 1 by kernel_rfl] at f0
      rw [show Try.prog.cellsOf 83 = 2 by kernel_rfl] at f1
      have hxl' : xs.length = 4 := hxl
      match cs', hlen with
      | [v0, v1, v2, v3, v4], _ =>
        rw [List.getElem?_eq_getElem (by omega)] at f0 f1 f2 f3
        simp only [List.drop_zero, List.take_succ_cons, List.take_zero, List.drop_succ_cons] at f0 f1 f2 f3
        obtain ⟨s0, q0, _, hs⟩ := DataW.trod_string Try.underlying9 f0
        obtain ⟨x2, q2, _, _⟩ := DataW.trod_int Try.underlying2 f2
        obtain ⟨x3, q3, _, _⟩ := DataW.trod_int Try.underlying2 f3
        obtain ⟨ys, k2, _, _, _, hyl, hg⟩ := DataW.trod_struct Try.underlying83 f1
        have g0 : DataW.trod enc Try.prog W 0 (fun _ => true) true k2 2 (List.take (Try.prog.cellsOf 2) (List.drop 0 [v1, v2])) = ys[0]? := hg 0 _ rfl
        have g1 : DataW.trod enc Try.prog W 0 (fun _ => true) true k2 2 (List.take (Try.prog.cellsOf 2) (List.drop 1 [v1, v2])) = ys[1]? := hg 1 _ rfl
        rw [show Try.prog.cellsOf 2 = 1 by kernel_rfl] at g0 g1
        have hyl' : ys.length = 2 := hyl
        rw [List.getElem?_eq_getElem (by omega)] at g0 g1
        simp only [List.drop_zero, List.take_succ_cons, List.take_zero, List.drop_succ_cons] at g0 g1
        obtain ⟨y0, p0, _, _⟩ := DataW.trod_int Try.underlying2 g0
        obtain ⟨y1, p1, _, _⟩ := DataW.trod_int Try.underlying2 g1
        simp at q0 q2 q3 p0 p1
        subst q0 q2 q3 p0 p1
        have e0 := hcell 0 (by omega)
        have e1 := hcell 1 (by omega)
        have e2 := hcell 2 (by omega)
        have e3 := hcell 3 (by omega)
        have e4 := hcell 4 (by omega)
        rw [add_add] at e0 e1 e2 e3 e4
        exact ⟨⟨s0, y0, y1, x2, x3⟩, by simpa using e0, by simpa using e1, by simpa using e2, by simpa using e3, by simpa using e4, hs⟩
    obtain ⟨q, hq⟩ := choose_lt each
    refine ⟨(List.range len).map q, ⟨hl, hm⟩, by simp, fun i hi => ?_⟩
    obtain ⟨h1, h2, h3, h4, h5, h6⟩ := hq i hi
    have e : siAt ((List.range len).map q) i = q i := by
      unfold siAt; rw [List.getElem?_map, List.getElem?_range hi]; rfl
    rw [e]
    obtain ⟨b, o, spot⟩ := ad
    have hspot : spot = none := by simpa [Addr.add] using World.cell?_spot (hq 0 (by omega)).1
    subst hspot
    rw [Go.WideShapes.add_plain] at h1 h2 h3 h4 h5
    exact ⟨b, o, rfl, ltP_of_cell h1, h1, by rw [Nat.add_assoc]; exact h2, by rw [Nat.add_assoc]; exact h3, by rw [Nat.add_assoc]; exact h4, by rw [Nat.add_assoc]; exact h5, h6⟩
theorem array5 {cs : Array Value} (h : cs.size = 5) : ∃ a b c d e, cs = #[a, b, c, d, e] := by
  obtain ⟨l⟩ := cs
  match l, h with
  | [a, b, c, d, e], _ => exact ⟨a, b, c, d, e, rfl⟩
set_option maxRecDepth 100000 in
theorem plate_open {H : Type} {enc : TypeId × Value → H} {W : World} {r : Reach} {b0 : Nat} {v : Value} {d : DataW H} {p : List MemPlace}
    (hv : Value.okWide Try.prog W r b0 24 v) (h : DataW.Trod enc Try.prog W 0 (fun _ => true) true 24 v d p) : ∃ q ss, IsPt W v q ss := by
  obtain ⟨cs, rfl, hsz⟩ := okWide_struct Try.underlying24 hv
  rw [show Try.prog.cellsOf 24 = 5 by kernel_rfl] at hsz
  obtain ⟨c0, c1, c2, c3, c4, rfl⟩ := array5 hsz
  obtain ⟨fuel, hf⟩ := h
  obtain ⟨xs, n, _, _, _, hlen, hg⟩ := DataW.trod_struct Try.underlying24 hf
  have h0' : DataW.trod enc Try.prog W 0 (fun _ => true) true n 2 (List.take (Try.prog.cellsOf 2) (List.drop 0 [c0, c1, c2, c3, c4])) = xs[0]? := hg 0 _ rfl
  have h1' : DataW.trod enc Try.prog W 0 (fun _ => true) true n 2 (List.take (Try.prog.cellsOf 2) (List.drop 1 [c0, c1, c2, c3, c4])) = xs[1]? := hg 1 _ rfl
  have h2' : DataW.trod enc Try.prog W 0 (fun _ => true) true n 2 (List.take (Try.prog.cellsOf 2) (List.drop 2 [c0, c1, c2, c3, c4])) = xs[2]? := hg 2 _ rfl
  have h3' : DataW.trod enc Try.prog W 0 (fun _ => true) true n 2 (List.take (Try.prog.cellsOf 2) (List.drop 3 [c0, c1, c2, c3, c4])) = xs[3]? := hg 3 _ rfl
  have h4' : DataW.trod enc Try.prog W 0 (fun _ => true) true n 22 (List.take (Try.prog.cellsOf 22) (List.drop 4 [c0, c1, c2, c3, c4])) = xs[4]? := hg 4 _ rfl
  have hxl : xs.length = 5 := hlen
  rw [show Try.prog.cellsOf 2 = 1 by kernel_rfl, List.getElem?_eq_getElem (by omega)] at h0' h1' h2' h3'
  rw [show Try.prog.cellsOf 22 = 1 by kernel_rfl, List.getElem?_eq_getElem (by omega)] at h4'
  simp only [List.drop_zero, List.take_succ_cons, List.take_zero, List.drop_succ_cons] at h0' h1' h2' h3' h4'
  obtain ⟨x0, q0, _, _⟩ := DataW.trod_int Try.underlying2 h0'
  obtain ⟨x1, q1, _, _⟩ := DataW.trod_int Try.underlying2 h1'
  obtain ⟨x2, q2, _, _⟩ := DataW.trod_int Try.underlying2 h2'
  obtain ⟨x3, q3, _, _⟩ := DataW.trod_int Try.underlying2 h3'
  simp at q0 q1 q2 q3
  subst q0 q1 q2 q3
  obtain ⟨a, len, cap, rfl⟩ : ∃ a len cap, c4 = .slice a len cap := by
    rcases open_slice Try.underlying22 h4' with ⟨hcs, _⟩ | ⟨ad, l, c, m, n, D, Pl, hcs, _⟩
    · exact ⟨_, _, _, by simpa using hcs⟩
    · exact ⟨_, _, _, by simpa using hcs⟩
  obtain ⟨ss, has⟩ := isSi_open h4'
  exact ⟨⟨x0, x1, x2, x3⟩, ss, a, len, cap, rfl, has⟩
end Go.Proofs.Ytmhheecjpalajaa

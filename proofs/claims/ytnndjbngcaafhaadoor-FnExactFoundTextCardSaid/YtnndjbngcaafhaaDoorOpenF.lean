/-
  An argument that is a struct of a slice of pairs and a ratio, opened.
-/
import Derived.Test.YtnndjbngcaafhaaDoorOpenP
import Derived.Lib.SmallJoins
namespace Go.Proofs.YtnndjbngcaafhaaDoor
open Go.RowKit Go.Deep Go.ChangeShapes Go.WideShapes Go.Joins

set_option maxRecDepth 100000 in
theorem found_open {H : Type} {enc : TypeId × Value → H} {W : World} {r : Reach} {b0 : Nat} {v : Value} {d : DataW H} {p : List MemPlace}
    (hv : Value.okWide Tryd.prog W r b0 43 v) (h : DataW.Trod enc Tryd.prog W 0 (fun _ => true) true 43 v d p) :
    ∃ (a : Option Addr) (len cap : Nat) (ps : List (Int × Int)) (n e : Int), v = .agg #[.slice a len cap, .int .i64 n, .int .i64 e] ∧ IsPR W a len cap ps ∧
      (-9223372036854775808 ≤ n ∧ n ≤ 9223372036854775807) ∧ -9223372036854775808 ≤ e ∧ e ≤ 9223372036854775807 := by
  obtain ⟨cs, rfl, hsz⟩ := okWide_struct Tryd.underlying43 hv
  rw [show Tryd.prog.cellsOf 43 = 3 by kernel_rfl] at hsz
  obtain ⟨c0, c1, c2, rfl⟩ := array3 hsz
  obtain ⟨fuel, hf⟩ := h
  obtain ⟨xs, n, _, _, _, hlen, hg⟩ := DataW.trod_struct Tryd.underlying43 hf
  have h0' : DataW.trod enc Tryd.prog W 0 (fun _ => true) true n 28 (List.take (Tryd.prog.cellsOf 28) (List.drop 0 [c0, c1, c2])) = xs[0]? := hg 0 _ rfl
  have h1' : DataW.trod enc Tryd.prog W 0 (fun _ => true) true n 30 (List.take (Tryd.prog.cellsOf 30) (List.drop 1 [c0, c1, c2])) = xs[1]? := hg 1 _ rfl
  have s0 : 0 < xs.length := by rw [hlen]; decide
  have s1 : 1 < xs.length := by rw [hlen]; decide
  rw [show Tryd.prog.cellsOf 28 = 1 by kernel_rfl, List.getElem?_eq_getElem s0] at h0'
  rw [show Tryd.prog.cellsOf 30 = 2 by kernel_rfl, List.getElem?_eq_getElem s1] at h1'
  simp only [List.drop_zero, List.take_succ_cons, List.take_zero, List.drop_succ_cons] at h0' h1'
  obtain ⟨a, len, cap, rfl⟩ : ∃ a len cap, c0 = .slice a len cap := by
    rcases open_slice_pairs Tryd.underlying28 Tryd.underlying64 (by kernel_rfl) rfl rfl (by kernel_rfl) (by kernel_rfl) h0' with ⟨hcs, _⟩ | ⟨ad, l, c, m, n, V0, V1, D0, D1, P0, P1, hcs, _⟩
    · exact ⟨_, _, _, by simpa using hcs⟩
    · exact ⟨_, _, _, by simpa using hcs⟩
  obtain ⟨ps, hps⟩ := isPR_open h0'
  obtain ⟨ys, m, _, _, _, hlen2, hg2⟩ := DataW.trod_struct Tryd.underlying30 h1'
  have k0 : DataW.trod enc Tryd.prog W 0 (fun _ => true) true m 2 (List.take (Tryd.prog.cellsOf 2) (List.drop 0 [c1, c2])) = ys[0]? := hg2 0 _ rfl
  have k1 : DataW.trod enc Tryd.prog W 0 (fun _ => true) true m 2 (List.take (Tryd.prog.cellsOf 2) (List.drop 1 [c1, c2])) = ys[1]? := hg2 1 _ rfl
  have u0 : 0 < ys.length := by rw [hlen2]; decide
  have u1 : 1 < ys.length := by rw [hlen2]; decide
  rw [show Tryd.prog.cellsOf 2 = 1 by kernel_rfl, List.getElem?_eq_getElem u0] at k0
  rw [show Tryd.prog.cellsOf 2 = 1 by kernel_rfl, List.getElem?_eq_getElem u1] at k1
  simp only [List.drop_zero, List.take_succ_cons, List.take_zero, List.drop_succ_cons] at k0 k1
  obtain ⟨x, q1, _, wx⟩ := DataW.trod_int Tryd.underlying2 k0
  obtain ⟨y, q2, _, wy⟩ := DataW.trod_int Tryd.underlying2 k1
  have q1' : c1 = .int .i64 x := by simpa using q1
  have q2' : c2 = .int .i64 y := by simpa using q2
  exact ⟨a, len, cap, ps, x, y, by rw [q1', q2'], hps, i64_lim wx, i64_lim wy⟩
end Go.Proofs.YtnndjbngcaafhaaDoor

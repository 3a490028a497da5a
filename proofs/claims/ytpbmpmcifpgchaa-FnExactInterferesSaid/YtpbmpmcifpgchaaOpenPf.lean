/-
  An argument that is a profile (three numbers and a struct of three), opened.
-/
import Derived.Test.YtpbmpmcifpgchaaAgg
namespace Go.Proofs.Ytpbmpmcifpgchaa
open Go.RowKit Go.Deep Go.ChangeShapes Go.WideShapes Go.Joins

set_option maxRecDepth 100000 in
theorem profile_open {H : Type} {enc : TypeId × Value → H} {W : World} {r : Reach} {b0 : Nat} {v : Value} {d : DataW H} {p : List MemPlace}
    (hv : Value.okWide Try.prog W r b0 25 v) (h : DataW.Trod enc Try.prog W 0 (fun _ => true) true 25 v d p) :
    ∃ t m k s c h : Int, v = .agg #[.int .i64 t, .int .i64 m, .int .i64 k, .int .i64 s, .int .i64 c, .int .i64 h] := by
  obtain ⟨cs, rfl, hsz⟩ := okWide_struct Try.underlying25 hv
  rw [show Try.prog.cellsOf 25 = 6 by kernel_rfl] at hsz
  obtain ⟨c0, c1, c2, c3, c4, c5, rfl⟩ : ∃ c0 c1 c2 c3 c4 c5, cs = #[c0, c1, c2, c3, c4, c5] := by
    obtain ⟨l⟩ := cs
    match l, hsz with
    | [c0, c1, c2, c3, c4, c5], _ => exact ⟨c0, c1, c2, c3, c4, c5, rfl⟩
  obtain ⟨fuel, hf⟩ := h
  obtain ⟨xs, n, _, _, _, hlen, hg⟩ := DataW.trod_struct Try.underlying25 hf
  have h0 : DataW.trod enc Try.prog W 0 (fun _ => true) true n 2 (List.take (Try.prog.cellsOf 2) (List.drop 0 [c0, c1, c2, c3, c4, c5])) = xs[0]? := hg 0 _ rfl
  have h1 : DataW.trod enc Try.prog W 0 (fun _ => true) true n 2 (List.take (Try.prog.cellsOf 2) (List.drop 1 [c0, c1, c2, c3, c4, c5])) = xs[1]? := hg 1 _ rfl
  have h2 : DataW.trod enc Try.prog W 0 (fun _ => true) true n 2 (List.take (Try.prog.cellsOf 2) (List.drop 2 [c0, c1, c2, c3, c4, c5])) = xs[2]? := hg 2 _ rfl
  have h3 : DataW.trod enc Try.prog W 0 (fun _ => true) true n 23 (List.take (Try.prog.cellsOf 23) (List.drop 3 [c0, c1, c2, c3, c4, c5])) = xs[3]? := hg 3 _ rfl
  have s0 : 0 < xs.length := by rw [hlen]; decide
  have s1 : 1 < xs.length := by rw [hlen]; decide
  have s2 : 2 < xs.length := by rw [hlen]; decide
  have s3 : 3 < xs.length := by rw [hlen]; decide
  rw [show Try.prog.cellsOf 2 = 1 by kernel_rfl, List.getElem?_eq_getElem s0] at h0
  rw [show Try.prog.cellsOf 2 = 1 by kernel_rfl, List.getElem?_eq_getElem s1] at h1
  rw [show Try.prog.cellsOf 2 = 1 by kernel_rfl, List.getElem?_eq_getElem s2] at h2
  rw [show Try.prog.cellsOf 23 = 3 by kernel_rfl, List.getElem?_eq_getElem s3] at h3
  simp only [List.drop_zero, List.take_succ_cons, List.take_zero, List.drop_succ_cons] at h0 h1 h2 h3
  obtain ⟨ys, q, _, _, _, hlen2, hg2⟩ := DataW.trod_struct Try.underlying23 h3
  have k0 : DataW.trod enc Try.prog W 0 (fun _ => true) true q 2 (List.take (Try.prog.cellsOf 2) (List.drop 0 [c3, c4, c5])) = ys[0]? := hg2 0 _ rfl
  have k1 : DataW.trod enc Try.prog W 0 (fun _ => true) true q 2 (List.take (Try.prog.cellsOf 2) (List.drop 1 [c3, c4, c5])) = ys[1]? := hg2 1 _ rfl
  have k2 : DataW.trod enc Try.prog W 0 (fun _ => true) true q 2 (List.take (Try.prog.cellsOf 2) (List.drop 2 [c3, c4, c5])) = ys[2]? := hg2 2 _ rfl
  have u0 : 0 < ys.length := by rw [hlen2]; decide
  have u1 : 1 < ys.length := by rw [hlen2]; decide
  have u2 : 2 < ys.length := by rw [hlen2]; decide
  rw [show Try.prog.cellsOf 2 = 1 by kernel_rfl, List.getElem?_eq_getElem u0] at k0
  rw [show Try.prog.cellsOf 2 = 1 by kernel_rfl, List.getElem?_eq_getElem u1] at k1
  rw [show Try.prog.cellsOf 2 = 1 by kernel_rfl, List.getElem?_eq_getElem u2] at k2
  simp only [List.drop_zero, List.take_succ_cons, List.take_zero, List.drop_succ_cons] at k0 k1 k2
  obtain ⟨a0, q0, _, _⟩ := DataW.trod_int Try.underlying2 h0
  obtain ⟨a1, q1, _, _⟩ := DataW.trod_int Try.underlying2 h1
  obtain ⟨a2, q2, _, _⟩ := DataW.trod_int Try.underlying2 h2
  obtain ⟨a3, q3, _, _⟩ := DataW.trod_int Try.underlying2 k0
  obtain ⟨a4, q4, _, _⟩ := DataW.trod_int Try.underlying2 k1
  obtain ⟨a5, q5, _, _⟩ := DataW.trod_int Try.underlying2 k2
  simp only [List.cons.injEq, and_true] at q0 q1 q2 q3 q4 q5
  exact ⟨a0, a1, a2, a3, a4, a5, by rw [q0, q1, q2, q3, q4, q5]⟩
end Go.Proofs.Ytpbmpmcifpgchaa

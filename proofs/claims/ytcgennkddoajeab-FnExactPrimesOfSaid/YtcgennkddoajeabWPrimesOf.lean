/-
  The walk of laws.FnExactPrimesOf.
-/
import Derived.Test.YtcgennkddoajeabPrI
namespace Go.Proofs.Ytcgennkddoajeab
open Go.RowKit

theorem PrimesOf_grown_below {w w' : World} {row : Option Nat} {B : Nat} (h : w.grownBy w' row) (hr : ∀ r, row = some r → B ≤ r) (hB : B ≤ w.heap.size) : Below B w w' :=
  ⟨h.os, h.tape, h.output, by have := h.size; omega, fun k hk => h.block k (by omega) (fun e => by have := hr k e.symm; omega)⟩
theorem PrimesOf_row_block {W : World} {B : Nat} {v : Value} {ts : List Int} (h : W.ownsRow B 2 1 v ts.length (intC ts)) : ∀ r, v.ownBlock = some r → B ≤ r ∧ r < W.heap.size := by
  intro r e
  rcases h.2 with ⟨rfl, _⟩ | ⟨g, cap, cur, rfl, hB, hh, _⟩
  · cases e
  · cases e; exact ⟨hB, (Array.getElem?_eq_some_iff.1 hh).1⟩
set_option maxHeartbeats 4000000 in
theorem FnExactPrimesOf_walk (x0 : Int) (w : World) (h0 : -9223372036854775808 ≤ x0 ∧ x0 ≤ 9223372036854775807) :
    Calls Try.prog 4 #[.int .i64 x0] w fun e w' => e = .returned (.bool true) ∧ Below w.heap.size w w' := by
  have hmax := prL_len x0
  generalize hts : prL x0 = ts at hmax
  have HT := Lib.hid hts
  generalize hcc : prC x0 = c
  have HC := Lib.hid hcc
  have hne : (c != c) = false := by simp
  clear hts hcc
  have H0 := Lib.hid h0
  clear h0
  go_enter Try.func4, Try.ntmps4
  go_wp2_with fail
  refine (PrimesOfS_any x0 _).mono ?_
  rw [HT.out, HC.out]
  rintro e w3 ⟨v0, rfl, hv0, hb2⟩
  have L3 := Lib.hid hb2
  have V03 := Lib.hid (sl64_of hv0)
  clear hb2 hv0
  go_wp2_with fail
  refine (PrimesOfI_any x0 _).mono ?_
  rw [HT.out, HC.out]
  rintro e w4 ⟨v1, rfl, hv1, hb4⟩
  have V04 := Lib.hid (V03.out.keep hb4)
  have V1 := Lib.hid hv1
  have h34 := hb4.size
  have HM := Lib.hid (fun (r : Nat) (e : v1.ownBlock = some r) => (PrimesOf_row_block hv1 r e).1)
  have HB4 := Lib.hid hb4
  clear hb4 hv1
  go_wp2_with fail
  refine (eq64_same ts v1 v0 w4 (sl64_of V1.out) V04.out (by omega)).mono ?_
  rintro e w5 ⟨rfl, m5, rfl⟩
  go_wp2_with fail
  refine (mark64_any 1 ts w3.heap.size v1 (w4.drewN m5) V1.out (by omega) (by omega) (by omega)).mono ?_
  rintro e w6 ⟨rfl, hv6, hg6⟩
  have H36 : Below w3.heap.size w3 w6 := (bD HB4.out m5).trans (PrimesOf_grown_below hg6 HM.out h34)
  have L6 := Lib.hid (bT L3.out H36)
  have V06 := Lib.hid (V03.out.keep H36)
  have V6 := Lib.hid (sl64_of hv6)
  have hne2 : ((1 : Int) + (ts.length : Int) != 1 + (ts.length : Int)) = false := by simp
  clear H36 hv6 hg6 HM HB4 L3 V03 V04 V1 h34
  go_wp2_with fail
  refine (held64_same 1 ts.length v1 w6 V6.out (by omega) (by omega) (by omega)).mono ?_
  rintro e w6' ⟨rfl, rfl⟩
  go_wp2_with fail
  refine (PrimesOfI_any x0 _).mono ?_
  rw [HT.out, HC.out]
  rintro e w8 ⟨v2, rfl, hv2, hb8⟩
  have L8 := Lib.hid (bT L6.out hb8)
  have V08 := Lib.hid (V06.out.keep hb8)
  have V8 := Lib.hid (V6.out.keep hb8)
  have V2 := Lib.hid (sl64_of hv2)
  clear hb8 L6 V06 V6 hv2
  go_wp2_with fail
  refine (eq64_same ts v2 v0 w8 V2.out V08.out (by omega)).mono ?_
  rintro e w9 ⟨rfl, m9, rfl⟩
  go_wp2_with fail
  refine (held64_same 1 ts.length v1 (w8.drewN m9) V8.out (by omega) (by omega) (by omega)).mono ?_
  rintro e w9' ⟨rfl, rfl⟩
  go_wp2_with fail
  go_ret
  exact ⟨rfl, bD L8.out m9⟩
end Go.Proofs.Ytcgennkddoajeab

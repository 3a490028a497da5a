/-
  The walk of laws.FnExactTermsOf.
-/
import Derived.Test.YthnfkkfonabhkaaTermsS
import Derived.Test.YthnfkkfonabhkaaEq64
namespace Go.Proofs.Ythnfkkfonabhkaa
open Go.RowKit

/-- What stands between two statements of the law: the reference's slice, the program's slice and the ratio in its box. -/
theorem grown_below {w w' : World} {row : Option Nat} {B : Nat} (h : w.grownBy w' row) (hr : ∀ r, row = some r → B ≤ r) (hB : B ≤ w.heap.size) : Below B w w' :=
  ⟨h.os, h.tape, h.output, by have := h.size; omega, fun k hk => h.block k (by omega) (fun e => by have := hr k e.symm; omega)⟩
theorem trm_len (n d : Int) : (trm n d).length ≤ 1000000000 := by
  unfold trm
  split
  · rename_i h
    obtain ⟨a1, a2, _⟩ := okR_bd h
    have := terms_len n d (by omega) (by omega)
    omega
  · simp
theorem row_block {W : World} {B : Nat} {v : Value} {ts : List Int} (h : W.ownsRow B 2 1 v ts.length (intC ts)) : ∀ r, v.ownBlock = some r → B ≤ r ∧ r < W.heap.size := by
  intro r e
  rcases h.2 with ⟨rfl, _⟩ | ⟨g, cap, cur, rfl, hB, hh, _⟩
  · cases e
  · cases e; exact ⟨hB, (Array.getElem?_eq_some_iff.1 hh).1⟩
set_option maxHeartbeats 4000000 in
theorem FnExactTermsOf_walk (n d : Int) (w : World) (_h1 : -9223372036854775808 ≤ n ∧ n ≤ 9223372036854775807) (_h2 : -9223372036854775808 ≤ d ∧ d ≤ 9223372036854775807) :
    Calls Try.prog 5 #[.agg #[.int .i64 n, .int .i64 d]] w fun e w' => e = .returned (.bool true) ∧ Below w.heap.size w w' := by
  have hmax := trm_len n d
  generalize hts : trm n d = ts at hmax
  have HT := Lib.hid hts
  generalize hcc : trC n d = c
  have HC := Lib.hid hcc
  have hne : (c != c) = false := by simp
  clear hts hcc _h1 _h2
  go_enter Try.func5, Try.ntmps5
  go_wp2_with fail
  have B0 := Lib.hid (Box2.new w n d 23)
  have L0 := Lib.hid (bA (bR w) (.cells #[.int .i64 n, .int .i64 d] 23))
  generalize w.alloc (.cells #[.int .i64 n, .int .i64 d] 23) = W0 at *
  refine (toRatio_any _ _ _).mono ?_
  rintro e w1 ⟨rfl, hb1⟩
  have B1 := Lib.hid (B0.out.keep hb1)
  have L1 := Lib.hid (bT L0.out hb1)
  clear hb1 B0 L0
  obtain ⟨x0, x1, x2, x3, x4⟩ := B1.out
  go_wp2_with fail
  refine (TermsOfS_any _ _ _).mono ?_
  rw [HT.out, HC.out]
  rintro e w2 ⟨v0, rfl, hv0, hb2⟩
  have B2 := Lib.hid (B1.out.keep hb2)
  have L2 := Lib.hid (bT L1.out hb2)
  have V0 := Lib.hid (sl64_of hv0)
  clear hb2 B1 L1 hv0 x0 x1 x2 x3 x4
  obtain ⟨x0, x1, x2, x3, x4⟩ := B2.out
  go_wp2_with fail
  refine (toRatio_any _ _ _).mono ?_
  rintro e w3 ⟨rfl, hb3⟩
  have B3 := Lib.hid (B2.out.keep hb3)
  have L3 := Lib.hid (bT L2.out hb3)
  have V03 := Lib.hid (V0.out.keep hb3)
  clear hb3 B2 L2 V0 x0 x1 x2 x3 x4
  go_wp2_with fail
  refine (TermsOfI_any _ _ _).mono ?_
  rw [HT.out, HC.out]
  rintro e w4 ⟨v1, rfl, hv1, hb4⟩
  have B4 := Lib.hid (B3.out.keep hb4)
  have L4 := Lib.hid (bT L3.out hb4)
  have V04 := Lib.hid (V03.out.keep hb4)
  have V1 := Lib.hid hv1
  have h34 := hb4.size
  have HM := Lib.hid (fun (r : Nat) (e : v1.ownBlock = some r) => (row_block hv1 r e).1)
  have HB4 := Lib.hid hb4
  clear hb4 hv1
  go_wp2_with fail
  refine (eq64_same ts v1 v0 w4 (sl64_of V1.out) V04.out (by omega)).mono ?_
  rintro e w5 ⟨rfl, m5, rfl⟩
  go_wp2_with fail
  refine (mark64_any 1 ts w3.heap.size v1 (w4.drewN m5) V1.out (by omega) (by omega) (by omega)).mono ?_
  rintro e w6 ⟨rfl, hv6, hg6⟩
  have H36 : Below w3.heap.size w3 w6 := (bD HB4.out m5).trans (grown_below hg6 HM.out h34)
  have B6 := Lib.hid (B3.out.keep H36)
  have L6 := Lib.hid (bT L3.out H36)
  have V06 := Lib.hid (V03.out.keep H36)
  have V6 := Lib.hid (sl64_of hv6)
  have hne2 : ((1 : Int) + (ts.length : Int) != 1 + (ts.length : Int)) = false := by simp
  clear H36 hv6 hg6 HM HB4 B3 L3 V03 B4 L4 V04 V1 h34
  go_wp2_with fail
  refine (held64_same 1 ts.length v1 w6 V6.out (by omega) (by omega) (by omega)).mono ?_
  rintro e w6' ⟨rfl, rfl⟩
  obtain ⟨x0, x1, x2, x3, x4⟩ := B6.out
  go_wp2_with fail
  refine (toRatio_any _ _ _).mono ?_
  rintro e w7 ⟨rfl, hb7⟩
  have L7 := Lib.hid (bT L6.out hb7)
  have V07 := Lib.hid (V06.out.keep hb7)
  have V7 := Lib.hid (V6.out.keep hb7)
  clear hb7 B6 L6 V06 V6 x0 x1 x2 x3 x4
  go_wp2_with fail
  refine (TermsOfI_any _ _ _).mono ?_
  rw [HT.out, HC.out]
  rintro e w8 ⟨v2, rfl, hv2, hb8⟩
  have L8 := Lib.hid (bT L7.out hb8)
  have V08 := Lib.hid (V07.out.keep hb8)
  have V8 := Lib.hid (V7.out.keep hb8)
  have V2 := Lib.hid (sl64_of hv2)
  clear hb8 L7 V07 V7 hv2
  go_wp2_with fail
  refine (eq64_same ts v2 v0 w8 V2.out V08.out (by omega)).mono ?_
  rintro e w9 ⟨rfl, m9, rfl⟩
  go_wp2_with fail
  refine (held64_same 1 ts.length v1 (w8.drewN m9) V8.out (by omega) (by omega) (by omega)).mono ?_
  rintro e w9' ⟨rfl, rfl⟩
  go_wp2_with fail
  go_ret
  exact ⟨rfl, bD L8.out m9⟩
end Go.Proofs.Ythnfkkfonabhkaa

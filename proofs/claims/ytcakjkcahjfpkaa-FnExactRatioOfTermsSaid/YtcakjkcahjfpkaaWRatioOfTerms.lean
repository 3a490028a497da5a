/-
  The walk of laws.FnExactRatioOfTerms.
-/
import Derived.Test.YtcakjkcahjfpkaaRtM
import Derived.Test.YtcakjkcahjfpkaaCarry
namespace Go.Proofs.Ytcakjkcahjfpkaa
open Go.RowKit

theorem Row.sl {w : World} {B g cap : Nat} {ts : List Int} (h : Row w B g cap ts) : Sl64 w (.slice (some ⟨g, 0, none⟩) ts.length cap) ts := sl64_of h
set_option maxHeartbeats 4000000 in
theorem FnExactRatioOfTerms_walk (a : Option Addr) (len cap : Nat) (zs : List Int) (w : World) (h : IsRow .i64 w a len cap zs) :
    Calls Try.prog 8 #[.slice a len cap] w fun e w' => e = .returned (.bool true) ∧ Below w.heap.size w w' := by
  obtain ⟨⟨l1, l2⟩, l3, hbd, _⟩ := row64_of h
  unfold maxLen at l2
  have HA := Lib.hid h
  have HBD := Lib.hid hbd
  have L3 := Lib.hid l3
  clear h hbd
  by_cases hl : 1048576 < len
  · clear l3
    go_enter Try.func8, Try.ntmps8
    go_wp2_with fail
    go_ret
    exact ⟨rfl, bR _⟩
  · have hlen : len ≤ 1048576 := by omega
    have hl3 : (zs.take len).length ≤ 1048576 := by omega
    clear hl l3
    have HT := Lib.hid (fun W (hW : IsRow .i64 W a len cap zs) => toInt64S_any a len cap zs W hW hlen)
    generalize hts : zs.take len = ts at *
    clear hts
    have hne : (rtC ts != rtC ts) = false := by simp
    go_enter Try.func8, Try.ntmps8
    go_wp2_with fail
    refine (HT.out w HA.out).mono ?_
    rintro e w1 ⟨rfl, hr1, hb1⟩
    obtain ⟨_, p1, _, _, p2, _⟩ := hr1.parts
    have P2 := Lib.hid p2
    have B1 := Lib.hid hb1
    have h1 := hb1.size
    clear hr1 p2 hb1
    go_wp2_with fail
    refine (RatioOfTermsS_any ts w.heap.size ts.length w1 p1 P2.out hl3 HBD.out).mono ?_
    rintro e w2 ⟨rfl, hb2⟩
    have B2 := Lib.hid (bA (bT B1.out hb2) (.cells #[.int .i64 (rtA ts), .int .i64 (rtB ts)] 25))
    have X2 := Lib.hid (Box2.new w2 (rtA ts) (rtB ts) 25)
    clear hb2 B1 P2 p1
    go_wp2_with fail
    generalize w2.alloc (.cells #[.int .i64 (rtA ts), .int .i64 (rtB ts)] 25) = W2 at *
    generalize w2.heap.size = bx at *
    refine (HT.out W2 (HA.out.keep B2.out)).mono ?_
    rintro e w3 ⟨rfl, hr3, hb3⟩
    obtain ⟨_, p1, _, _, p2, _⟩ := hr3.parts
    have P2 := Lib.hid p2
    have R3 := Lib.hid hr3
    have B3 := Lib.hid (bT B2.out hb3)
    have X3 := Lib.hid (X2.out.keep hb3)
    clear hr3 p2 hb3 B2 X2
    go_wp2_with fail
    refine (RatioOfTermsI_any ts W2.heap.size w3 p1 P2.out hl3 HBD.out).mono ?_
    rintro e w4 ⟨rfl, hb4⟩
    have B4 := Lib.hid (bA (bT B3.out hb4) (.cells #[.int .i64 (rtA ts), .int .i64 (rtB ts)] 25))
    have X4 := Lib.hid ((X3.out.keep hb4).alloc (.cells #[.int .i64 (rtA ts), .int .i64 (rtB ts)] 25))
    have Y4 := Lib.hid (Box2.new w4 (rtA ts) (rtB ts) 25)
    have R4 := Lib.hid ((R3.out.keep hb4).alloc (.cells #[.int .i64 (rtA ts), .int .i64 (rtB ts)] 25))
    clear hb4 B3 X3 R3 P2 p1
    obtain ⟨x0, x1, x2, x3, x4⟩ := X4.out
    go_wp2_with fail
    generalize w4.alloc (.cells #[.int .i64 (rtA ts), .int .i64 (rtB ts)] 25) = W4 at *
    generalize w4.heap.size = by' at *
    generalize W2.heap.size = gx at *
    refine (eqRatio_same _ _ _).mono ?_
    rintro e w5 ⟨rfl, hb5⟩
    have B5 := Lib.hid (bT B4.out hb5)
    have R5 := Lib.hid (R4.out.keep hb5)
    clear hb5 B4 R4 X4 Y4 x0 x1 x2 x3 x4
    go_wp2_with fail
    refine (HT.out w5 (HA.out.keep B5.out)).mono ?_
    rintro e w6 ⟨rfl, hr6, hb6⟩
    have B6 := Lib.hid (bT B5.out hb6)
    have R6 := Lib.hid (R5.out.keep hb6)
    have S6 := Lib.hid hr6
    clear hr6 hb6 B5 R5
    go_wp2_with fail
    refine (eq64_same ts _ _ w6 R6.out.sl S6.out.sl (by omega)).mono ?_
    rintro e w7 ⟨rfl, m7, rfl⟩
    go_wp2_with fail
    go_ret
    exact ⟨rfl, bD B6.out m7⟩
end Go.Proofs.Ytcakjkcahjfpkaa

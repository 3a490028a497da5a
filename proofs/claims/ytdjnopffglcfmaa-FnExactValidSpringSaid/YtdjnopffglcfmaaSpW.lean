/-
  The walk of laws.FnExactValidSpring.
-/
import Derived.Test.YtdjnopffglcfmaaSpd
import Derived.Test.YtdjnopffglcfmaaSpe
namespace Go.Proofs.Ytdjnopffglcfmaa
open Go.RowKit

/-- The conversion of a spring, by what is read of its result. -/
theorem toSpr_ex (a : Option Addr) (len cap : Nat) (ps : List (Int × Int)) (w : World) (h : IsPR w a len cap ps) (hlen : len ≤ 1048576) :
    Calls Try.prog 8 #[.agg #[.slice a len cap]] w fun en w' => ∃ v, en = .returned (.agg #[v]) ∧ SlP w' v ps ∧ Below w.heap.size w w' :=
  (toSpring_any a len cap ps w h hlen).mono fun _ _ ⟨v, he, hr, hb⟩ => ⟨v, he, slP_of hr, hb⟩
/-- A box of one value, and what lay before. -/
def BxH (w : World) (b : Nat) (v : Value) (w' : World) : Prop := BoxL w' b [v] ∧ Below w.heap.size w w'
theorem BxH.new (w : World) (v : Value) (T : TypeId) : BxH w w.heap.size v (w.alloc (.cells #[v] T)) := ⟨BoxL.new w [v] T, bA (bR w) _⟩
theorem BxH.keep {w : World} {b : Nat} {v : Value} {w' x : World} (h : BxH w b v w') (hb : Below w'.heap.size w' x) : BxH w b v x := ⟨h.1.keep hb, bT h.2 hb⟩
theorem BxH.c {w : World} {b : Nat} {v : Value} {w' : World} (h : BxH w b v w') : w'.cell? ⟨b, 0, none⟩ = some v := h.1.c 0 _ rfl
/-- The law's boxes and what the program's spring holds. -/
def SpS (w : World) (b : Nat) (v : Value) (b3 : Nat) (v3 : Value) (ps : List (Int × Int)) (w' : World) : Prop := BxH w b v w' ∧ BoxL w' b3 [v3] ∧ SlP w' v3 ps
theorem SpS.keep {w : World} {b b3 : Nat} {v v3 : Value} {ps : List (Int × Int)} {w' x : World} (h : SpS w b v b3 v3 ps w') (hb : Below w'.heap.size w' x) : SpS w b v b3 v3 ps x := ⟨h.1.keep hb, h.2.1.keep hb, h.2.2.keep hb⟩
theorem SpS.c0 {w : World} {b b3 : Nat} {v v3 : Value} {ps : List (Int × Int)} {w' : World} (h : SpS w b v b3 v3 ps w') : w'.cell? ⟨b, 0, none⟩ = some v := h.1.c
theorem SpS.c3 {w : World} {b b3 : Nat} {v v3 : Value} {ps : List (Int × Int)} {w' : World} (h : SpS w b v b3 v3 ps w') : w'.cell? ⟨b3, 0, none⟩ = some v3 := h.2.1.c 0 _ rfl
set_option maxRecDepth 100000 in
set_option maxHeartbeats 4000000 in
theorem FnExactValidSpring_walk (a : Option Addr) (len cap : Nat) (ps : List (Int × Int)) (w : World) (h : IsPR w a len cap ps) :
    Calls Try.prog 3 #[.agg #[.slice a len cap]] w fun e w' => e = .returned (.bool true) ∧ Below w.heap.size w w' := by
  have H0 := Lib.hid (BxH.new w (.slice a len cap) 24)
  obtain ⟨⟨l1, l2⟩, l3, _, _⟩ := id h
  unfold maxLen at l2
  have HA := Lib.hid h
  have HL3 := Lib.hid l3
  clear h l3
  by_cases hl : 1048576 < len
  · go_enter Try.func3, Try.ntmps3
    go_wp2_with fail
    refine (szSpring_no _ _ _ _ _ (by omega) (by omega) (by omega) (by omega)).mono ?_
    rintro e w1 ⟨rfl, hb⟩
    have H1 := Lib.hid (H0.out.keep hb)
    clear hb H0
    go_wp2_with fail
    go_ret
    exact ⟨rfl, H1.out.2⟩
  have hlen : len ≤ 1048576 := by omega
  have hmax : ps.length ≤ 1000000000000 := by rw [HL3.out]; omega
  clear hl
  have CS := Lib.hid (fun v W (h : SlP W v ps) => ValidSpringS_any ps v W h hmax)
  have CI := Lib.hid (fun v W (h : SlP W v ps) => ValidSpringI_any ps v W h hmax)
  generalize okSp ps = r at *
  have n0 : (r != r) = false := by simp
  go_enter Try.func3, Try.ntmps3
  go_wp2_with fail
  generalize w.alloc (.cells #[.slice a len cap] 24) = W0 at *
  generalize hb0 : w.heap.size = b0 at *
  refine (szSpring_yes _ _ _ _ _ (by omega) (by omega) (by omega)).mono ?_
  rintro e w0 ⟨rfl, hb⟩
  have H0' := Lib.hid (H0.out.keep hb)
  clear hb H0
  have c0 := H0'.out.c
  go_wp2_with fail
  refine (toSpr_ex a len cap ps _ (HA.out.keep H0'.out.2) hlen).mono ?_
  rintro en w1 ⟨v1, rfl, hs, hb⟩
  have V1 := Lib.hid hs
  have H1 := Lib.hid (H0'.out.keep hb)
  clear hs hb H0' c0
  have c0 := H1.out.c
  go_wp2_with fail
  refine (CS.out _ _ V1.out).mono ?_
  rintro en w2 ⟨rfl, hb⟩
  have H2 := Lib.hid (H1.out.keep hb)
  clear hb V1 H1 c0
  have c0 := H2.out.c
  go_wp2_with fail
  refine (toSpr_ex a len cap ps _ (HA.out.keep H2.out.2) hlen).mono ?_
  rintro en w3 ⟨v3, rfl, hs, hb⟩
  obtain ⟨av, cv, rfl, hv⟩ := hs
  have hs : SlP w3 (.slice av ps.length cv) ps := ⟨av, cv, rfl, hv⟩
  have V3 := Lib.hid (hs.keep (bA (bR w3) (.cells #[.slice av ps.length cv] 29)))
  have H3 := Lib.hid ((H2.out.keep hb).keep (bA (bR w3) (.cells #[.slice av ps.length cv] 29)))
  have X3 := Lib.hid (BoxL.new w3 [.slice av ps.length cv] 29)
  clear hs hb hv H2 c0
  go_wp2_with fail
  generalize w3.alloc (.cells #[.slice av ps.length cv] 29) = W3 at *
  generalize w3.heap.size = b3 at *
  refine (CI.out _ _ V3.out).mono ?_
  rintro en w5 ⟨rfl, hb⟩
  have ST := Lib.hid (show SpS w b0 (.slice a len cap) b3 (.slice av ps.length cv) ps w5 from ⟨H3.out.keep hb, X3.out.keep hb, V3.out.keep hb⟩)
  have HT := Lib.hid (fun W (h : IsPR W a len cap ps) => toSpr_ex a len cap ps W h hlen)
  have EQ := Lib.hid (fun va vb W ha hb => eqSpring_same ps va vb W ha hb hmax)
  clear hb V3 H3 X3 CS CI
  have c0 := ST.out.c0
  have c3 := ST.out.c3
  go_wp2_with fail
  go_region_with (first
    | (go_at_call 8; refine (HT.out _ (HA.out.keep (by first | exact ST.out.1.2.drew | exact ST.out.1.2))).mono ?_; rintro en w' ⟨v6, rfl, hs, hb⟩; have V6 := Lib.hid hs; have ST := Lib.hid (show SpS w b0 (.slice a len cap) b3 (.slice av ps.length cv) ps w' from by first | exact SpS.keep (SpS.keep ST.out (bR _).drew) hb | exact SpS.keep ST.out hb); have c3 := ST.out.c3)
    | (go_at_call 10; refine (EQ.out _ _ _ (by first | exact ST.out.2.2 | exact ST.out.2.2.keep (bR _).drew) (by first | exact V6.out | exact V6.out.keep (bR _).drew)).mono ?_; rintro en w' ⟨rfl, hb⟩; have ST := Lib.hid (show SpS w b0 (.slice a len cap) b3 (.slice av ps.length cv) ps w' from by first | exact SpS.keep (SpS.keep ST.out (bR _).drew) hb | exact SpS.keep ST.out hb)))
  all_goals go_wp2_with fail
  all_goals go_ret
  all_goals exact ⟨rfl, ST.out.1.2⟩
end Go.Proofs.Ytdjnopffglcfmaa

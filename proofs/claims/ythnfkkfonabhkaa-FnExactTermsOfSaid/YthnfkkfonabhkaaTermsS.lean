/-
  The contracts of spec.l03Terms, spec.TermsOf and impl.TermsOf.
-/
import Derived.Test.YthnfkkfonabhkaaColl
namespace Go.Proofs.Ythnfkkfonabhkaa
open Go.RowKit

def TrRel (w : World) (n d : Int) (v a b : Value) (wr : World) : Prop :=
  ∃ (pre : List Int) (x y : Int) (g cap : Nat), v = .slice (some ⟨g, 0, none⟩) pre.length cap ∧ a = .int .i64 x ∧ b = .int .i64 y ∧ Row wr (w.heap.size + 1) g cap pre ∧ (okR x y = true ∨ y = 0) ∧ pre.length + y ≤ d ∧ terms n d = pre ++ terms x y ∧ Below w.heap.size w wr
set_option maxRecDepth 100000 in
set_option maxHeartbeats 4000000 in
theorem l03Terms_any (n d : Int) (w : World) (hok : okR n d = true) :
    Calls Try.prog 46 #[.agg #[.int .i64 n, .int .i64 d]] w (CollRet w (terms n d)) := by
  obtain ⟨i0, hi, hz0, hz1, hz2⟩ := info_parts infoI64
  obtain ⟨o1, o2, o3, o4⟩ := okR_bd hok
  have RS := Lib.hid (show TrRel w n d (.slice (some ⟨w.heap.size + 1, 0, none⟩) 0 0) (.int .i64 n) (.int .i64 d) ((w.alloc (.cells #[.int .i64 n, .int .i64 d] 25)).alloc (.cells #[] 2)) from
    ⟨[], n, d, w.heap.size + 1, 0, rfl, rfl, rfl, by simpa using Row.new (w.alloc (.cells #[.int .i64 n, .int .i64 d] 25)), .inl hok, by simp, rfl, bA (bA (bR _) _) _⟩)
  clear hok
  go_enter Try.func46, Try.ntmps46
  go_wp2_with fail
  go_loopw [3, 4, 5] (fun v a b wr => TrRel w n d v a b wr) (fun _ _ b _ => (intOf b).toNat)
  case atStart => exact RS.out
  case round =>
    obtain ⟨pre, x, y, g, cap, rfl, rfl, rfl, hrow, hst, hlen, hts, hb⟩ := hrel
    obtain ⟨g1, g2, g3, g4, _, _⟩ := hrow.parts
    have HW := Lib.hid hrow
    have HTS := Lib.hid hts
    have HB := Lib.hid hb
    have hsz := hb.size
    clear hrow hts hb
    by_cases hy : y = 0
    · subst hy
      clear hst
      go_wp2_with fail
      go_ret
      refine ⟨_, rfl, ?_, HB.out⟩
      rw [HTS.out, terms_zero (by omega), List.append_nil]
      exact HW.out.low (by omega)
    · have hxy : okR x y = true := by rcases hst with h | h; exact h; exact absurd h hy
      obtain ⟨a1, a2, a3, a4⟩ := okR_bd hxy
      obtain ⟨q1, q2⟩ := div_lim a1 a3 a4
      obtain ⟨m1, m2⟩ := mul_bd q1 q2 (show -1000000000 ≤ y by omega) a2
      have HXY := Lib.hid hxy
      clear hst hxy hy
      go_wp2_with fail
      refine (l02Down_any _ _ _ (by omega) (by omega) (by omega)).mono ?_
      rintro e w2' ⟨rfl, rfl⟩
      go_wp2_with (at_builtin; refine wpList_append_own _ rfl _ _ 35 rfl (w.heap.size + 1) 2 i0 (.int .i64 0) 1 8 Try.underlying35 hi hz0 hz1 hz2 rfl (by decide) _ pre.length (intC pre) rfl (HW.out.alloc _) ⟨wr.heap.size, 0, none⟩ 1 1 [.int .i64 (x / y)] rfl ?d1 ?d2 ?d3 ?d4 ?d5 ?d6 ?_)
      try (case d1 => rfl)
      case d2 => exact row_src _ _ _
      case d3 => exact fun u hu => by rw [List.mem_singleton.1 hu]; rfl
      case d4 => unfold maxLen; omega
      case d5 => omega
      case d6 => simp; omega
      intro v' w3 hown hg3 _
      obtain ⟨g', cap', rfl, hrow'⟩ := Row.grown hown
      have HW3 := Lib.hid hrow'
      have HB3 := Lib.hid (bGrown HB.out hg3 (show w.heap.size ≤ g by omega))
      clear hown hg3 hrow'
      by_cases hz : x - x / y * y = 0
      · have HZ := Lib.hid (terms_end HXY.out hz)
        have HZ0 := Lib.hid hz
        clear hz
        go_wp2_with fail
        go_roundw
        case rel => exact ⟨pre ++ [x / y], y, x - x / y * y, g', cap', by rw [List.length_append]; rfl, rfl, rfl, HW3.out, .inr HZ0.out, by have := HZ0.out; simp only [List.length_append, List.length_singleton]; omega, by rw [HTS.out, HZ.out, HZ0.out, terms_zero (n := y) (by omega)]; simp, HB3.out⟩
        case measure => have := HZ0.out; simp [intOf]; omega
      · obtain ⟨t1, t2, t3, t4⟩ := terms_go HXY.out hz
        have HZ := Lib.hid t1
        have HT2 := Lib.hid t2
        clear hz t1 t2
        go_wp2_with fail
        go_roundw
        case rel => exact ⟨pre ++ [x / y], y, x - x / y * y, g', cap', by rw [List.length_append]; rfl, rfl, rfl, HW3.out, .inl HT2.out, by simp only [List.length_append, List.length_singleton]; omega, by rw [HTS.out, HZ.out]; simp, HB3.out⟩
        case measure => simp [intOf]; omega
/-- What TermsOf returns. -/
def trm (n d : Int) : List Int := if okR n d then terms n d else []
def trC (n d : Int) : Int := if okR n d then 0 else 1
theorem tr_yes {n d : Int} (h : okR n d = true) : trm n d = terms n d ∧ trC n d = 0 := by simp [trm, trC, h]
theorem tr_no {n d : Int} (h : okR n d = false) : trm n d = [] ∧ trC n d = 1 := by simp [trm, trC, h]
def TrPost (w : World) (ts : List Int) (c : Int) (e : Ending) (w' : World) : Prop := ∃ v, e = .returned (.tuple #[v, .int .i64 c]) ∧ w'.ownsRow w.heap.size 2 1 v ts.length (intC ts) ∧ Below w.heap.size w w'
theorem own_from {w w1 W : World} {v : Value} {ts : List Int} (h : W.ownsRow w1.heap.size 2 1 v ts.length (intC ts)) (hs : w.heap.size ≤ w1.heap.size) : W.ownsRow w.heap.size 2 1 v ts.length (intC ts) := own_low h hs
theorem TermsOfS_any (n d : Int) (w : World) :
    Calls Try.prog 19 #[.agg #[.int .i64 n, .int .i64 d]] w (TrPost w (trm n d) (trC n d)) := by
  cases hok : okR n d
  · obtain ⟨e1, e2⟩ := tr_no hok
    rw [e1, e2]
    clear e1 e2
    go_enter Try.func19, Try.ntmps19
    go_wp2_with fail
    refine (l02Ok_any _ _ _).mono ?_
    rintro e w1 ⟨rfl, hb1⟩
    go_wp2_with fail
    go_ret2
    exact ⟨_, rfl, World.ownsRow_nil _ _ _ _, bT (bA (bR _) _) hb1⟩
  · obtain ⟨e1, e2⟩ := tr_yes hok
    rw [e1, e2]
    clear e1 e2
    go_enter Try.func19, Try.ntmps19
    go_wp2_with fail
    have B0 := Box2.new w n d 25
    refine (l02Ok_any _ _ _).mono ?_
    rintro e w1 ⟨rfl, hb1⟩
    obtain ⟨x0, x1, x2, x3, x4⟩ := B0.keep hb1
    have HB1 := Lib.hid (bT (bA (bR _) _) hb1)
    clear B0 hb1
    go_wp2_with fail
    refine (l03Terms_any _ _ _ hok).mono ?_
    rintro e w2 ⟨v, rfl, hv, hb2⟩
    have HV := Lib.hid (own_from hv (by have := HB1.out.size; omega))
    have HB2 := Lib.hid (bT HB1.out hb2)
    clear hv hb2
    go_wp2_with fail
    go_ret2
    exact ⟨_, rfl, HV.out, HB2.out⟩
set_option maxHeartbeats 1000000 in
theorem TermsOfI_any (n d : Int) (w : World) :
    Calls Try.prog 20 #[.agg #[.int .i64 n, .int .i64 d]] w (TrPost w (trm n d) (trC n d)) := by
  cases hok : okR n d
  · obtain ⟨e1, e2⟩ := tr_no hok
    rw [e1, e2]
    clear e1 e2
    go_enter Try.func20, Try.ntmps20
    go_wp2_with fail
    refine (valid_any _ _ _).mono ?_
    rintro e w1 ⟨rfl, hb1⟩
    go_wp2_with fail
    go_ret2
    exact ⟨_, rfl, World.ownsRow_nil _ _ _ _, bT (bA (bR _) _) hb1⟩
  · obtain ⟨e1, e2⟩ := tr_yes hok
    rw [e1, e2]
    clear e1 e2
    obtain ⟨o1, o2, o3, o4⟩ := okR_bd hok
    go_enter Try.func20, Try.ntmps20
    go_wp2_with fail
    have B0 := Box2.new w n d 25
    refine (valid_any _ _ _).mono ?_
    rintro e w1 ⟨rfl, hb1⟩
    obtain ⟨x0, x1, x2, x3, x4⟩ := B0.keep hb1
    have HB1 := Lib.hid (bT (bA (bR _) _) hb1)
    clear B0 hb1
    go_wp2_with fail
    refine (terms_any _ _ _).mono ?_
    rintro e w2 ⟨rfl, rfl⟩
    have hl := terms_len n d (by omega) (by omega)
    have hP := termsP n d w1.heap.size (w1.alloc (.cells #[.int .i64 n, .int .i64 d] 25)) hok (by simp) (by simp [go_sem]) (by simp [go_sem])
    have HC := Lib.hid (Collect_any 72 _ none1 _ (terms n d) _ (w1.alloc (.cells #[.int .i64 n, .int .i64 d] 25)) (enters_of Try.func72 (by kernel_rfl) rfl) (fun _ h => h.elim) (by omega) hP)
    clear hP hl
    go_wp2_with fail
    refine HC.out.mono ?_
    rintro e w3 ⟨v, rfl, hv, hb3⟩
    have HV := Lib.hid (own_from (w := w) hv (by have := HB1.out.size; simp; omega))
    have HB2 := Lib.hid (bT (bA HB1.out _) hb3)
    clear hv hb3 HC
    go_wp2_with fail
    go_ret2
    exact ⟨_, rfl, HV.out, HB2.out⟩
end Go.Proofs.Ythnfkkfonabhkaa

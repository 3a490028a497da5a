/-
  The contracts of spec.l03Simplest and spec.SimplestBetween.
-/
import Derived.Test.YthnfkkfonabhkaaOwn
import Derived.Test.YthnfkkfonabhkaaSmp2
import Derived.Test.YthnfkkfonabhkaaCmpS
namespace Go.Proofs.Ythnfkkfonabhkaa
open Go.RowKit

/-- What the loop of l03Simplest keeps. -/
def SimRel (w : World) (n d p q : Int) (v : Value) (wr : World) : Prop :=
  ∃ (n' d' p' q' : Int) (ts : List Int) (g cap : Nat), okR n' d' = true ∧ okR p' q' = true ∧ n' * q' ≤ p' * d' ∧ ts.length + d' + q' ≤ d + q ∧ v = .slice (some ⟨g, 0, none⟩) ts.length cap ∧ Row wr (w.heap.size + 3) g cap ts ∧
    Box2 wr w.heap.size n' d' ∧ Box2 wr (w.heap.size + 1) p' q' ∧ Box2 wr (w.heap.size + 1 + 1) 0 0 ∧ Below w.heap.size w wr ∧ Sim n d p q ts n' d' p' q' ∧ ∀ u ∈ ts, -9223372036854775808 ≤ u ∧ u ≤ 9223372036854775807
def SimRet (w : World) (n d p q : Int) (e : Ending) (w' : World) : Prop := e = .returned (.agg #[.int .i64 (smpX n d p q).1, .int .i64 (smpX n d p q).2]) ∧ Below w.heap.size w w'
theorem sim_start (w : World) (n d p q : Int) (h1 : okR n d = true) (h2 : okR p q = true) (ho : n * q ≤ p * d) (T : TypeId) :
    SimRel w n d p q (.slice (some ⟨w.heap.size + 1 + 1 + 1, 0, none⟩) 0 0) ((((w.alloc (.cells #[.int .i64 n, .int .i64 d] T)).alloc (.cells #[.int .i64 p, .int .i64 q] T)).alloc (.cells #[.int .i64 0, .int .i64 0] T)).alloc (.cells #[] 2)) := by
  refine ⟨n, d, p, q, [], _, 0, h1, h2, ho, by simp, rfl, ?_, ?_, ?_, ?_, ?_, Sim.start n d p q, by simp⟩
  · have := Row.new (((w.alloc (.cells #[.int .i64 n, .int .i64 d] T)).alloc (.cells #[.int .i64 p, .int .i64 q] T)).alloc (.cells #[.int .i64 0, .int .i64 0] T))
    simpa using this
  · exact (((Box2.new w n d T).alloc _).alloc _).alloc _
  · have := ((Box2.new (w.alloc (.cells #[.int .i64 n, .int .i64 d] T)) p q T).alloc (.cells #[.int .i64 0, .int .i64 0] T)).alloc (.cells #[] 2)
    simpa using this
  · have := (Box2.new ((w.alloc (.cells #[.int .i64 n, .int .i64 d] T)).alloc (.cells #[.int .i64 p, .int .i64 q] T)) 0 0 T).alloc (.cells #[] 2)
    simpa using this
  · exact bA (bA (bA (bA (bR _) _) _) _) _
theorem cf_pair {ts : List Int} {r : Int × Int} (h : cfR ts = some r) : cfA ts = r.1 ∧ cfB ts = r.2 ∧ cfK ts = true := by simp [cfA, cfB, cfK, h]
/-- What a cell holds. -/
def cellI (w : World) (b o : Nat) : Int := match w.cell? ⟨b, o, none⟩ with | some (.int _ n) => n | _ => 0
theorem Box2.den {w : World} {b : Nat} {x y : Int} (h : Box2 w b x y) : cellI w b 1 = y := by unfold cellI; rw [h.c1]
def simM (w wr : World) : Nat := (cellI wr w.heap.size 1 + cellI wr (w.heap.size + 1) 1).toNat
theorem simM_eq {w wr : World} {n d p q : Int} (h1 : Box2 wr w.heap.size n d) (h2 : Box2 wr (w.heap.size + 1) p q) : simM w wr = (d + q).toNat := by unfold simM; rw [h1.den, h2.den]
theorem row_mem {ts : List Int} {c : Int} (h : ∀ u ∈ ts, -9223372036854775808 ≤ u ∧ u ≤ 9223372036854775807) (hc : -9223372036854775808 ≤ c ∧ c ≤ 9223372036854775807) : ∀ u ∈ ts ++ [c], -9223372036854775808 ≤ u ∧ u ≤ 9223372036854775807 := by
  intro u hu
  rcases List.mem_append.1 hu with hu | hu
  · exact h u hu
  · rw [List.mem_singleton.1 hu]; exact hc
set_option maxHeartbeats 4000000 in
theorem l03Simplest_any (n d p q : Int) (w : World) (h1 : okR n d = true) (h2 : okR p q = true) (ho : n * q ≤ p * d) :
    Calls Try.prog 56 #[.agg #[.int .i64 n, .int .i64 d], .agg #[.int .i64 p, .int .i64 q]] w (SimRet w n d p q) := by
  obtain ⟨i0, hi, hz0, hz1, hz2⟩ := info_parts infoI64
  have RS := Lib.hid (sim_start w n d p q h1 h2 ho 25)
  have HK1 := Lib.hid h1
  have HK2 := Lib.hid h2
  have HO := Lib.hid ho
  obtain ⟨a1, a2, a3, a4⟩ := okR_bd h1
  obtain ⟨b1, b2, b3, b4⟩ := okR_bd h2
  clear h1 h2 ho
  go_enter Try.func56, Try.ntmps56
  go_wp2_with fail
  go_loopw [5] (fun v wr => SimRel w n d p q v wr) (fun _ wr => simM w wr)
  case atStart => exact RS.out
  case round =>
    obtain ⟨n', d', p', q', ts, g, cap, k1, k2, ko, hlen, rfl, hrow, hA, hB, hR, hb, hS, hall⟩ := hrel
    obtain ⟨g1, g2, g3, g4, _, _⟩ := hrow.parts
    obtain ⟨e1, e2, e3, e4⟩ := okR_bd k1
    obtain ⟨j1, j2, j3, j4⟩ := okR_bd k2
    have HW := Lib.hid hrow
    have HA := Lib.hid hA
    have HB := Lib.hid hB
    have HR := Lib.hid hR
    have HL := Lib.hid hb
    have HS := Lib.hid hS
    have HM := Lib.hid hall
    have K1 := Lib.hid k1
    have K2 := Lib.hid k2
    have KO := Lib.hid ko
    obtain ⟨x0, x1, x2, x3, x4⟩ := hA
    obtain ⟨y0, y1, y2, y3, y4⟩ := hB
    clear hrow hR hb hS hall ko
    by_cases hw : upI n' d' ≤ p' / q'
    · obtain ⟨f1, f2⟩ := HS.out.last HK1.out HK2.out HO.out k1 k2 hw
      have F1 := Lib.hid f1
      have F2 := Lib.hid f2
      have hc : -9223372036854775808 ≤ max (upI n' d') (min (p' / q') 0) ∧ max (upI n' d') (min (p' / q') 0) ≤ 9223372036854775807 := by
        obtain ⟨c1, c2⟩ := div_lim (n := -n') e1 (by omega) (by omega)
        obtain ⟨d1, d2⟩ := div_lim j1 j3 j4
        unfold upI; omega
      have HC := Lib.hid (row_mem HM.out hc)
      have HWH := Lib.hid hw
      clear f1 f2 hw hc
      go_wp2_with fail
      refine (whole_yes _ _ _ _ _ K1.out K2.out HWH.out).mono ?_
      rintro e w2 ⟨rfl, hb2⟩
      generalize max (upI n' d') (min (p' / q') 0) = c at *
      have HB2 := Lib.hid hb2
      have hsz := hb2.size
      clear hb2
      go_wp2_with (at_builtin; refine wpList_append_own _ rfl _ _ 35 rfl (w.heap.size + 3) 2 i0 (.int .i64 0) 1 8 Try.underlying35 hi hz0 hz1 hz2 rfl (by decide) _ ts.length (intC ts) rfl ((HW.out.keep HB2.out).alloc _) ⟨w2.heap.size, 0, none⟩ 1 1 [.int .i64 c] rfl ?c1 ?c2 ?c3 ?c4 ?c5 ?c6 ?_)
      try (case c1 => rfl)
      case c2 => exact row_src _ _ _
      case c3 => exact fun u hu => by rw [List.mem_singleton.1 hu]; rfl
      case c4 => unfold maxLen; omega
      case c5 => omega
      case c6 => have := HL.out.size; simp; omega
      intro v' w3 hown hg3 _
      obtain ⟨g', cap', rfl, hrow'⟩ := Row.grown hown
      have HW3 := Lib.hid hrow'
      have HB3 := Lib.hid (bGrown (bT HL.out HB2.out) hg3 (show w.heap.size ≤ g by omega))
      have HR3 := Lib.hid (((HR.out.keep HB2.out).alloc _).grown hg3 (show some g ≠ some (w.heap.size + 1 + 1) by simp; omega))
      clear hown hg3 hrow'
      have hl1 : ts.length + 1 = (ts ++ [c]).length := by simp
      have HL1 := Lib.hid hl1
      obtain ⟨q1, q2, q3, q4, q5, _⟩ := HW3.out.parts
      have HQ := Lib.hid q5
      clear q5 hl1
      go_wp2_with fail
      rw [HL1.out]
      refine (l03Ratio_any (ts ++ [c]) g' cap' w3 (by simp) (by rw [← HL1.out]; omega) q2 HQ.out F2.out HC.out).mono ?_
      rintro e w4 ⟨rfl, hb4⟩
      obtain ⟨f1, f2, f3⟩ := cf_pair F1.out
      rw [f1, f2, f3]
      clear f1 f2 f3
      have HR4 := Lib.hid (HR3.out.keep hb4)
      obtain ⟨r0, r1, r2, r3, r4⟩ := HR4.out
      have HB4 := Lib.hid (bT HB3.out hb4)
      clear hb4
      generalize hX : (smpX n d p q).1 = X
      generalize hY : (smpX n d p q).2 = Y
      have HX := Lib.hid hX
      have HY := Lib.hid hY
      clear hX hY
      go_wp2_with fail
      refine bodyPost_ret (v := .agg #[.int .i64 X, .int .i64 Y]) ?_ rfl ⟨by rw [HX.out, HY.out], ?_⟩
      · simp [results, Try.results56, go_sem, r0, r1, r4]
      · first | exact bA ((HB4.out.setCell (by simp; omega) _).setCell (by simp; omega) _) _ | exact ((bA HB4.out _).setCell (by simp; omega) _).setCell (by simp; omega) _
    · have hno : p' / q' < upI n' d' := by omega
      obtain ⟨s1, s2, s3, s4, s5⟩ := step_ok k1 k2 KO.out hno
      obtain ⟨dl1, dl2⟩ := div_lim e1 e3 e4
      obtain ⟨m1, m2⟩ := mul_bd dl1 dl2 (show -1000000000 ≤ d' by omega) e2
      obtain ⟨m3, m4⟩ := mul_bd dl1 dl2 (show -1000000000 ≤ q' by omega) j2
      have HN := Lib.hid hno
      have HS2 := Lib.hid (HS.out.step k1 k2 KO.out hno)
      have S1 := Lib.hid s1
      have S2 := Lib.hid s2
      have S3 := Lib.hid s3
      have HC := Lib.hid (row_mem (c := n' / d') HM.out (by omega))
      clear hw hno s1 s2 s3
      go_wp2_with fail
      refine (whole_no _ _ _ _ _ K1.out K2.out HN.out).mono ?_
      rintro e w2 ⟨rfl, hb2⟩
      have HB2 := Lib.hid hb2
      have hsz := hb2.size
      have HA2 := Lib.hid (HA.out.keep hb2)
      have HBB2 := Lib.hid (HB.out.keep hb2)
      clear hb2 x0 x1 x2 x3 x4 y0 y1 y2 y3 y4
      obtain ⟨x0, x1, x2, x3, x4⟩ := HA2.out
      obtain ⟨y0, y1, y2, y3, y4⟩ := HBB2.out
      go_wp2_with fail
      refine (l02Down_any _ _ _ (by omega) (by omega) (by omega)).mono ?_
      rintro e w2' ⟨rfl, rfl⟩
      generalize n' / d' = c at *
      go_wp2_with (at_builtin; refine wpList_append_own _ rfl _ _ 35 rfl (w.heap.size + 3) 2 i0 (.int .i64 0) 1 8 Try.underlying35 hi hz0 hz1 hz2 rfl (by decide) _ ts.length (intC ts) rfl ((HW.out.keep HB2.out).alloc _) ⟨w2.heap.size, 0, none⟩ 1 1 [.int .i64 c] rfl ?d1 ?d2 ?d3 ?d4 ?d5 ?d6 ?_)
      try (case d1 => rfl)
      case d2 => exact row_src _ _ _
      case d3 => exact fun u hu => by rw [List.mem_singleton.1 hu]; rfl
      case d4 => unfold maxLen; omega
      case d5 => omega
      case d6 => have := HL.out.size; simp; omega
      intro v' w3 hown hg3 _
      obtain ⟨g', cap', rfl, hrow'⟩ := Row.grown hown
      have HW3 := Lib.hid hrow'
      have HB3 := Lib.hid (bGrown (bT HL.out HB2.out) hg3 (show w.heap.size ≤ g by omega))
      have HR3 := Lib.hid (((HR.out.keep HB2.out).alloc _).grown hg3 (show some g ≠ some (w.heap.size + 1 + 1) by simp; omega))
      have HA3 := Lib.hid ((HA2.out.alloc _).grown hg3 (show some g ≠ some (w.heap.size) by simp; omega))
      have HBB3 := Lib.hid ((HBB2.out.alloc _).grown hg3 (show some g ≠ some (w.heap.size + 1) by simp; omega))
      clear hown hg3 hrow' x0 x1 x2 x3 x4 y0 y1 y2 y3 y4
      obtain ⟨x0, x1, x2, x3, x4⟩ := HA3.out
      obtain ⟨y0, y1, y2, y3, y4⟩ := HBB3.out
      go_wp2_with fail
      obtain ⟨q1, q2, q3, q4, _, _⟩ := HW3.out.parts
      have NA := Lib.hid ((((HA3.out.set q' (p' - c * q')).other (b' := w.heap.size + 1) (o := 0) (v := .int .i64 d') (by omega)).other (b' := w.heap.size + 1) (o := 1) (v := .int .i64 (n' - c * d')) (by omega)).alloc (.cells #[.int .i64 d', .int .i64 (n' - c * d')] 25))
      have NB := Lib.hid ((((HBB3.out.other (b' := w.heap.size) (o := 0) (v := .int .i64 q') (by omega)).other (b' := w.heap.size) (o := 1) (v := .int .i64 (p' - c * q')) (by omega)).set d' (n' - c * d')).alloc (.cells #[.int .i64 d', .int .i64 (n' - c * d')] 25))
      go_roundw
      case rel =>
        refine ⟨q', p' - c * q', d', n' - c * d', ts ++ [c], g', cap', S1.out, S2.out, S3.out, ?_, by rw [List.length_append]; rfl, ?_, NA.out, NB.out, ?_, ?_, HS2.out, HC.out⟩
        · simp only [List.length_append, List.length_singleton]; omega
        · exact ((((HW3.out.other (by simp; omega) _).other (by simp; omega) _).other (by simp; omega) _).other (by simp; omega) _).alloc _
        · exact ((((HR3.out.other (by omega)).other (by omega)).other (by omega)).other (by omega)).alloc _
        · exact bA ((((HB3.out.setCell (by simp) _).setCell (by simp) _).setCell (by simp) _).setCell (by simp) _) _
      case measure =>
        show simM w _ < simM w _
        rw [simM_eq NA.out NB.out, simM_eq HA.out HB.out]; omega
end Go.Proofs.Ythnfkkfonabhkaa

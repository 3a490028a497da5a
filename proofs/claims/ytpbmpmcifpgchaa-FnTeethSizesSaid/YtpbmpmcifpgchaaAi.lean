/-
  The draws of FnTeethSizes: spec.DrawThicknessBounds, DrawFitModule.
-/
import Derived.Test.YtpbmpmcifpgchaaAe
import Derived.Test.YtpbmpmcifpgchaaAh
import Derived.Test.YtpbmpmcifpgchaaRoll
namespace Go.Proofs.Ytpbmpmcifpgchaa
open Go.RowKit

theorem bsetB {w w' : World} {r : Nat} {v0 v1 v2 v3 v4 v5 : Value} (h : Below w.heap.size w w') (hr : w.heap.size ≤ r) : Below w.heap.size w ((((((w'.setCell ⟨r, 0, none⟩ v0).setCell ⟨r, 1, none⟩ v1).setCell ⟨r, 2, none⟩ v2).setCell ⟨r, 3, none⟩ v3).setCell ⟨r, 4, none⟩ v4).setCell ⟨r, 5, none⟩ v5) :=
  (((((h.setCell hr _).setCell hr _).setCell hr _).setCell hr _).setCell hr _).setCell hr _
def PfkDraw (w : World) (e : Ending) (w' : World) : Prop := ∃ t m k s c h b : Int, e = .returned (.tuple #[.agg #[.int .i64 t, .int .i64 m, .int .i64 k, .int .i64 s, .int .i64 c, .int .i64 h], .int .i64 b]) ∧ Below w.heap.size w w'
set_option maxRecDepth 100000 in
set_option maxHeartbeats 2500000 in
theorem DrawThicknessBounds_any (w : World) (a : Option Addr) (len cap : Nat) (zs : List Int) (h : IsRow .u8 w a len cap zs) :
    Calls Try.prog 25 #[.slice a len cap] w (PfkDraw w) := by
  have A0 := Lib.hid (h.keep (bA (bR w) (.cells #[.int .i64 0, .int .i64 0, .int .i64 0, .int .i64 0, .int .i64 0, .int .i64 0] 30)))
  have L0 := Lib.hid (bA (bR w) (.cells #[.int .i64 0, .int .i64 0, .int .i64 0, .int .i64 0, .int .i64 0, .int .i64 0] 30))
  have Q0 := Lib.hid (BoxL.new w [.int .i64 0, .int .i64 0, .int .i64 0, .int .i64 0, .int .i64 0, .int .i64 0] 30)
  have hw : (w.alloc (.cells #[.int .i64 0, .int .i64 0, .int .i64 0, .int .i64 0, .int .i64 0, .int .i64 0] 30)).heap.size = w.heap.size + 1 := by simp
  clear h
  go_enter Try.func25, Try.ntmps25
  go_wp2_with fail
  generalize w.alloc (.cells #[.int .i64 0, .int .i64 0, .int .i64 0, .int .i64 0, .int .i64 0, .int .i64 0] 30) = W0 at *
  refine (l00From_any W0 a len cap zs A0.out).mono ?_
  rintro e w1 ⟨rfl, s1, hb⟩
  have S1 := Lib.hid s1
  have L1 := Lib.hid (bT L0.out hb)
  have Q1 := Lib.hid (Q0.out.keep hb)
  clear s1 hb A0 L0 Q0
  generalize hpp : W0.heap.size = p at S1 ⊢
  have hwp : w.heap.size ≤ p := by omega
  have hwn : w.heap.size ≠ p := by omega
  go_wp2_with fail
  refine (l10Bent_any _ p a len cap 0 S1.out (by omega)).mono ?_
  rintro e w2 ⟨t, m, k, s, c, h, _, hm, _, _, rfl, d2⟩
  have hp2 := d2.src.lt
  have L2 := Lib.hid (bA (below_grown L1.out d2.gr hwp) (.cells #[.int .i64 t, .int .i64 m, .int .i64 k, .int .i64 s, .int .i64 c, .int .i64 h] 30))
  have Q2 := Lib.hid ((Q1.out.grownA d2.gr hwn).alloc (.cells #[.int .i64 t, .int .i64 m, .int .i64 k, .int .i64 s, .int .i64 c, .int .i64 h] 30))
  have S2 := Lib.hid (d2.src.keep (bA (bR w2) (.cells #[.int .i64 t, .int .i64 m, .int .i64 k, .int .i64 s, .int .i64 c, .int .i64 h] 30)))
  have X2 := Lib.hid (BoxL.new w2 [.int .i64 t, .int .i64 m, .int .i64 k, .int .i64 s, .int .i64 c, .int .i64 h] 30)
  have hb5 : w.heap.size < w2.heap.size := by have := (Q1.out.grownA d2.gr hwn).lt; omega
  have hnp : w2.heap.size ≠ p := by omega
  clear d2 L1 Q1 S1
  go_wp2_with fail
  generalize w2.alloc (.cells #[.int .i64 t, .int .i64 m, .int .i64 k, .int .i64 s, .int .i64 c, .int .i64 h] 30) = W2 at *
  generalize w2.heap.size = b5 at *
  refine (pick_any _ p a len cap _ 12 S2.out (by omega) (by omega) (by omega)).mono ?_
  rintro e w3 ⟨b, b0, b1, rfl, s3, g3⟩
  have S3 := Lib.hid s3
  have L3 := Lib.hid (below_grown L2.out g3 hwp)
  have Q3 := Lib.hid (Q2.out.grownA g3 hwn)
  have X3 := Lib.hid (X2.out.grownA g3 hnp)
  clear s3 g3 S2 L2 Q2 X2
  go_wp2_with fail
  refine (oneQ_any _ p a len cap _ 6 S3.out (by omega) (by omega) (by omega)).mono ?_
  rintro e w4 ⟨q, rfl, s4, g4⟩
  have S4 := Lib.hid s4
  have L4 := Lib.hid (below_grown L3.out g4 hwp)
  have Q4 := Lib.hid (Q3.out.grownA g4 hwn)
  have X4 := Lib.hid (X3.out.grownA g4 hnp)
  clear s4 g4 S3 L3 Q3 X3
  have n1 : ¬ w.heap.size = b5 := by omega
  have n2 : ¬ b5 = w.heap.size := by omega
  cases q
  · obtain ⟨q0, q1, q2, q3, q4, q5, q6⟩ := Q4.out.c6
    obtain ⟨r0, r1, r2, r3, r4, r5⟩ := Q4.out.f6
    obtain ⟨x0, x1, x2, x3, x4, x5, x6⟩ := X4.out.c6
    go_wp2_with fail
    exact bodyPost_ret (v := .tuple #[.agg #[.int .i64 t, .int .i64 m, .int .i64 k, .int .i64 s, .int .i64 c, .int .i64 h], .int .i64 b]) (by simp [results, Try.results25, go_sem, q0, q1, q2, q3, q4, q5]) rfl ⟨t, m, k, s, c, h, b, rfl, bsetB L4.out (Nat.le_refl _)⟩
  · obtain ⟨x0, x1, x2, x3, x4, x5, x6⟩ := X4.out.c6
    go_wp2_with fail
    clear x0 x1 x2 x3 x4 x5 x6
    refine (among_any _ p a len cap _ _ 3 (-1) 20000 (S4.out.keep (bA (bR _) _)) (by omega) (by omega) (by omega) (by have := S4.out.lt; omega) (by simp) ?hnu).mono ?_
    case hnu =>
      intro i hi
      match i, hi with
      | 0, _ => exact ⟨_, by simp [go_sem]; rfl, by omega, by omega⟩
      | 1, _ => exact ⟨_, by simp [go_sem]; rfl, by omega, by omega⟩
      | 2, _ => exact ⟨_, by simp [go_sem]; rfl, by omega, by omega⟩
    rintro e w5 ⟨u, u0, u1, rfl, s5, g5⟩
    have L5 := Lib.hid (below_grown (bA L4.out _) g5 hwp)
    have Q5 := Lib.hid ((Q4.out.alloc _).grownA g5 hwn)
    have X5 := Lib.hid ((X4.out.alloc _).grownA g5 hnp)
    clear s5 g5 S4 L4 Q4 X4
    obtain ⟨q0, q1, q2, q3, q4, q5, q6⟩ := Q5.out.c6
    obtain ⟨r0, r1, r2, r3, r4, r5⟩ := Q5.out.f6
    obtain ⟨x0, x1, x2, x3, x4, x5, x6⟩ := X5.out.c6
    go_wp2_with fail
    exact bodyPost_ret (v := .tuple #[.agg #[.int .i64 t, .int .i64 m, .int .i64 k, .int .i64 s, .int .i64 c, .int .i64 h], .int .i64 u]) (by simp [results, Try.results25, go_sem, q0, q1, q2, q3, q4, q5]) rfl ⟨t, m, k, s, c, h, u, rfl, bsetB L5.out (Nat.le_refl _)⟩
def PrdDraw (w : World) (e : Ending) (w' : World) : Prop := ∃ x y d : Int, (-1 ≤ d ∧ d ≤ 2000000000) ∧ e = .returned (.tuple #[.agg #[.int .i64 x, .int .i64 y], .int .i64 d]) ∧ Below w.heap.size w w'
theorem BoxL.set2A {w : World} {b : Nat} {u v : Value} (h : BoxL w b [u, v]) (u' v' : Value) : BoxL ((w.setCell ⟨b, 0, none⟩ u').setCell ⟨b, 1, none⟩ v') b [u', v'] := by
  obtain ⟨c0, c1, c2⟩ := h.c2
  obtain ⟨f0, f1⟩ := h.f2
  refine ⟨fun i y e => ?_, fun i y e => ?_, by simpa [World.setCell] using c2⟩
  · match i, e with
    | 0, e => cases e; simp [go_sem, c0]
    | 1, e => cases e; simp [go_sem, c1]
  · match i, e with
    | 0, e => simp [go_sem, f0]
    | 1, e => simp [go_sem, f1]
set_option maxRecDepth 100000 in
set_option maxHeartbeats 4000000 in
theorem DrawFitModule_any (w : World) (a : Option Addr) (len cap : Nat) (zs : List Int) (h : IsRow .u8 w a len cap zs) :
    Calls Try.prog 32 #[.slice a len cap] w (PrdDraw w) := by
  have A0 := Lib.hid (h.keep (bA (bR w) (.cells #[.int .i64 0, .int .i64 0] 52)))
  have L0 := Lib.hid (bA (bR w) (.cells #[.int .i64 0, .int .i64 0] 52))
  have Q0 := Lib.hid (BoxL.new w [.int .i64 0, .int .i64 0] 52)
  have hw : (w.alloc (.cells #[.int .i64 0, .int .i64 0] 52)).heap.size = w.heap.size + 1 := by simp
  clear h
  go_enter Try.func32, Try.ntmps32
  go_wp2_with fail
  generalize w.alloc (.cells #[.int .i64 0, .int .i64 0] 52) = W0 at *
  refine (l00From_any W0 a len cap zs A0.out).mono ?_
  rintro e w1 ⟨rfl, s1, hb⟩
  have S1 := Lib.hid s1
  have L1 := Lib.hid (bT L0.out hb)
  have Q1 := Lib.hid (Q0.out.keep hb)
  clear s1 hb A0 L0 Q0
  generalize hpp : W0.heap.size = p at S1 ⊢
  have hwp : w.heap.size ≤ p := by omega
  have hwn : w.heap.size ≠ p := by omega
  have hp1 := S1.out.lt
  have HXO := Lib.hid (DS.new S1.out).old
  go_wp2_with fail
  refine (l05Bent_any w1 p a len cap 0 S1.out (by omega)).mono ?_
  rintro e w2 ⟨ps, v, rfl, hl, o2, s2, g2⟩
  have S2 := Lib.hid s2
  have O2 := Lib.hid o2
  have L2 := Lib.hid (below_grown L1.out g2 hwp)
  have Q2 := Lib.hid (Q1.out.grownA g2 hwn)
  have W12 := Lib.hid g2.size
  clear s2 o2 g2 S1 L1 Q1
  go_wp2_with fail
  refine (pick_any _ p a len cap _ 90 S2.out (by omega) (by omega) (by omega)).mono ?_
  rintro e w3 ⟨x, x0, x1, rfl, s3, g3⟩
  have S3 := Lib.hid s3
  have W14 := Lib.hid (Nat.le_trans W12.out g3.size)
  have O3 := Lib.hid (own_grown (p := p) O2.out g3 (by omega))
  have L3 := Lib.hid (below_grown L2.out g3 hwp)
  have Q3 := Lib.hid (Q2.out.grownA g3 hwn)
  clear s3 g3 S2 O2 L2 Q2
  go_wp2_with fail
  refine (pick_any _ p a len cap _ 20 S3.out (by omega) (by omega) (by omega)).mono ?_
  rintro e w4 ⟨y, y0, y1, rfl, s4, g4⟩
  have S4 := Lib.hid (s4.keep (bA (bR w4) (.cells #[.int .i64 (6 + x), .int .i64 (6 + y)] 52)))
  have O4 := Lib.hid ((own_grown (p := p) O3.out g4 (by omega)).alloc (.cells #[.int .i64 (6 + x), .int .i64 (6 + y)] 52))
  have L4 := Lib.hid (bA (below_grown L3.out g4 hwp) (.cells #[.int .i64 (6 + x), .int .i64 (6 + y)] 52))
  have Q4 := Lib.hid ((Q3.out.grownA g4 hwn).alloc (.cells #[.int .i64 (6 + x), .int .i64 (6 + y)] 52))
  have X4 := Lib.hid (BoxL.new w4 [.int .i64 (6 + x), .int .i64 (6 + y)] 52)
  have hb6 : w.heap.size < w4.heap.size := by have := (Q3.out.grownA g4 hwn).lt; omega
  have hp4 := s4.lt
  have hnp : w4.heap.size ≠ p := by omega
  have n1 : w.heap.size ≠ w4.heap.size := by omega
  have hlb : w.heap.size ≤ w4.heap.size := by omega
  have h14 : w1.heap.size ≤ w4.heap.size := by have a1 := W14.out; have a2 := g4.size; omega
  clear s4 g4 S3 O3 L3 Q3
  obtain ⟨ao, cp, rfl, hcell⟩ := slP_of O4.out
  go_upto_if 21 with fail
  generalize w4.alloc (.cells #[.int .i64 (6 + x), .int .i64 (6 + y)] 52) = W4 at *
  generalize w4.heap.size = b6 at *
  go_cut [] (fun wx => ∃ x' y' : Int, BoxL wx b6 [.int .i64 x', .int .i64 y'] ∧ BoxL wx w.heap.size [.int .i64 0, .int .i64 0] ∧ SrcAt wx p a len cap 100 ∧ Below w.heap.size w wx)
  case first =>
    by_cases hne : ps.length = 0
    · go_wp2_with fail
      go_meet
      exact ⟨_, _, X4.out, Q4.out, S4.out.mono (by omega), L4.out⟩
    · obtain ⟨g, rfl, hg, hat⟩ := hcell (by omega)
      obtain ⟨e0, e1⟩ := hat 0 (by omega)
      simp only [Nat.zero_mul, Nat.zero_add] at e0 e1
      obtain ⟨c0, c1, c2⟩ := X4.out.c2
      obtain ⟨f0, f1⟩ := X4.out.f2
      have hpos : 0 < ps.length := by omega
      go_wp2_with fail
      go_meet
      exact ⟨_, _, X4.out.set2A _ _, (Q4.out.other n1).other n1, ((S4.out.set (by omega) (fun hl xb xo e => by have := HXO.out hl xb xo e; omega)).set (by omega) (fun hl xb xo e => by have := HXO.out hl xb xo e; omega)).mono (by omega), (L4.out.setCell hlb _).setCell hlb _⟩
  case rest =>
    clear X4 Q4 S4 L4 O4 hcell
    obtain ⟨x', y', x5, q5, s5, l5⟩ := hcut
    have X5 := Lib.hid x5
    have Q5 := Lib.hid q5
    have S5 := Lib.hid s5
    have L5 := Lib.hid l5
    clear x5 q5 s5 l5
    generalize wc = w5 at *
    go_wp2_with fail
    refine (pick_any _ p a len cap _ 60000 S5.out (by omega) (by omega) (by omega)).mono ?_
    rintro e w6 ⟨d, d0, d1, rfl, s6, g6⟩
    have S6 := Lib.hid s6
    have L6 := Lib.hid (below_grown L5.out g6 hwp)
    have Q6 := Lib.hid (Q5.out.grownA g6 hwn)
    have X6 := Lib.hid (X5.out.grownA g6 hnp)
    clear s6 g6 S5 L5 Q5 X5
    go_wp2_with fail
    refine (oneQ_any _ p a len cap _ 8 S6.out (by omega) (by omega) (by omega)).mono ?_
    rintro e w7 ⟨q, rfl, s7, g7⟩
    have S7 := Lib.hid s7
    have L7 := Lib.hid (below_grown L6.out g7 hwp)
    have Q7 := Lib.hid (Q6.out.grownA g7 hwn)
    have X7 := Lib.hid (X6.out.grownA g7 hnp)
    clear s7 g7 S6 L6 Q6 X6
    have n2 : ¬ b6 = w.heap.size := fun e => n1 e.symm
    cases q
    · obtain ⟨q0, q1, q2⟩ := Q7.out.c2
      obtain ⟨r0, r1⟩ := Q7.out.f2
      obtain ⟨c0, c1, c2⟩ := X7.out.c2
      go_wp2_with fail
      exact bodyPost_ret (v := .tuple #[.agg #[.int .i64 x', .int .i64 y'], .int .i64 d]) (by simp [results, Try.results32, go_sem, q0, q1]) rfl ⟨x', y', d, by omega, rfl, (L7.out.setCell (Nat.le_refl _) _).setCell (Nat.le_refl _) _⟩
    · go_wp2_with fail
      refine (among_any _ p a len cap _ _ 4 0 1000000001 (S7.out.keep (bA (bR _) _)) (by omega) (by omega) (by omega) (by have := S7.out.lt; omega) (by simp) ?hnu).mono ?_
      case hnu =>
        intro i hi
        match i, hi with
        | 0, _ => exact ⟨_, by simp [go_sem]; rfl, by omega, by omega⟩
        | 1, _ => exact ⟨_, by simp [go_sem]; rfl, by omega, by omega⟩
        | 2, _ => exact ⟨_, by simp [go_sem]; rfl, by omega, by omega⟩
        | 3, _ => exact ⟨_, by simp [go_sem]; rfl, by omega, by omega⟩
      rintro e w8 ⟨u, u0, u1, rfl, s8, g8⟩
      have L8 := Lib.hid (below_grown (bA L7.out _) g8 hwp)
      have Q8 := Lib.hid ((Q7.out.alloc _).grownA g8 hwn)
      have X8 := Lib.hid ((X7.out.alloc _).grownA g8 hnp)
      clear s8 g8 S7 L7 Q7 X7
      obtain ⟨q0, q1, q2⟩ := Q8.out.c2
      obtain ⟨r0, r1⟩ := Q8.out.f2
      obtain ⟨c0, c1, c2⟩ := X8.out.c2
      go_wp2_with fail
      exact bodyPost_ret (v := .tuple #[.agg #[.int .i64 x', .int .i64 y'], .int .i64 u]) (by simp [results, Try.results32, go_sem, q0, q1]) rfl ⟨x', y', u, by omega, rfl, (L8.out.setCell (Nat.le_refl _) _).setCell (Nat.le_refl _) _⟩
end Go.Proofs.Ytpbmpmcifpgchaa

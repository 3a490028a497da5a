/-
  The walk of laws.FnExactSamePlate.
-/
import Derived.Test.YtmdfhmoipgaliaaPlE
import Derived.Test.YtmdfhmoipgaliaaWPl
namespace Go.Proofs.Ytmdfhmoipgaliaa
open Go.RowKit

/-- Two plates that came in, in the boxes of a call. -/
def ArgQ (w : World) (bl bm : Nat) (W H M G W2 H2 M2 G2 : Int) (pa : Option Addr) (pn pc : Nat) (qa : Option Addr) (qn qc : Nat) (ss tt : List Sit) (w' : World) : Prop :=
  w'.cell? ⟨bl, 0, none⟩ = some (.int .i64 W) ∧ w'.cell? ⟨bl, 1, none⟩ = some (.int .i64 H) ∧ w'.cell? ⟨bl, 2, none⟩ = some (.int .i64 M) ∧ w'.cell? ⟨bl, 3, none⟩ = some (.int .i64 G) ∧ w'.cell? ⟨bl, 4, none⟩ = some (.slice pa pn pc) ∧ w'.cell? ⟨bm, 0, none⟩ = some (.int .i64 W2) ∧ w'.cell? ⟨bm, 1, none⟩ = some (.int .i64 H2) ∧ w'.cell? ⟨bm, 2, none⟩ = some (.int .i64 M2) ∧ w'.cell? ⟨bm, 3, none⟩ = some (.int .i64 G2) ∧ w'.cell? ⟨bm, 4, none⟩ = some (.slice qa qn qc) ∧ bl < w'.heap.size ∧ bm < w'.heap.size ∧ IsSi w' pa pn pc ss ∧ IsSi w' qa qn qc tt ∧ Below w.heap.size w w'
theorem ArgQ.keep {w : World} {bl bm : Nat} {W H M G W2 H2 M2 G2 : Int} {pa : Option Addr} {pn pc : Nat} {qa : Option Addr} {qn qc : Nat} {ss tt : List Sit} {w' w2 : World} (hb : Below w'.heap.size w' w2) (h : ArgQ w bl bm W H M G W2 H2 M2 G2 pa pn pc qa qn qc ss tt w') : ArgQ w bl bm W H M G W2 H2 M2 G2 pa pn pc qa qn qc ss tt w2 := by
  obtain ⟨a0, a1, a2, a3, a4, b0, b1, b2, b3, b4, e1, e2, e3, e4, e5⟩ := h
  exact ⟨(hb.cell (p := ⟨bl, 0, none⟩) e1).trans a0, (hb.cell (p := ⟨bl, 1, none⟩) e1).trans a1, (hb.cell (p := ⟨bl, 2, none⟩) e1).trans a2, (hb.cell (p := ⟨bl, 3, none⟩) e1).trans a3, (hb.cell (p := ⟨bl, 4, none⟩) e1).trans a4, (hb.cell (p := ⟨bm, 0, none⟩) e2).trans b0, (hb.cell (p := ⟨bm, 1, none⟩) e2).trans b1, (hb.cell (p := ⟨bm, 2, none⟩) e2).trans b2, (hb.cell (p := ⟨bm, 3, none⟩) e2).trans b3, (hb.cell (p := ⟨bm, 4, none⟩) e2).trans b4, Nat.lt_of_lt_of_le e1 hb.size, Nat.lt_of_lt_of_le e2 hb.size, e3.keep hb, e4.keep hb, bT e5 hb⟩
theorem ArgQ.drew {w : World} {bl bm : Nat} {W H M G W2 H2 M2 G2 : Int} {pa : Option Addr} {pn pc : Nat} {qa : Option Addr} {qn qc : Nat} {ss tt : List Sit} {w' : World} (h : ArgQ w bl bm W H M G W2 H2 M2 G2 pa pn pc qa qn qc ss tt w') : ArgQ w bl bm W H M G W2 H2 M2 G2 pa pn pc qa qn qc ss tt w'.drew := h.keep (bR _).drew

/-- What stands when the law compares its arguments at the end. -/
def FinQ (w : World) (bl bm bx by_ : Nat) (W H M G W2 H2 M2 G2 : Int) (pa : Option Addr) (pn pc : Nat) (qa : Option Addr) (qn qc : Nat) (u v : Value) (ss tt : List Sit) (w' : World) : Prop :=
  w'.cell? ⟨bl, 0, none⟩ = some (.int .i64 W) ∧ w'.cell? ⟨bl, 1, none⟩ = some (.int .i64 H) ∧ w'.cell? ⟨bl, 2, none⟩ = some (.int .i64 M) ∧ w'.cell? ⟨bl, 3, none⟩ = some (.int .i64 G) ∧ w'.cell? ⟨bl, 4, none⟩ = some (.slice pa pn pc) ∧ w'.cell? ⟨bm, 0, none⟩ = some (.int .i64 W2) ∧ w'.cell? ⟨bm, 1, none⟩ = some (.int .i64 H2) ∧ w'.cell? ⟨bm, 2, none⟩ = some (.int .i64 M2) ∧ w'.cell? ⟨bm, 3, none⟩ = some (.int .i64 G2) ∧ w'.cell? ⟨bm, 4, none⟩ = some (.slice qa qn qc) ∧ w'.cell? ⟨bx, 0, none⟩ = some (.int .i64 W) ∧ w'.cell? ⟨bx, 1, none⟩ = some (.int .i64 H) ∧ w'.cell? ⟨bx, 2, none⟩ = some (.int .i64 M) ∧ w'.cell? ⟨bx, 3, none⟩ = some (.int .i64 G) ∧ w'.cell? ⟨bx, 4, none⟩ = some u ∧ w'.cell? ⟨by_, 0, none⟩ = some (.int .i64 W2) ∧ w'.cell? ⟨by_, 1, none⟩ = some (.int .i64 H2) ∧ w'.cell? ⟨by_, 2, none⟩ = some (.int .i64 M2) ∧ w'.cell? ⟨by_, 3, none⟩ = some (.int .i64 G2) ∧ w'.cell? ⟨by_, 4, none⟩ = some v ∧ bl < w'.heap.size ∧ bm < w'.heap.size ∧ bx < w'.heap.size ∧ by_ < w'.heap.size ∧ IsSi w' pa pn pc ss ∧ IsSi w' qa qn qc tt ∧ SlSi w' u ss ∧ SlSi w' v tt ∧ Below w.heap.size w w'
theorem FinQ.keep {w : World} {bl bm bx by_ : Nat} {W H M G W2 H2 M2 G2 : Int} {pa : Option Addr} {pn pc : Nat} {qa : Option Addr} {qn qc : Nat} {u v : Value} {ss tt : List Sit} {w' w2 : World} (hb : Below w'.heap.size w' w2) (h : FinQ w bl bm bx by_ W H M G W2 H2 M2 G2 pa pn pc qa qn qc u v ss tt w') : FinQ w bl bm bx by_ W H M G W2 H2 M2 G2 pa pn pc qa qn qc u v ss tt w2 := by
  obtain ⟨a0, a1, a2, a3, a4, b0, b1, b2, b3, b4, c0, c1, c2, c3, c4, d0, d1, d2, d3, d4, e1, e2, e3, e4, e5, e6, e7, e8, e9⟩ := h
  exact ⟨(hb.cell (p := ⟨bl, 0, none⟩) e1).trans a0, (hb.cell (p := ⟨bl, 1, none⟩) e1).trans a1, (hb.cell (p := ⟨bl, 2, none⟩) e1).trans a2, (hb.cell (p := ⟨bl, 3, none⟩) e1).trans a3, (hb.cell (p := ⟨bl, 4, none⟩) e1).trans a4, (hb.cell (p := ⟨bm, 0, none⟩) e2).trans b0, (hb.cell (p := ⟨bm, 1, none⟩) e2).trans b1, (hb.cell (p := ⟨bm, 2, none⟩) e2).trans b2, (hb.cell (p := ⟨bm, 3, none⟩) e2).trans b3, (hb.cell (p := ⟨bm, 4, none⟩) e2).trans b4, (hb.cell (p := ⟨bx, 0, none⟩) e3).trans c0, (hb.cell (p := ⟨bx, 1, none⟩) e3).trans c1, (hb.cell (p := ⟨bx, 2, none⟩) e3).trans c2, (hb.cell (p := ⟨bx, 3, none⟩) e3).trans c3, (hb.cell (p := ⟨bx, 4, none⟩) e3).trans c4, (hb.cell (p := ⟨by_, 0, none⟩) e4).trans d0, (hb.cell (p := ⟨by_, 1, none⟩) e4).trans d1, (hb.cell (p := ⟨by_, 2, none⟩) e4).trans d2, (hb.cell (p := ⟨by_, 3, none⟩) e4).trans d3, (hb.cell (p := ⟨by_, 4, none⟩) e4).trans d4, Nat.lt_of_lt_of_le e1 hb.size, Nat.lt_of_lt_of_le e2 hb.size, Nat.lt_of_lt_of_le e3 hb.size, Nat.lt_of_lt_of_le e4 hb.size, e5.keep hb, e6.keep hb, e7.keep hb, e8.keep hb, bT e9 hb⟩
theorem FinQ.drew {w : World} {bl bm bx by_ : Nat} {W H M G W2 H2 M2 G2 : Int} {pa : Option Addr} {pn pc : Nat} {qa : Option Addr} {qn qc : Nat} {u v : Value} {ss tt : List Sit} {w' : World} (h : FinQ w bl bm bx by_ W H M G W2 H2 M2 G2 pa pn pc qa qn qc u v ss tt w') : FinQ w bl bm bx by_ W H M G W2 H2 M2 G2 pa pn pc qa qn qc u v ss tt w'.drew := h.keep (bR _).drew

theorem toPlate4 (W H M G : Int) (a : Option Addr) (len cap : Nat) (ss : List Sit) (w : World) (h : IsSi w a len cap ss) (hl : ss.length ≤ 1048576) :
    Calls Try.prog 23 #[.agg #[.int .i64 W, .int .i64 H, .int .i64 M, .int .i64 G, .slice a len cap]] w fun e w' => ∃ v, e = .returned (.agg #[.int .i64 W, .int .i64 H, .int .i64 M, .int .i64 G, v]) ∧ OwSi w.heap.size w' v ss ∧ Below w.heap.size w w' :=
  toPlate_any _ ⟨W, H, M, G⟩ ss w ⟨_, _, _, rfl, h⟩ hl
theorem eqPlate4 (W H M G : Int) (ss : List Sit) (u v : Value) (w : World) (ha : SlSi w u ss) (hb : SlSi w v ss) :
    Calls Try.prog 25 #[.agg #[.int .i64 W, .int .i64 H, .int .i64 M, .int .i64 G, u], .agg #[.int .i64 W, .int .i64 H, .int .i64 M, .int .i64 G, v]] w (BoolBel true w) :=
  eqPlate_same ⟨W, H, M, G⟩ ss u v w ha hb
set_option maxRecDepth 100000 in
set_option maxHeartbeats 8000000 in
theorem FnExactSamePlate_walk (v : Value) (p : Pl4) (ss : List Sit) (v' : Value) (p' : Pl4) (tt : List Sit) (w : World) (h : IsPt w v p ss) (h' : IsPt w v' p' tt) :
    Calls Try.prog 6 #[v, v'] w fun e w' => e = .returned (.bool true) ∧ Below w.heap.size w w' := by
  obtain ⟨pa, pn, pc, rfl, hA⟩ := h
  obtain ⟨qa, qn, qc, rfl, hB⟩ := h'
  obtain ⟨W, H, M, G⟩ := p
  obtain ⟨W2, H2, M2, G2⟩ := p'
  have CS := Lib.hid (fun u v W' (h : SlSi W' u ss) (h2 : SlSi W' v tt) => SamePlateS_any ⟨W, H, M, G⟩ ⟨W2, H2, M2, G2⟩ ss tt u v W' h h2)
  have CI := Lib.hid (fun u v W' (h : SlSi W' u ss) (h2 : SlSi W' v tt) => SamePlateI_any ⟨W, H, M, G⟩ ⟨W2, H2, M2, G2⟩ ss tt u v W' h h2)
  generalize smP ⟨W, H, M, G⟩ ⟨W2, H2, M2, G2⟩ ss tt = q at *
  have hne : (q != q) = false := by simp
  unfold plV at CS CI
  unfold plV
  have X := Lib.hid ((BoxL.new w [.int .i64 W, .int .i64 H, .int .i64 M, .int .i64 G, .slice pa pn pc] 40).alloc (.cells #[.int .i64 W2, .int .i64 H2, .int .i64 M2, .int .i64 G2, .slice qa qn qc] 40))
  have Y := Lib.hid (BoxL.at_ (w := w.alloc (.cells #[.int .i64 W, .int .i64 H, .int .i64 M, .int .i64 G, .slice pa pn pc] 40)) (b := w.heap.size + 1) (vs := [.int .i64 W2, .int .i64 H2, .int .i64 M2, .int .i64 G2, .slice qa qn qc]) (T := 40) (by simp))
  have L0 := Lib.hid (bA (bA (bR w) (.cells #[.int .i64 W, .int .i64 H, .int .i64 M, .int .i64 G, .slice pa pn pc] 40)) (.cells #[.int .i64 W2, .int .i64 H2, .int .i64 M2, .int .i64 G2, .slice qa qn qc] 40))
  have HS0 : Hid (ArgQ w w.heap.size (w.heap.size + 1) W H M G W2 H2 M2 G2 pa pn pc qa qn qc ss tt ((w.alloc (.cells #[.int .i64 W, .int .i64 H, .int .i64 M, .int .i64 G, .slice pa pn pc] 40)).alloc (.cells #[.int .i64 W2, .int .i64 H2, .int .i64 M2, .int .i64 G2, .slice qa qn qc] 40))) := Lib.hid (by
    obtain ⟨a0, a1, a2, a3, a4, a5⟩ := X.out.c5
    obtain ⟨b0, b1, b2, b3, b4, b5⟩ := Y.out.c5
    exact ⟨a0, a1, a2, a3, a4, b0, b1, b2, b3, b4, a5, b5, hA.keep L0.out, hB.keep L0.out, L0.out⟩)
  clear hA hB X Y L0
  go_enter Try.func6, Try.ntmps6
  go_wp2_with fail
  generalize (w.alloc (.cells #[.int .i64 W, .int .i64 H, .int .i64 M, .int .i64 G, .slice pa pn pc] 40)).alloc (.cells #[.int .i64 W2, .int .i64 H2, .int .i64 M2, .int .i64 G2, .slice qa qn qc] 40) = W0 at *
  generalize w.heap.size + 1 = bm at *
  generalize hbl : w.heap.size = bl at HS0 ⊢
  have HBL := Lib.hid hbl
  clear hbl
  refine (szPlate_any _ ⟨W, H, M, G⟩ ss 1048576 _ ⟨_, _, _, rfl, HS0.out.2.2.2.2.2.2.2.2.2.2.2.2.1⟩ (by omega) (by omega)).mono ?_
  rintro e w1 ⟨r, rfl, r1, r2, r3, hb⟩
  have HS1 := Lib.hid (ArgQ.keep hb HS0.out)
  have R := Lib.hid r3
  clear hb r3 HS0
  by_cases hr : r < 0
  · have HL := Lib.hid HS1.out.2.2.2.2.2.2.2.2.2.2.2.2.2.2
    go_wp2_with fail
    go_ret
    exact ⟨rfl, HL.out⟩
  have HL1 := Lib.hid (R.out (by omega))
  obtain ⟨a0, a1, a2, a3, a4, b0, b1, b2, b3, b4, a5, b5, _⟩ := HS1.out
  go_wp2_with fail
  refine (szPlate_any _ ⟨W2, H2, M2, G2⟩ tt r _ ⟨_, _, _, rfl, HS1.out.2.2.2.2.2.2.2.2.2.2.2.2.2.1⟩ (by omega) (by omega)).mono ?_
  rintro e w2 ⟨s, rfl, s1, s2, s3, hb⟩
  have HS2 := Lib.hid (ArgQ.keep hb HS1.out)
  have S3 := Lib.hid s3
  clear hb s3 HS1 a0 a1 a2 a3 a4 b0 b1 b2 b3 b4 a5 b5
  by_cases hs : s < 0
  · have HL := Lib.hid HS2.out.2.2.2.2.2.2.2.2.2.2.2.2.2.2
    go_wp2_with fail
    go_ret
    exact ⟨rfl, HL.out⟩
  have HL2 := Lib.hid (S3.out (by omega))
  have HA2 : ArgQ w bl bm W H M G W2 H2 M2 G2 pa pn pc qa qn qc ss tt w2 := HS2.out
  go_upto_region 8 with fail
  go_region_held3 (fun w' => w'.cell? ⟨bl, 0, none⟩ = some (.int .i64 W) ∧ w'.cell? ⟨bl, 1, none⟩ = some (.int .i64 H) ∧ w'.cell? ⟨bl, 2, none⟩ = some (.int .i64 M) ∧ w'.cell? ⟨bl, 3, none⟩ = some (.int .i64 G) ∧ w'.cell? ⟨bl, 4, none⟩ = some (.slice pa pn pc) ∧ w'.cell? ⟨bm, 0, none⟩ = some (.int .i64 W2) ∧ w'.cell? ⟨bm, 1, none⟩ = some (.int .i64 H2) ∧ w'.cell? ⟨bm, 2, none⟩ = some (.int .i64 M2) ∧ w'.cell? ⟨bm, 3, none⟩ = some (.int .i64 G2) ∧ w'.cell? ⟨bm, 4, none⟩ = some (.slice qa qn qc) ∧ bl < w'.heap.size ∧ bm < w'.heap.size ∧ IsSi w' pa pn pc ss ∧ IsSi w' qa qn qc tt ∧ Below w.heap.size w w') (first | exact HA2.drew | assumption | exact ArgQ.keep hb (by first | assumption | exact HA2.drew))
    (first
      | (go_at_call 23; have hS : ArgQ w bl bm W H M G W2 H2 M2 G2 pa pn pc qa qn qc ss tt _ := (by first | assumption | exact HA2.drew); have hI1 := hS.2.2.2.2.2.2.2.2.2.2.2.2.1; have hI2 := hS.2.2.2.2.2.2.2.2.2.2.2.2.2.1; clear hS; first | (with_reducible refine (toPlate4 _ _ _ _ _ _ _ ss _ hI1 HL1.out).mono ?_; clear hI1 hI2; rintro e w' ⟨u3, rfl, hA, hb⟩; first | (have ZB := Lib.hid (OwSi.keep ZB.out hb); have ZA := Lib.hid hA) | (have ZA := Lib.hid hA)) | (with_reducible refine (toPlate4 _ _ _ _ _ _ _ tt _ hI2 HL2.out).mono ?_; clear hI1 hI2; rintro e w' ⟨u4, rfl, hA, hb⟩; first | (have ZA := Lib.hid (OwSi.keep ZA.out hb); have ZB := Lib.hid hA) | (have ZB := Lib.hid hA)))
      | (go_at_call 26; refine (CS.out _ _ _ (OwSi.sl ZA.out) (OwSi.sl ZB.out)).mono ?_; rintro e w' ⟨rfl, hb⟩))
  have HA3 := Lib.hid (show ArgQ w bl bm W H M G W2 H2 M2 G2 pa pn pc qa qn qc ss tt w' by assumption)
  clear hb HA2 HS2 ZA ZB CS
  generalize w' = w3 at *
  obtain ⟨a0, a1, a2, a3, a4, b0, b1, b2, b3, b4, a5, b5, i1, i2, _⟩ := HA3.out
  go_wp2_with fail
  refine (toPlate4 W H M G pa pn pc ss _ i1 HL1.out).mono ?_
  rintro e w4 ⟨u1, rfl, hU, hb⟩
  obtain ⟨_, ao, an, rfl, _⟩ := id hU.sl
  have hb' : Below w4.heap.size w4 (w4.alloc (.cells #[.int .i64 W, .int .i64 H, .int .i64 M, .int .i64 G, .slice ao ss.length an] 45)) := bA (bR _) _
  have HA4 := Lib.hid (ArgQ.keep hb' (ArgQ.keep hb HA3.out))
  have Z1 := Lib.hid (hU.sl.keep hb')
  have X1 := Lib.hid (BoxL.new w4 [.int .i64 W, .int .i64 H, .int .i64 M, .int .i64 G, .slice ao ss.length an] 45)
  clear hU hb hb' HA3 a0 a1 a2 a3 a4 b0 b1 b2 b3 b4 a5 b5 i1 i2
  obtain ⟨a0, a1, a2, a3, a4, b0, b1, b2, b3, b4, a5, b5, i1, i2, _⟩ := HA4.out
  go_wp2_with fail
  generalize w4.alloc (.cells #[.int .i64 W, .int .i64 H, .int .i64 M, .int .i64 G, .slice ao ss.length an] 45) = W4 at *
  generalize w4.heap.size = bx at *
  refine (toPlate4 W2 H2 M2 G2 qa qn qc tt _ i2 HL2.out).mono ?_
  rintro e w5 ⟨u2, rfl, hU, hb⟩
  obtain ⟨_, bo, bn, rfl, _⟩ := id hU.sl
  have hb' : Below w5.heap.size w5 (w5.alloc (.cells #[.int .i64 W2, .int .i64 H2, .int .i64 M2, .int .i64 G2, .slice bo tt.length bn] 45)) := bA (bR _) _
  have HA5 := Lib.hid (ArgQ.keep hb' (ArgQ.keep hb HA4.out))
  have Z2 := Lib.hid ((Z1.out.keep hb).keep hb')
  have Z3 := Lib.hid (hU.sl.keep hb')
  have X2 := Lib.hid ((X1.out.keep hb).keep hb')
  have Y2 := Lib.hid (BoxL.new w5 [.int .i64 W2, .int .i64 H2, .int .i64 M2, .int .i64 G2, .slice bo tt.length bn] 45)
  clear hU hb hb' HA4 Z1 X1 a0 a1 a2 a3 a4 b0 b1 b2 b3 b4 a5 b5 i1 i2
  obtain ⟨c0, c1, c2, c3, c4, c5⟩ := X2.out.c5
  obtain ⟨d0, d1, d2, d3, d4, d5⟩ := Y2.out.c5
  go_wp2_with fail
  generalize w5.alloc (.cells #[.int .i64 W2, .int .i64 H2, .int .i64 M2, .int .i64 G2, .slice bo tt.length bn] 45) = W5 at *
  generalize w5.heap.size = by_ at *
  refine (CI.out _ _ _ Z2.out Z3.out).mono ?_
  rintro e w6 ⟨rfl, hb⟩
  have HF : FinQ w bl bm bx by_ W H M G W2 H2 M2 G2 pa pn pc qa qn qc (.slice ao ss.length an) (.slice bo tt.length bn) ss tt w6 := FinQ.keep hb (by
    obtain ⟨a0, a1, a2, a3, a4, b0, b1, b2, b3, b4, a5, b5, i1, i2, L⟩ := HA5.out
    exact ⟨a0, a1, a2, a3, a4, b0, b1, b2, b3, b4, c0, c1, c2, c3, c4, d0, d1, d2, d3, d4, a5, b5, c5, d5, i1, i2, Z2.out, Z3.out, L⟩)
  clear hb HA5 Z2 Z3 X2 Y2 c0 c1 c2 c3 c4 c5 d0 d1 d2 d3 d4 d5 CI
  go_wp2_with fail
  go_region_held3 (fun w' => w'.cell? ⟨bl, 0, none⟩ = some (.int .i64 W) ∧ w'.cell? ⟨bl, 1, none⟩ = some (.int .i64 H) ∧ w'.cell? ⟨bl, 2, none⟩ = some (.int .i64 M) ∧ w'.cell? ⟨bl, 3, none⟩ = some (.int .i64 G) ∧ w'.cell? ⟨bl, 4, none⟩ = some (.slice pa pn pc) ∧ w'.cell? ⟨bm, 0, none⟩ = some (.int .i64 W2) ∧ w'.cell? ⟨bm, 1, none⟩ = some (.int .i64 H2) ∧ w'.cell? ⟨bm, 2, none⟩ = some (.int .i64 M2) ∧ w'.cell? ⟨bm, 3, none⟩ = some (.int .i64 G2) ∧ w'.cell? ⟨bm, 4, none⟩ = some (.slice qa qn qc) ∧ w'.cell? ⟨bx, 0, none⟩ = some (.int .i64 W) ∧ w'.cell? ⟨bx, 1, none⟩ = some (.int .i64 H) ∧ w'.cell? ⟨bx, 2, none⟩ = some (.int .i64 M) ∧ w'.cell? ⟨bx, 3, none⟩ = some (.int .i64 G) ∧ w'.cell? ⟨bx, 4, none⟩ = some (.slice ao ss.length an) ∧ w'.cell? ⟨by_, 0, none⟩ = some (.int .i64 W2) ∧ w'.cell? ⟨by_, 1, none⟩ = some (.int .i64 H2) ∧ w'.cell? ⟨by_, 2, none⟩ = some (.int .i64 M2) ∧ w'.cell? ⟨by_, 3, none⟩ = some (.int .i64 G2) ∧ w'.cell? ⟨by_, 4, none⟩ = some (.slice bo tt.length bn) ∧ bl < w'.heap.size ∧ bm < w'.heap.size ∧ bx < w'.heap.size ∧ by_ < w'.heap.size ∧ IsSi w' pa pn pc ss ∧ IsSi w' qa qn qc tt ∧ SlSi w' (.slice ao ss.length an) ss ∧ SlSi w' (.slice bo tt.length bn) tt ∧ Below w.heap.size w w') (first | exact HF.drew | assumption | exact FinQ.keep hb (by first | assumption | exact HF.drew))
    (first
      | (go_at_call 23; have hS : FinQ w bl bm bx by_ W H M G W2 H2 M2 G2 pa pn pc qa qn qc (.slice ao ss.length an) (.slice bo tt.length bn) ss tt _ := (by first | assumption | exact HF.drew); have hI := hS.2.2.2.2.2.2.2.2.2.2.2.2.2.2.2.2.2.2.2.2.2.2.2.2.1; clear hS; refine (toPlate4 _ _ _ _ _ _ _ ss _ hI HL1.out).mono ?_; clear hI; rintro e w' ⟨u3, rfl, hA, hb⟩)
      | (go_at_call 25; have hS : FinQ w bl bm bx by_ W H M G W2 H2 M2 G2 pa pn pc qa qn qc (.slice ao ss.length an) (.slice bo tt.length bn) ss tt _ := (by first | assumption | exact HF.drew); have hV := hS.2.2.2.2.2.2.2.2.2.2.2.2.2.2.2.2.2.2.2.2.2.2.2.2.2.2.1; clear hS; refine (eqPlate4 _ _ _ _ ss _ _ _ hV (OwSi.sl (by assumption))).mono ?_; clear hV; rintro e w' ⟨rfl, hb⟩))
  have HF2 : FinQ w bl bm bx by_ W H M G W2 H2 M2 G2 pa pn pc qa qn qc (.slice ao ss.length an) (.slice bo tt.length bn) ss tt w' := by assumption
  clear hb HF
  go_upto_region 16 with fail
  generalize w' = w7 at *
  go_region_held3 (fun w' => w'.cell? ⟨bl, 0, none⟩ = some (.int .i64 W) ∧ w'.cell? ⟨bl, 1, none⟩ = some (.int .i64 H) ∧ w'.cell? ⟨bl, 2, none⟩ = some (.int .i64 M) ∧ w'.cell? ⟨bl, 3, none⟩ = some (.int .i64 G) ∧ w'.cell? ⟨bl, 4, none⟩ = some (.slice pa pn pc) ∧ w'.cell? ⟨bm, 0, none⟩ = some (.int .i64 W2) ∧ w'.cell? ⟨bm, 1, none⟩ = some (.int .i64 H2) ∧ w'.cell? ⟨bm, 2, none⟩ = some (.int .i64 M2) ∧ w'.cell? ⟨bm, 3, none⟩ = some (.int .i64 G2) ∧ w'.cell? ⟨bm, 4, none⟩ = some (.slice qa qn qc) ∧ w'.cell? ⟨bx, 0, none⟩ = some (.int .i64 W) ∧ w'.cell? ⟨bx, 1, none⟩ = some (.int .i64 H) ∧ w'.cell? ⟨bx, 2, none⟩ = some (.int .i64 M) ∧ w'.cell? ⟨bx, 3, none⟩ = some (.int .i64 G) ∧ w'.cell? ⟨bx, 4, none⟩ = some (.slice ao ss.length an) ∧ w'.cell? ⟨by_, 0, none⟩ = some (.int .i64 W2) ∧ w'.cell? ⟨by_, 1, none⟩ = some (.int .i64 H2) ∧ w'.cell? ⟨by_, 2, none⟩ = some (.int .i64 M2) ∧ w'.cell? ⟨by_, 3, none⟩ = some (.int .i64 G2) ∧ w'.cell? ⟨by_, 4, none⟩ = some (.slice bo tt.length bn) ∧ bl < w'.heap.size ∧ bm < w'.heap.size ∧ bx < w'.heap.size ∧ by_ < w'.heap.size ∧ IsSi w' pa pn pc ss ∧ IsSi w' qa qn qc tt ∧ SlSi w' (.slice ao ss.length an) ss ∧ SlSi w' (.slice bo tt.length bn) tt ∧ Below w.heap.size w w') (first | exact HF2.drew | assumption | exact FinQ.keep hb (by first | assumption | exact HF2.drew))
    (first
      | (go_at_call 23; have hS : FinQ w bl bm bx by_ W H M G W2 H2 M2 G2 pa pn pc qa qn qc (.slice ao ss.length an) (.slice bo tt.length bn) ss tt _ := (by first | assumption | exact HF2.drew); have hI := hS.2.2.2.2.2.2.2.2.2.2.2.2.2.2.2.2.2.2.2.2.2.2.2.2.2.1; clear hS; refine (toPlate4 _ _ _ _ _ _ _ tt _ hI HL2.out).mono ?_; clear hI; rintro e w' ⟨u3, rfl, hA, hb⟩)
      | (go_at_call 25; have hS : FinQ w bl bm bx by_ W H M G W2 H2 M2 G2 pa pn pc qa qn qc (.slice ao ss.length an) (.slice bo tt.length bn) ss tt _ := (by first | assumption | exact HF2.drew); have hV := hS.2.2.2.2.2.2.2.2.2.2.2.2.2.2.2.2.2.2.2.2.2.2.2.2.2.2.2.1; clear hS; refine (eqPlate4 _ _ _ _ tt _ _ _ hV (OwSi.sl (by assumption))).mono ?_; clear hV; rintro e w' ⟨rfl, hb⟩))
  have HF3 : FinQ w bl bm bx by_ W H M G W2 H2 M2 G2 pa pn pc qa qn qc (.slice ao ss.length an) (.slice bo tt.length bn) ss tt w' := by assumption
  have HU := Lib.hid HF3.2.2.2.2.2.2.2.2.2.2.2.2.2.2.2.2.2.2.2.2.2.2.2.2.2.2.2.2
  clear hb HF2 HF3
  go_wp2_with fail
  go_ret
  exact ⟨rfl, HU.out⟩
end Go.Proofs.Ytmdfhmoipgaliaa

/-
  Draws of an escapement, a number and a state.
-/
import Derived.Test.YtkagciekoeaijaaEsF
namespace Go.Proofs.Ytkagciekoeaijaa
open Go.RowKit

theorem BoxL.set2E {w : World} {b : Nat} {x0 x1 v0 v1 : Value} (h : BoxL w b [x0, x1]) : BoxL ((w.setCell ⟨b, 0, none⟩ v0).setCell ⟨b, 1, none⟩ v1) b [v0, v1] :=
  BoxL.setD (i := 1) (v := v1) (BoxL.setD (i := 0) (v := v0) h rfl) rfl
theorem BoxL.oth2E {w : World} {b b' : Nat} {vs : List Value} {v0 v1 : Value} (h : BoxL w b vs) (hn : ¬ b = b') : BoxL ((w.setCell ⟨b', 0, none⟩ v0).setCell ⟨b', 1, none⟩ v1) b vs := (h.other hn).other hn
theorem BoxL.oth5E {w : World} {b b' : Nat} {vs : List Value} {v0 v1 v2 v3 v4 : Value} (h : BoxL w b vs) (hn : ¬ b = b') : BoxL (((((w.setCell ⟨b', 0, none⟩ v0).setCell ⟨b', 1, none⟩ v1).setCell ⟨b', 2, none⟩ v2).setCell ⟨b', 3, none⟩ v3).setCell ⟨b', 4, none⟩ v4) b vs := ((((h.other hn).other hn).other hn).other hn).other hn
/-- A drawn escapement, a number and a state. -/
def EsqbDraw (lo hi : Int) (w : World) (en : Ending) (w' : World) : Prop := ∃ t u i l m q e k : Int, (-1 ≤ m ∧ m ≤ 150000) ∧ (lo ≤ q ∧ q ≤ hi) ∧ (-1 ≤ e ∧ e ≤ 200000) ∧ (-1 ≤ k ∧ k ≤ 1000000001) ∧ en = .returned (.tuple #[.agg #[.int .i64 t, .int .i64 u, .int .i64 i, .int .i64 l, .int .i64 m], .int .i64 q, .agg #[.int .i64 e, .int .i64 k]]) ∧ Below w.heap.size w w'
set_option maxRecDepth 100000 in
set_option maxHeartbeats 2000000 in
theorem DrawSwing_any (w : World) (a : Option Addr) (len cap : Nat) (zs : List Int) (h : IsRow .u8 w a len cap zs) :
    Calls Try.prog 47 #[.slice a len cap] w (EsqbDraw (-1) 1001 w) := by
  have A0 := Lib.hid (h.keep (bA (bA (bR w) (.cells #[.int .i64 0, .int .i64 0, .int .i64 0, .int .i64 0, .int .i64 0] 25)) (.cells #[.int .i64 0, .int .i64 0] 28)))
  have L0 := Lib.hid (bA (bA (bR w) (.cells #[.int .i64 0, .int .i64 0, .int .i64 0, .int .i64 0, .int .i64 0] 25)) (.cells #[.int .i64 0, .int .i64 0] 28))
  have Q0 := Lib.hid ((BoxL.new w [.int .i64 0, .int .i64 0, .int .i64 0, .int .i64 0, .int .i64 0] 25).alloc (.cells #[.int .i64 0, .int .i64 0] 28))
  have R0 := Lib.hid (BoxL.at_ (w := w.alloc (.cells #[.int .i64 0, .int .i64 0, .int .i64 0, .int .i64 0, .int .i64 0] 25)) (b := w.heap.size + 1) (vs := [.int .i64 0, .int .i64 0]) (T := 28) (by simp))
  have hw : ((w.alloc (.cells #[.int .i64 0, .int .i64 0, .int .i64 0, .int .i64 0, .int .i64 0] 25)).alloc (.cells #[.int .i64 0, .int .i64 0] 28)).heap.size = w.heap.size + 2 := by simp
  have lq : w.heap.size ≤ w.heap.size + 1 := by omega
  have nqr : ¬ w.heap.size = w.heap.size + 1 := by omega
  clear h
  have HW := Lib.hid hw
  clear hw
  go_enter Try.func47, Try.ntmps47
  go_wp2_with fail
  generalize (w.alloc (.cells #[.int .i64 0, .int .i64 0, .int .i64 0, .int .i64 0, .int .i64 0] 25)).alloc (.cells #[.int .i64 0, .int .i64 0] 28) = W0 at *
  refine (l00From_any W0 a len cap zs A0.out).mono ?_
  rintro en w1 ⟨rfl, s1, hb⟩
  have S1 := Lib.hid s1
  have L1 := Lib.hid (bT L0.out hb)
  have Q1 := Lib.hid (Q0.out.keep hb)
  have R1 := Lib.hid (R0.out.keep hb)
  have hw := HW.out
  clear s1 hb A0 L0 Q0 R0 HW
  generalize hpp : W0.heap.size = p at S1 ⊢
  have hwp : w.heap.size ≤ p := by omega
  have hwn : w.heap.size ≠ p := by omega
  have hwr : w.heap.size + 1 ≠ p := by omega
  clear hw
  generalize hbr : w.heap.size + 1 = br at *
  go_wp2_with fail
  refine (l11Bent_any _ p a len cap 0 S1.out (by omega)).mono ?_
  rintro en w2 ⟨t, u, i, l, m, ht, hu, hi, hl, hm, rfl, d2⟩
  have L2 := Lib.hid (grownE_bel L1.out d2.gr hwp)
  have Q2 := Lib.hid (Q1.out.grownA d2.gr hwn)
  have R2 := Lib.hid (R1.out.grownA d2.gr hwr)
  have S2 := Lib.hid d2.src
  have HM := Lib.hid hm
  clear d2 L1 Q1 S1 R1 ht hu hi hl hm
  have hp2 := S2.out.lt
  have Q3 := Lib.hid (Q2.out.alloc (.cells #[.int .i64 t, .int .i64 u, .int .i64 i, .int .i64 l, .int .i64 m] 25))
  have R3 := Lib.hid (R2.out.alloc (.cells #[.int .i64 t, .int .i64 u, .int .i64 i, .int .i64 l, .int .i64 m] 25))
  have S3 := Lib.hid (S2.out.keep (bA (bR w2) (.cells #[.int .i64 t, .int .i64 u, .int .i64 i, .int .i64 l, .int .i64 m] 25)))
  have X3 := Lib.hid (BoxL.new w2 [.int .i64 t, .int .i64 u, .int .i64 i, .int .i64 l, .int .i64 m] 25)
  have L3 := Lib.hid (bA L2.out (.cells #[.int .i64 t, .int .i64 u, .int .i64 i, .int .i64 l, .int .i64 m] 25))
  have hnp : w2.heap.size ≠ p := by omega
  have hnr : ¬ w2.heap.size = w.heap.size := by have := Q2.out.lt; omega
  have hnr2 : ¬ w2.heap.size = br := by have := R2.out.lt; omega
  clear L2 Q2 S2 R2
  go_upto_region 3 with fail
  generalize w2.alloc (.cells #[.int .i64 t, .int .i64 u, .int .i64 i, .int .i64 l, .int .i64 m] 25) = W2 at *
  generalize w2.heap.size = b5 at *
  go_wp2_with fail
  refine (l11DrawTorque_any _ p a len cap _ S3.out (by omega)).mono ?_
  rintro en w3 ⟨q, hq, rfl, ds⟩
  have Q4 := Lib.hid ((Q3.out.grownA ds.gr hwn).keep (bR _).drew)
  have R4 := Lib.hid ((R3.out.grownA ds.gr hwr).keep (bR _).drew)
  have X4 := Lib.hid ((X3.out.grownA ds.gr hnp).keep (bR _).drew)
  have S4 := Lib.hid (ds.src.keep (bR _).drew)
  have L4 := Lib.hid (grownE_bel L3.out ds.gr hwp).drew
  have HQ := Lib.hid hq
  clear ds hq Q3 R3 X3 S3 L3
  obtain ⟨c0, c1, c2, c3, c4, c5⟩ := X4.out.c5
  go_upto_region 4 with fail
  go_cut [3] (fun s3 wx => s3 = .int .i64 q ∧ ∃ e k : Int, (-1 ≤ e ∧ e ≤ 200000) ∧ (-1 ≤ k ∧ k ≤ 1000000001) ∧ BoxL wx w.heap.size [.int .i64 t, .int .i64 u, .int .i64 i, .int .i64 l, .int .i64 m] ∧ BoxL wx br [.int .i64 e, .int .i64 k] ∧ Below w.heap.size w wx)
  case first =>
    go_region_with (go_at_call 35; refine (l11DrawBeat_any _ p a len cap _ _ _ _ _ _ (by exact S4.out) (by omega) HM.out).mono ?_; rintro en w4 ⟨e, k, he, hk, rfl, ds⟩; have Z1 := Lib.hid (BoxL.grownA Q4.out ds.gr hwn); have Z2 := Lib.hid (BoxL.grownA R4.out ds.gr hwr); obtain ⟨z0, z1, z2, z3, z4, z5⟩ := Z1.out.c5; obtain ⟨y0, y1, y2, y3, y4⟩ := Z1.out.f5; obtain ⟨x0, x1, x2⟩ := Z2.out.c2; obtain ⟨v0, v1⟩ := Z2.out.f2; have X5 := Lib.hid (BoxL.grownA X4.out ds.gr hnp); clear c0 c1 c2 c3 c4 c5; obtain ⟨c0, c1, c2, c3, c4, c5⟩ := X5.out.c5; have L5 := Lib.hid (grownE_bel L4.out ds.gr hwp); have HEK := Lib.hid (And.intro he hk); clear ds he hk)
    all_goals (go_wp2_with fail; go_meet; exact ⟨rfl, e, k, HEK.out.1, HEK.out.2, by first | exact BoxL.oth2E (BoxL.set5E Z1.out) nqr | exact BoxL.set5E (BoxL.oth2E Z1.out nqr), by first | exact BoxL.set2E (BoxL.oth5E Z2.out (Ne.symm nqr)) | exact BoxL.oth5E (BoxL.set2E Z2.out) (Ne.symm nqr), by first | exact bsetS (bsetS (bset5E L5.out (Nat.le_refl _)) lq) lq | exact bset5E (bsetS (bsetS L5.out lq) lq) (Nat.le_refl _)⟩)
  case rest =>
    obtain ⟨rfl, e, k, he, hk, hX, hY, hL⟩ := hcut
    have L5 := Lib.hid hL
    have HEK := Lib.hid (And.intro he hk)
    obtain ⟨z0, z1, z2, z3, z4, z5⟩ := hX.c5
    obtain ⟨x0, x1, x2⟩ := hY.c2
    clear hL hX hY he hk X4 Q4 R4 c0 c1 c2 c3 c4 c5 S4 L4
    generalize wc = w5 at *
    go_wp2_with fail
    exact bodyPost_ret (v := .tuple #[.agg #[.int .i64 t, .int .i64 u, .int .i64 i, .int .i64 l, .int .i64 m], .int .i64 q, .agg #[.int .i64 e, .int .i64 k]]) (by simp [results, Try.results47, go_sem, z0, z1, z2, z3, z4, x0, x1]) rfl ⟨t, u, i, l, m, q, e, k, HM.out, HQ.out, HEK.out.1, HEK.out.2, rfl, L5.out⟩
set_option maxRecDepth 100000 in
set_option maxHeartbeats 2000000 in
theorem DrawLeastTorque_any (w : World) (a : Option Addr) (len cap : Nat) (zs : List Int) (h : IsRow .u8 w a len cap zs) :
    Calls Try.prog 23 #[.slice a len cap] w (EsqbDraw (-1) 2001 w) := by
  have A0 := Lib.hid (h.keep (bA (bA (bR w) (.cells #[.int .i64 0, .int .i64 0, .int .i64 0, .int .i64 0, .int .i64 0] 25)) (.cells #[.int .i64 0, .int .i64 0] 28)))
  have L0 := Lib.hid (bA (bA (bR w) (.cells #[.int .i64 0, .int .i64 0, .int .i64 0, .int .i64 0, .int .i64 0] 25)) (.cells #[.int .i64 0, .int .i64 0] 28))
  have Q0 := Lib.hid ((BoxL.new w [.int .i64 0, .int .i64 0, .int .i64 0, .int .i64 0, .int .i64 0] 25).alloc (.cells #[.int .i64 0, .int .i64 0] 28))
  have R0 := Lib.hid (BoxL.at_ (w := w.alloc (.cells #[.int .i64 0, .int .i64 0, .int .i64 0, .int .i64 0, .int .i64 0] 25)) (b := w.heap.size + 1) (vs := [.int .i64 0, .int .i64 0]) (T := 28) (by simp))
  have hw : ((w.alloc (.cells #[.int .i64 0, .int .i64 0, .int .i64 0, .int .i64 0, .int .i64 0] 25)).alloc (.cells #[.int .i64 0, .int .i64 0] 28)).heap.size = w.heap.size + 2 := by simp
  have lq : w.heap.size ≤ w.heap.size + 1 := by omega
  have nqr : ¬ w.heap.size = w.heap.size + 1 := by omega
  clear h
  have HW := Lib.hid hw
  clear hw
  go_enter Try.func23, Try.ntmps23
  go_wp2_with fail
  generalize (w.alloc (.cells #[.int .i64 0, .int .i64 0, .int .i64 0, .int .i64 0, .int .i64 0] 25)).alloc (.cells #[.int .i64 0, .int .i64 0] 28) = W0 at *
  refine (l00From_any W0 a len cap zs A0.out).mono ?_
  rintro en w1 ⟨rfl, s1, hb⟩
  have S1 := Lib.hid s1
  have L1 := Lib.hid (bT L0.out hb)
  have Q1 := Lib.hid (Q0.out.keep hb)
  have R1 := Lib.hid (R0.out.keep hb)
  have hw := HW.out
  clear s1 hb A0 L0 Q0 R0 HW
  generalize hpp : W0.heap.size = p at S1 ⊢
  have hwp : w.heap.size ≤ p := by omega
  have hwn : w.heap.size ≠ p := by omega
  have hwr : w.heap.size + 1 ≠ p := by omega
  clear hw
  generalize hbr : w.heap.size + 1 = br at *
  go_wp2_with fail
  refine (l11Bent_any _ p a len cap 0 S1.out (by omega)).mono ?_
  rintro en w2 ⟨t, u, i, l, m, ht, hu, hi, hl, hm, rfl, d2⟩
  have L2 := Lib.hid (grownE_bel L1.out d2.gr hwp)
  have Q2 := Lib.hid (Q1.out.grownA d2.gr hwn)
  have R2 := Lib.hid (R1.out.grownA d2.gr hwr)
  have S2 := Lib.hid d2.src
  have HM := Lib.hid hm
  clear d2 L1 Q1 S1 R1 ht hu hi hl hm
  have hp2 := S2.out.lt
  have Q3 := Lib.hid (Q2.out.alloc (.cells #[.int .i64 t, .int .i64 u, .int .i64 i, .int .i64 l, .int .i64 m] 25))
  have R3 := Lib.hid (R2.out.alloc (.cells #[.int .i64 t, .int .i64 u, .int .i64 i, .int .i64 l, .int .i64 m] 25))
  have S3 := Lib.hid (S2.out.keep (bA (bR w2) (.cells #[.int .i64 t, .int .i64 u, .int .i64 i, .int .i64 l, .int .i64 m] 25)))
  have X3 := Lib.hid (BoxL.new w2 [.int .i64 t, .int .i64 u, .int .i64 i, .int .i64 l, .int .i64 m] 25)
  have L3 := Lib.hid (bA L2.out (.cells #[.int .i64 t, .int .i64 u, .int .i64 i, .int .i64 l, .int .i64 m] 25))
  have hnp : w2.heap.size ≠ p := by omega
  have hnr : ¬ w2.heap.size = w.heap.size := by have := Q2.out.lt; omega
  have hnr2 : ¬ w2.heap.size = br := by have := R2.out.lt; omega
  clear L2 Q2 S2 R2
  go_upto_region 3 with fail
  generalize w2.alloc (.cells #[.int .i64 t, .int .i64 u, .int .i64 i, .int .i64 l, .int .i64 m] 25) = W2 at *
  generalize w2.heap.size = b5 at *
  go_wp2_with fail
  refine (l11DrawCount_any _ p a len cap _ S3.out (by omega)).mono ?_
  rintro en w3 ⟨q, hq, rfl, ds⟩
  have Q4 := Lib.hid ((Q3.out.grownA ds.gr hwn).keep (bR _).drew)
  have R4 := Lib.hid ((R3.out.grownA ds.gr hwr).keep (bR _).drew)
  have X4 := Lib.hid ((X3.out.grownA ds.gr hnp).keep (bR _).drew)
  have S4 := Lib.hid (ds.src.keep (bR _).drew)
  have L4 := Lib.hid (grownE_bel L3.out ds.gr hwp).drew
  have HQ := Lib.hid hq
  clear ds hq Q3 R3 X3 S3 L3
  obtain ⟨c0, c1, c2, c3, c4, c5⟩ := X4.out.c5
  go_upto_region 4 with fail
  go_cut [3] (fun s3 wx => s3 = .int .i64 q ∧ ∃ e k : Int, (-1 ≤ e ∧ e ≤ 200000) ∧ (-1 ≤ k ∧ k ≤ 1000000001) ∧ BoxL wx w.heap.size [.int .i64 t, .int .i64 u, .int .i64 i, .int .i64 l, .int .i64 m] ∧ BoxL wx br [.int .i64 e, .int .i64 k] ∧ Below w.heap.size w wx)
  case first =>
    go_region_with (go_at_call 35; refine (l11DrawBeat_any _ p a len cap _ _ _ _ _ _ (by exact S4.out) (by omega) HM.out).mono ?_; rintro en w4 ⟨e, k, he, hk, rfl, ds⟩; have Z1 := Lib.hid (BoxL.grownA Q4.out ds.gr hwn); have Z2 := Lib.hid (BoxL.grownA R4.out ds.gr hwr); obtain ⟨z0, z1, z2, z3, z4, z5⟩ := Z1.out.c5; obtain ⟨y0, y1, y2, y3, y4⟩ := Z1.out.f5; obtain ⟨x0, x1, x2⟩ := Z2.out.c2; obtain ⟨v0, v1⟩ := Z2.out.f2; have X5 := Lib.hid (BoxL.grownA X4.out ds.gr hnp); clear c0 c1 c2 c3 c4 c5; obtain ⟨c0, c1, c2, c3, c4, c5⟩ := X5.out.c5; have L5 := Lib.hid (grownE_bel L4.out ds.gr hwp); have HEK := Lib.hid (And.intro he hk); clear ds he hk)
    all_goals (go_wp2_with fail; go_meet; exact ⟨rfl, e, k, HEK.out.1, HEK.out.2, by first | exact BoxL.oth2E (BoxL.set5E Z1.out) nqr | exact BoxL.set5E (BoxL.oth2E Z1.out nqr), by first | exact BoxL.set2E (BoxL.oth5E Z2.out (Ne.symm nqr)) | exact BoxL.oth5E (BoxL.set2E Z2.out) (Ne.symm nqr), by first | exact bsetS (bsetS (bset5E L5.out (Nat.le_refl _)) lq) lq | exact bset5E (bsetS (bsetS L5.out lq) lq) (Nat.le_refl _)⟩)
  case rest =>
    obtain ⟨rfl, e, k, he, hk, hX, hY, hL⟩ := hcut
    have L5 := Lib.hid hL
    have HEK := Lib.hid (And.intro he hk)
    obtain ⟨z0, z1, z2, z3, z4, z5⟩ := hX.c5
    obtain ⟨x0, x1, x2⟩ := hY.c2
    clear hL hX hY he hk X4 Q4 R4 c0 c1 c2 c3 c4 c5 S4 L4
    generalize wc = w5 at *
    go_wp2_with fail
    exact bodyPost_ret (v := .tuple #[.agg #[.int .i64 t, .int .i64 u, .int .i64 i, .int .i64 l, .int .i64 m], .int .i64 q, .agg #[.int .i64 e, .int .i64 k]]) (by simp [results, Try.results23, go_sem, z0, z1, z2, z3, z4, x0, x1]) rfl ⟨t, u, i, l, m, q, e, k, HM.out, HQ.out, HEK.out.1, HEK.out.2, rfl, L5.out⟩
set_option maxRecDepth 100000 in
set_option maxHeartbeats 1000000 in
theorem DrawStopAfter_any (w : World) (a : Option Addr) (len cap : Nat) (zs : List Int) (h : IsRow .u8 w a len cap zs) :
    Calls Try.prog 20 #[.slice a len cap] w (EsqbDraw (-1) 1001 w) := by
  have A0 := Lib.hid (h.keep (bA (bA (bR w) (.cells #[.int .i64 0, .int .i64 0, .int .i64 0, .int .i64 0, .int .i64 0] 25)) (.cells #[.int .i64 0, .int .i64 0] 28)))
  have L0 := Lib.hid (bA (bA (bR w) (.cells #[.int .i64 0, .int .i64 0, .int .i64 0, .int .i64 0, .int .i64 0] 25)) (.cells #[.int .i64 0, .int .i64 0] 28))
  have Q0 := Lib.hid ((BoxL.new w [.int .i64 0, .int .i64 0, .int .i64 0, .int .i64 0, .int .i64 0] 25).alloc (.cells #[.int .i64 0, .int .i64 0] 28))
  have R0 := Lib.hid (BoxL.at_ (w := w.alloc (.cells #[.int .i64 0, .int .i64 0, .int .i64 0, .int .i64 0, .int .i64 0] 25)) (b := w.heap.size + 1) (vs := [.int .i64 0, .int .i64 0]) (T := 28) (by simp))
  have lq : w.heap.size ≤ w.heap.size + 1 := by omega
  have nqr : ¬ w.heap.size = w.heap.size + 1 := by omega
  clear h
  go_enter Try.func20, Try.ntmps20
  go_wp2_with fail
  generalize (w.alloc (.cells #[.int .i64 0, .int .i64 0, .int .i64 0, .int .i64 0, .int .i64 0] 25)).alloc (.cells #[.int .i64 0, .int .i64 0] 28) = W0 at *
  generalize w.heap.size + 1 = br at *
  refine (DrawSwing_any W0 a len cap zs A0.out).mono ?_
  rintro en w1 ⟨t, u, i, l, m, q, e, k, hm, hq, he, hk, rfl, hb⟩
  have L1 := Lib.hid (bT L0.out hb)
  have Q1 := Lib.hid (Q0.out.keep hb)
  have R1 := Lib.hid (R0.out.keep hb)
  clear hb A0 L0 Q0 R0
  obtain ⟨z0, z1, z2, z3, z4, z5⟩ := Q1.out.c5
  obtain ⟨y0, y1, y2, y3, y4⟩ := Q1.out.f5
  obtain ⟨x0, x1, x2⟩ := R1.out.c2
  obtain ⟨v0, v1⟩ := R1.out.f2
  have HB := Lib.hid (And.intro hm (And.intro hq (And.intro he hk)))
  clear hm hq he hk
  go_wp2_with fail
  refine bodyPost_ret (v := .tuple #[.agg #[.int .i64 t, .int .i64 u, .int .i64 i, .int .i64 l, .int .i64 m], .int .i64 q, .agg #[.int .i64 e, .int .i64 k]]) (by simp [results, Try.results20, go_sem, z0, z1, z2, z3, z4, x0, x1]) rfl ⟨t, u, i, l, m, q, e, k, HB.out.1, HB.out.2.1, HB.out.2.2.1, HB.out.2.2.2, rfl, ?_⟩
  first | exact bsetS (bsetS (bset5E L1.out (Nat.le_refl _)) lq) lq | exact bset5E (bsetS (bsetS L1.out lq) lq) (Nat.le_refl _)
end Go.Proofs.Ytkagciekoeaijaa

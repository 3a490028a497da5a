/-
  The contracts of spec.l06Diff, spec.ErrorOf, impl.ErrorOf.
-/
import Derived.Test.YtnndjbngcaafhaaDoorDf
namespace Go.Proofs.YtnndjbngcaafhaaDoor
open Go.RowKit

theorem Box2.set0D {w : World} {b : Nat} {x y : Int} (h : Box2 w b x y) (x' : Int) : Box2 (w.setCell ⟨b, 0, none⟩ (.int .i64 x')) b x' y := by
  have a0 := h.c0
  have a1 := h.c1
  have e0 := h.f0
  have e1 := h.f1
  exact ⟨by simp [go_sem, a0], by simp [go_sem, a1], by simp [go_sem, e0], by simp [go_sem, e1], by simpa [World.setCell] using h.lt⟩
/-- The difference as the model has it. -/
def dsA (ps : List (Int × Int)) (p q : Int) : Int := match trF 1 1 ps with | some r => mkA (addX (absN r.1) r.2 (-p) q) (mulX r.2 q) | none => 0
def dsB (ps : List (Int × Int)) (p q : Int) : Int := match trF 1 1 ps with | some r => mkB (addX (absN r.1) r.2 (-p) q) (mulX r.2 q) | none => 0
def dsK (ps : List (Int × Int)) (p q : Int) : Bool := match trF 1 1 ps with | some r => lowOk (addX (absN r.1) r.2 (-p) q) (mulX r.2 q) | none => false
theorem ds_far {ps : List (Int × Int)} {p q : Int} (h2 : trF 1 1 ps = none) : dsA ps p q = 0 ∧ dsB ps p q = 0 ∧ dsK ps p q = false := by simp [dsA, dsB, dsK, h2]
theorem ds_got {ps : List (Int × Int)} {p q n d : Int} (h2 : trF 1 1 ps = some (n, d)) : dsA ps p q = mkA (addX (absN n) d (-p) q) (mulX d q) ∧ dsB ps p q = mkB (addX (absN n) d (-p) q) (mulX d q) ∧ dsK ps p q = lowOk (addX (absN n) d (-p) q) (mulX d q) := by simp [dsA, dsB, dsK, h2]
/-- Both are one. -/
theorem df_of {ps : List (Int × Int)} {p q : Int} (h : okT ps = true) (h1 : okR p q = true) : dfA ps p q = (if dsK ps p q then dsA ps p q else 0) ∧ dfB ps p q = (if dsK ps p q then dsB ps p q else 0) ∧ dfC ps p q = (if dsK ps p q then 0 else 2) := by
  cases h2 : trF 1 1 ps with
  | none =>
    obtain ⟨a, b, c⟩ := df_far h h1 h2
    obtain ⟨a', b', c'⟩ := ds_far (p := p) (q := q) h2
    rw [a, b, c, a', b', c']; simp
  | some r =>
    obtain ⟨n, d⟩ := r
    obtain ⟨a, b, c⟩ := df_got h h1 h2
    obtain ⟨a', b', c'⟩ := ds_got (p := p) (q := q) h2
    obtain ⟨n1, _⟩ := okR_bd (trF_okay h h2)
    obtain ⟨q1, _⟩ := okR_bd h1
    rw [a, b, c, a', b', c']
    exact r_make (mulX_pos n1 q1)
theorem mkA_bd {x y : Int} : -1000000000 ≤ mkA x y ∧ mkA x y ≤ 1000000000 := by
  unfold mkA
  split
  · rename_i h
    obtain ⟨h1, _⟩ := lowOk_in h
    have h0 : 0 ≤ lowN x y := by unfold lowN; exact Int.ediv_nonneg (by omega) (by omega)
    unfold mkN
    split <;> omega
  · omega
theorem dsA_bd (ps : List (Int × Int)) (p q : Int) : -1000000000 ≤ dsA ps p q ∧ dsA ps p q ≤ 1000000000 := by
  unfold dsA
  split
  · exact mkA_bd
  · omega
theorem dfA_bd (ps : List (Int × Int)) (p q : Int) : -1000000000 ≤ dfA ps p q ∧ dfA ps p q ≤ 1000000000 := by
  by_cases h : okT ps = true
  · by_cases h1 : okR p q = true
    · rw [(df_of h h1).1]
      split
      · exact dsA_bd ps p q
      · omega
    · rw [(df_no1 (by simpa using h1)).1]; omega
  · rw [(df_no2 (by simpa using h)).1]; omega
set_option maxRecDepth 100000 in
set_option maxHeartbeats 4000000 in
theorem ErrorOfI_any (ps : List (Int × Int)) (p q : Int) (v : Value) (w : World) (a0 a1 : Addr) (hS : Sent w a0 a1) (ha : SlP w v ps) (hmax : ps.length ≤ 1000000000000) :
    Calls Tryd.prog 16 #[v, .agg #[.int .i64 p, .int .i64 q]] w (RatC w (absN (dfA ps p q)) (dfB ps p q) (dfC ps p q)) := by
  obtain ⟨b1, b2⟩ := dfA_bd ps p q
  have B0 := Lib.hid (show Box2 ((w.alloc (.cells #[.int .i64 p, .int .i64 q] 32)).alloc (.cells #[.int .i64 0, .int .i64 0] 32)) (w.heap.size + 1) 0 0 by simpa using Box2.new (w.alloc (.cells #[.int .i64 p, .int .i64 q] 32)) 0 0 32)
  have L0 := Lib.hid (bA (bA (bR w) (.cells #[.int .i64 p, .int .i64 q] 32)) (.cells #[.int .i64 0, .int .i64 0] 32))
  have hle : w.heap.size < w.heap.size + 1 := by omega
  have DD := Lib.hid (differenceFrom_any ps p q v _ a0 a1 (hS.keepB L0.out) (ha.keep L0.out) hmax)
  generalize dfA ps p q = x at *
  generalize dfB ps p q = y at *
  generalize dfC ps p q = z at *
  clear hS ha
  go_enter Tryd.func16, Tryd.ntmps16
  go_wp2_with fail
  generalize (w.alloc (.cells #[.int .i64 p, .int .i64 q] 32)).alloc (.cells #[.int .i64 0, .int .i64 0] 32) = W at *
  generalize w.heap.size + 1 = br at *
  refine DD.out.mono ?_
  rintro e w1 ⟨rfl, hb⟩
  have B1 := Lib.hid ((B0.out.keep hb).alloc (.cells #[.int .i64 x, .int .i64 y] 32))
  have X1 := Lib.hid (Box2.new w1 x y 32)
  have L1 := Lib.hid (bA (bT L0.out hb) (.cells #[.int .i64 x, .int .i64 y] 32))
  clear hb DD
  go_wp2_with fail
  generalize w1.alloc (.cells #[.int .i64 x, .int .i64 y] 32) = W1 at *
  generalize w1.heap.size = bt at *
  obtain ⟨t0, t1, _, _, _⟩ := X1.out
  go_wp2_with fail
  refine (absolute_any _ _ _ b1 b2).mono ?_
  rintro e w2 ⟨rfl, hb⟩
  obtain ⟨z0, z1, z2, z3, z4⟩ := B1.out.keep hb
  have L2 := Lib.hid (bT L1.out hb)
  clear hb
  go_wp2_with fail
  refine bodyPost_ret (v := .tuple #[.agg #[.int .i64 (absN x), .int .i64 y], .int .i64 z]) ?_ rfl ⟨rfl, bset (bset L2.out (by omega)) (by omega)⟩
  simp [results, Tryd.results16, go_sem, z0, z1]
set_option maxRecDepth 100000 in
set_option maxHeartbeats 4000000 in
theorem l06Diff_any (ps : List (Int × Int)) (p q : Int) (v : Value) (w : World) (ha : SlP w v ps) (hok : okT ps = true) (hr : okR p q = true) :
    Calls Tryd.prog 31 #[v, .agg #[.int .i64 p, .int .i64 q]] w (RatB w (dsA ps p q) (dsB ps p q) (dsK ps p q)) := by
  have R0 := Lib.hid ((Box2.new w p q 32).alloc (.cells #[.int .i64 0, .int .i64 0] 32))
  have B0 := Lib.hid (show Box2 ((w.alloc (.cells #[.int .i64 p, .int .i64 q] 32)).alloc (.cells #[.int .i64 0, .int .i64 0] 32)) (w.heap.size + 1) 0 0 by simpa using Box2.new (w.alloc (.cells #[.int .i64 p, .int .i64 q] 32)) 0 0 32)
  have L0 := Lib.hid (bA (bA (bR w) (.cells #[.int .i64 p, .int .i64 q] 32)) (.cells #[.int .i64 0, .int .i64 0] 32))
  have hle : w.heap.size < w.heap.size + 1 := by omega
  have TT := Lib.hid (l05Ratio_any ps v _ (ha.keep L0.out) hok)
  obtain ⟨p1, p2, p3, p4⟩ := okR_bd hr
  clear ha
  cases h2 : trF 1 1 ps with
  | none =>
    obtain ⟨q1, q2, q3⟩ := ds_far (p := p) (q := q) h2
    rw [q1, q2, q3]
    have HT := Lib.hid (tr0_far h2)
    clear q1 q2 q3 h2 hok hr
    go_enter Tryd.func31, Tryd.ntmps31
    go_wp2_with fail
    generalize (w.alloc (.cells #[.int .i64 p, .int .i64 q] 32)).alloc (.cells #[.int .i64 0, .int .i64 0] 32) = W at *
    generalize w.heap.size + 1 = br at *
    refine TT.out.mono ?_
    rw [HT.out.1, HT.out.2.1, HT.out.2.2]
    rintro e w2 ⟨rfl, hb⟩
    have L2 := Lib.hid (bT L0.out hb)
    have B2' := Lib.hid (B0.out.keep hb)
    clear hb
    obtain ⟨y0, y1, y2, y3, y4⟩ := B2'.out
    go_wp2_with fail
    refine bodyPost_ret (v := .tuple #[.agg #[.int .i64 0, .int .i64 0], .bool false]) ?_ rfl ⟨rfl, by first | exact bset (bset (bA L2.out _) (by omega)) (by omega) | exact bA (bset (bset L2.out (by omega)) (by omega)) _⟩
    simp [results, Tryd.results31, go_sem, y0, y1, y4]
  | some r =>
    obtain ⟨n, d⟩ := r
    obtain ⟨q1, q2, q3⟩ := ds_got (p := p) (q := q) h2
    rw [q1, q2, q3]
    have HT := Lib.hid (tr0_got h2)
    obtain ⟨n1, n2, n3, n4⟩ := okR_bd (trF_okay hok h2)
    obtain ⟨m1, m2⟩ := absN_bd n3 n4
    have AD := Lib.hid (fun W => l02Add_any (absN n) d (-p) q W (by omega) m2 n1 n2 (by omega) (by omega) p1 p2)
    clear q1 q2 q3 h2 hok hr
    generalize mkA (addX (absN n) d (-p) q) (mulX d q) = x at *
    generalize mkB (addX (absN n) d (-p) q) (mulX d q) = y at *
    generalize lowOk (addX (absN n) d (-p) q) (mulX d q) = z at *
    go_enter Tryd.func31, Tryd.ntmps31
    go_wp2_with fail
    generalize (w.alloc (.cells #[.int .i64 p, .int .i64 q] 32)).alloc (.cells #[.int .i64 0, .int .i64 0] 32) = W at *
    generalize w.heap.size + 1 = br at *
    refine TT.out.mono ?_
    rw [HT.out.1, HT.out.2.1, HT.out.2.2]
    rintro e w2 ⟨rfl, hb⟩
    have hbl := (B0.out.keep hb).lt
    have B2 := Lib.hid ((B0.out.keep hb).alloc (.cells #[.int .i64 n, .int .i64 d] 32))
    have R2 := Lib.hid ((R0.out.keep hb).alloc (.cells #[.int .i64 n, .int .i64 d] 32))
    have L2 := Lib.hid (bA (bT L0.out hb) (.cells #[.int .i64 n, .int .i64 d] 32))
    have N2 := Lib.hid (Box2.new w2 n d 32)
    clear hb TT
    obtain ⟨t0, t1, t2, t3, t4⟩ := N2.out
    go_wp2_with fail
    generalize w2.alloc (.cells #[.int .i64 n, .int .i64 d] 32) = W2 at *
    generalize w2.heap.size = bt at *
    refine (l02Size_any _ _ (by omega)).mono ?_
    rintro e w3 ⟨rfl, rfl⟩
    have eab : ((n.natAbs : Nat) : Int) = absN n := rfl
    rw [eab]
    clear eab
    generalize absN n = an at *
    go_wp2_with fail
    have B3 := Lib.hid (B2.out.other (b' := bt) (o := 0) (v := .int .i64 an) (by omega)).drew
    have R3 := Lib.hid (R2.out.other (b' := bt) (o := 0) (v := .int .i64 an) (by omega)).drew
    have N3 := Lib.hid (N2.out.set0D an)
    have L3 := Lib.hid (show Below w.heap.size w (W2.setCell ⟨bt, 0, none⟩ (.int .i64 an)).drew from (bset L2.out (by omega)).drew)
    clear t0 t1 t2 t3 t4 B2 N2 L2
    generalize W2.setCell ⟨bt, 0, none⟩ (.int .i64 an) = W3 at *
    obtain ⟨v0, v1, _, _, _⟩ := N3.out
    obtain ⟨r0, r1, _, _, _⟩ := R3.out
    go_region_with (first
      | (go_at_call 57; refine (l02Neg_any _ _ _ p3 p4).mono ?_; rintro e w' ⟨rfl, hb⟩; have B4 := Lib.hid (B3.out.keep hb); have L4 := Lib.hid (bT L3.out hb); obtain ⟨u0, u1, _, _, _⟩ := N3.out.drew.keep hb)
      | (go_at_call 56; refine (AD.out _).mono ?_; rintro e w' ⟨rfl, hb⟩; obtain ⟨z0, z1, z2, z3, z4⟩ := B4.out.keep hb; have L5 := Lib.hid (bT L4.out hb)))
    all_goals go_wp2_with fail
    all_goals refine bodyPost_ret (v := .tuple #[.agg #[.int .i64 x, .int .i64 y], .bool z]) ?_ rfl ⟨rfl, ?_⟩
    all_goals first | (simp [Act.put, results, Tryd.results31, go_sem, z0, z1]; done) | exact bset (bset L5.out (by omega)) (by omega)
theorem ret_rcE {a b c a' b' c' : Int} (h1 : a = a') (h2 : b = b') (h3 : c = c') : Ending.returned (.tuple #[.agg #[.int .i64 a, .int .i64 b], .int .i64 c]) = .returned (.tuple #[.agg #[.int .i64 a', .int .i64 b'], .int .i64 c']) := by rw [h1, h2, h3]
set_option maxRecDepth 100000 in
set_option maxHeartbeats 4000000 in
theorem ErrorOfS_any (ps : List (Int × Int)) (p q : Int) (v : Value) (w : World) (ha : SlP w v ps) (hmax : ps.length ≤ 1000000000000) :
    Calls Tryd.prog 13 #[v, .agg #[.int .i64 p, .int .i64 q]] w (RatC w (absN (dfA ps p q)) (dfB ps p q) (dfC ps p q)) := by
  have R0 := Lib.hid ((Box2.new w p q 32).alloc (.cells #[.int .i64 0, .int .i64 0] 32))
  have B0 := Lib.hid (show Box2 ((w.alloc (.cells #[.int .i64 p, .int .i64 q] 32)).alloc (.cells #[.int .i64 0, .int .i64 0] 32)) (w.heap.size + 1) 0 0 by simpa using Box2.new (w.alloc (.cells #[.int .i64 p, .int .i64 q] 32)) 0 0 32)
  have L0 := Lib.hid (bA (bA (bR w) (.cells #[.int .i64 p, .int .i64 q] 32)) (.cells #[.int .i64 0, .int .i64 0] 32))
  have hle : w.heap.size < w.heap.size + 1 := by omega
  have V0 := Lib.hid (ha.keep L0.out)
  have OK := Lib.hid (l05Ok_any ps v _ V0.out hmax)
  clear ha
  cases h : okT ps
  · obtain ⟨q1, q2, q3⟩ := df_no2 (p := p) (q := q) h
    rw [q1, q2, q3]
    rw [h] at OK
    clear q1 q2 q3 h
    go_enter Tryd.func13, Tryd.ntmps13
    go_wp2_with fail
    generalize (w.alloc (.cells #[.int .i64 p, .int .i64 q] 32)).alloc (.cells #[.int .i64 0, .int .i64 0] 32) = W at *
    generalize w.heap.size + 1 = br at *
    refine OK.out.mono ?_
    rintro e w1 ⟨rfl, hb⟩
    obtain ⟨z0, z1, z2, z3, z4⟩ := B0.out.keep hb
    have L1 := Lib.hid (bT L0.out hb)
    clear hb
    go_wp2_with fail
    refine bodyPost_ret (v := .tuple #[.agg #[.int .i64 0, .int .i64 0], .int .i64 1]) ?_ rfl ⟨rfl, bset (bset L1.out (by omega)) (by omega)⟩
    simp [results, Tryd.results13, go_sem, z0, z1]
  · cases h1 : okR p q
    · obtain ⟨q1, q2, q3⟩ := df_no1 (ps := ps) h1
      rw [q1, q2, q3]
      rw [h] at OK
      have OR := Lib.hid (fun W => l02Ok_any p q W)
      rw [h1] at OR
      clear q1 q2 q3 h h1
      go_enter Tryd.func13, Tryd.ntmps13
      go_wp2_with fail
      generalize (w.alloc (.cells #[.int .i64 p, .int .i64 q] 32)).alloc (.cells #[.int .i64 0, .int .i64 0] 32) = W at *
      generalize w.heap.size + 1 = br at *
      refine OK.out.mono ?_
      rintro e w1 ⟨rfl, hb⟩
      have B1 := Lib.hid (B0.out.keep hb)
      obtain ⟨r0, r1, _, _, r4⟩ := R0.out.keep hb
      have L1 := Lib.hid (bT L0.out hb)
      clear hb
      go_wp2_with fail
      refine (OR.out _).mono ?_
      rintro e w2 ⟨rfl, hb⟩
      obtain ⟨z0, z1, z2, z3, z4⟩ := B1.out.keep hb
      have L2 := Lib.hid (bT L1.out hb)
      clear hb
      go_wp2_with fail
      refine bodyPost_ret (v := .tuple #[.agg #[.int .i64 0, .int .i64 0], .int .i64 1]) ?_ rfl ⟨rfl, bset (bset L2.out (by omega)) (by omega)⟩
      simp [results, Tryd.results13, go_sem, z0, z1]
    · obtain ⟨f1, f2, f3⟩ := df_of h h1
      rw [h] at OK
      have OR := Lib.hid (fun W => l02Ok_any p q W)
      rw [h1] at OR
      have DF := Lib.hid (fun W (hv : SlP W v ps) => l06Diff_any ps p q v W hv h h1)
      obtain ⟨x1, x2⟩ := dsA_bd ps p q
      have HF := Lib.hid (And.intro f1 (And.intro f2 f3))
      clear f1 f2 f3 h h1
      generalize dsA ps p q = x at *
      generalize dsB ps p q = y at *
      generalize dsK ps p q = z at *
      cases z
      · have HG := Lib.hid (show dfA ps p q = 0 ∧ dfB ps p q = 0 ∧ dfC ps p q = 2 by simpa using HF.out)
        rw [HG.out.1, HG.out.2.1, HG.out.2.2]
        clear HF HG
        go_enter Tryd.func13, Tryd.ntmps13
        go_wp2_with fail
        generalize (w.alloc (.cells #[.int .i64 p, .int .i64 q] 32)).alloc (.cells #[.int .i64 0, .int .i64 0] 32) = W at *
        generalize w.heap.size + 1 = br at *
        refine OK.out.mono ?_
        rintro e w1 ⟨rfl, hb⟩
        have B1 := Lib.hid (B0.out.keep hb)
        have V1 := Lib.hid (V0.out.keep hb)
        have R1 := Lib.hid (R0.out.keep hb)
        obtain ⟨r0, r1, _, _, r4⟩ := R0.out.keep hb
        have L1 := Lib.hid (bT L0.out hb)
        clear hb
        go_wp2_with fail
        refine (OR.out _).mono ?_
        rintro e w2 ⟨rfl, hb⟩
        have B2 := Lib.hid (B1.out.keep hb)
        have V2 := Lib.hid (V1.out.keep hb)
        obtain ⟨s0, s1, _, _, s4⟩ := R1.out.keep hb
        have L2 := Lib.hid (bT L1.out hb)
        clear hb r0 r1 r4
        go_wp2_with fail
        refine (DF.out _ V2.out).mono ?_
        rintro e w3 ⟨rfl, hb⟩
        have L3 := Lib.hid (bT L2.out hb)
        obtain ⟨z0, z1, z2, z3, z4⟩ := B2.out.keep hb
        clear hb s0 s1 s4
        go_wp2_with fail
        refine bodyPost_ret (v := .tuple #[.agg #[.int .i64 0, .int .i64 0], .int .i64 2]) ?_ rfl ⟨by simp [absN], by first | exact bset (bset (bA L3.out _) (by omega)) (by omega) | exact bA (bset (bset L3.out (by omega)) (by omega)) _⟩
        simp [results, Tryd.results13, go_sem, z0, z1, z4]
      · have HG := Lib.hid (show dfA ps p q = x ∧ dfB ps p q = y ∧ dfC ps p q = 0 by simpa using HF.out)
        rw [HG.out.1, HG.out.2.1, HG.out.2.2]
        clear HF HG
        go_enter Tryd.func13, Tryd.ntmps13
        go_wp2_with fail
        generalize (w.alloc (.cells #[.int .i64 p, .int .i64 q] 32)).alloc (.cells #[.int .i64 0, .int .i64 0] 32) = W at *
        generalize w.heap.size + 1 = br at *
        refine OK.out.mono ?_
        rintro e w1 ⟨rfl, hb⟩
        have B1 := Lib.hid (B0.out.keep hb)
        have V1 := Lib.hid (V0.out.keep hb)
        have R1 := Lib.hid (R0.out.keep hb)
        obtain ⟨r0, r1, _, _, r4⟩ := R0.out.keep hb
        have L1 := Lib.hid (bT L0.out hb)
        clear hb
        go_wp2_with fail
        refine (OR.out _).mono ?_
        rintro e w2 ⟨rfl, hb⟩
        have B2 := Lib.hid (B1.out.keep hb)
        have V2 := Lib.hid (V1.out.keep hb)
        obtain ⟨s0, s1, _, _, s4⟩ := R1.out.keep hb
        have L2 := Lib.hid (bT L1.out hb)
        clear hb r0 r1 r4
        go_wp2_with fail
        refine (DF.out _ V2.out).mono ?_
        rintro e w3 ⟨rfl, hb⟩
        have L3 := Lib.hid (bA (bT L2.out hb) (.cells #[.int .i64 x, .int .i64 y] 32))
        have B3 := Lib.hid ((B2.out.keep hb).alloc (.cells #[.int .i64 x, .int .i64 y] 32))
        have hbl := (B2.out.keep hb).lt
        have N3 := Lib.hid (Box2.new w3 x y 32)
        clear hb s0 s1 s4
        obtain ⟨t0, t1, t2, t3, t4⟩ := N3.out
        go_wp2_with fail
        generalize w3.alloc (.cells #[.int .i64 x, .int .i64 y] 32) = W3 at *
        generalize w3.heap.size = bt at *
        refine (l02Size_any _ _ (by omega)).mono ?_
        rintro e w4 ⟨rfl, rfl⟩
        have eab : ((x.natAbs : Nat) : Int) = absN x := rfl
        rw [eab]
        clear eab
        generalize absN x = an at *
        have B4 := Lib.hid (B3.out.other (b' := bt) (o := 0) (v := .int .i64 an) (by omega))
        have N4 := Lib.hid (N3.out.set0D an)
        have L4 := Lib.hid (bset (v := .int .i64 an) (o := 0) L3.out (show w.heap.size ≤ bt by omega))
        obtain ⟨v0, v1, _, _, _⟩ := N4.out
        obtain ⟨z0, z1, z2, z3, z4⟩ := B4.out
        go_wp2_with fail
        refine bodyPost_ret (v := .tuple #[.agg #[.int .i64 an, .int .i64 y], .int .i64 0]) ?_ rfl ⟨rfl, bset (bset L4.out (by omega)) (by omega)⟩
        simp [results, Tryd.results13, go_sem, z0, z1]
end Go.Proofs.YtnndjbngcaafhaaDoor

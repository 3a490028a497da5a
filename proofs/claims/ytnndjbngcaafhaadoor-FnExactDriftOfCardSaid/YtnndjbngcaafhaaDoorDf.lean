/-
  The difference of the ratio of a train and another ratio: the plain words, and the contracts of impl.Ratio.absolute, impl.differenceFrom, spec.l06Diff.
-/
import Derived.Test.YtnndjbngcaafhaaDoorTrRI
import Derived.Test.YtnndjbngcaafhaaDoorTrRS
import Derived.Test.YtnndjbngcaafhaaDoorOps2
import Derived.StillTailTactics
namespace Go.Proofs.YtnndjbngcaafhaaDoor
open Go.RowKit

/-- The size of a number. -/
def absN (n : Int) : Int := ((n.natAbs : Nat) : Int)
theorem absN_bd {n : Int} (h1 : -1000000000 ≤ n) (h2 : n ≤ 1000000000) : 0 ≤ absN n ∧ absN n ≤ 1000000000 := by unfold absN; omega
theorem okR_abs {n d : Int} (h : okR n d = true) : okR (absN n) d = true := by
  obtain ⟨h1, h2, h3, h4, h5⟩ := okR_true.1 h
  exact okR_true.2 ⟨h1, h2, by unfold absN; omega, by unfold absN; omega, by unfold absN; rw [gcd_abs]; exact h5⟩
/-- The ratio of a train that is valid stays so. -/
theorem trF_val : ∀ (ps : List (Int × Int)) (n d n' d' : Int), okR n d = true → (∀ p ∈ ps, okP p = true) → trF n d ps = some (n', d') → okR n' d' = true
  | [], n, d, n', d', h, _, e => by
    rw [trF] at e
    cases e
    exact h
  | p :: ps, n, d, n', d', h, hp, e => by
    rw [trF] at e
    obtain ⟨a1, a2, a3, a4⟩ := okP_bd (hp p (by simp))
    obtain ⟨n1, n2, n3, n4⟩ := okR_bd h
    by_cases hl : lowOk (-n * p.1) (d * p.2) = true
    · rw [if_pos hl] at e
      exact trF_val ps _ _ _ _ (low_fit (prod_pos n1 n2 a3 a4).1 hl) (fun q hq => hp q (by simp [hq])) e
    · rw [if_neg hl] at e
      cases e
theorem trF_okay {ps : List (Int × Int)} {n d : Int} (h : okT ps = true) (h2 : trF 1 1 ps = some (n, d)) : okR n d = true := trF_val ps 1 1 n d (by decide) (okT_iff.1 h).2 h2
/-- The difference of the ratio of a train, without its sign, and p / q. -/
def dfA (ps : List (Int × Int)) (p q : Int) : Int := if okT ps && okR p q then (match trF 1 1 ps with | some r => rA (addX (absN r.1) r.2 (-p) q) (mulX r.2 q) | none => 0) else 0
def dfB (ps : List (Int × Int)) (p q : Int) : Int := if okT ps && okR p q then (match trF 1 1 ps with | some r => rB (addX (absN r.1) r.2 (-p) q) (mulX r.2 q) | none => 0) else 0
def dfC (ps : List (Int × Int)) (p q : Int) : Int := if okT ps && okR p q then (match trF 1 1 ps with | some r => rC (addX (absN r.1) r.2 (-p) q) (mulX r.2 q) | none => 2) else 1
theorem df_no {ps : List (Int × Int)} {p q : Int} (h : (okT ps && okR p q) = false) : dfA ps p q = 0 ∧ dfB ps p q = 0 ∧ dfC ps p q = 1 := by simp [dfA, dfB, dfC, h]
theorem df_no1 {ps : List (Int × Int)} {p q : Int} (h : okR p q = false) : dfA ps p q = 0 ∧ dfB ps p q = 0 ∧ dfC ps p q = 1 := df_no (by simp [h])
theorem df_no2 {ps : List (Int × Int)} {p q : Int} (h : okT ps = false) : dfA ps p q = 0 ∧ dfB ps p q = 0 ∧ dfC ps p q = 1 := df_no (by simp [h])
theorem df_far {ps : List (Int × Int)} {p q : Int} (h : okT ps = true) (h1 : okR p q = true) (h2 : trF 1 1 ps = none) : dfA ps p q = 0 ∧ dfB ps p q = 0 ∧ dfC ps p q = 2 := by simp [dfA, dfB, dfC, h, h1, h2]
theorem df_got {ps : List (Int × Int)} {p q n d : Int} (h : okT ps = true) (h1 : okR p q = true) (h2 : trF 1 1 ps = some (n, d)) : dfA ps p q = rA (addX (absN n) d (-p) q) (mulX d q) ∧ dfB ps p q = rB (addX (absN n) d (-p) q) (mulX d q) ∧ dfC ps p q = rC (addX (absN n) d (-p) q) (mulX d q) := by simp [dfA, dfB, dfC, h, h1, h2]

/-- A call that leaves the world alone, for a region that only reads ahead of its tail. -/
theorem stillD {P : Program} {f : FuncId} {args : Array Value} {w : World} {v : Value} (h : Calls P f args w fun e w' => e = .returned v ∧ w = w') : Calls P f args w fun e w'' => e = .returned v ∧ w'' = w :=
  h.mono fun _ _ ⟨he, hm⟩ => ⟨he, hm.symm⟩
set_option maxRecDepth 100000 in
set_option maxHeartbeats 1000000 in
theorem absolute_any (n d : Int) (w : World) (h1 : -1000000000 ≤ n) (h2 : n ≤ 1000000000) :
    Calls Tryd.prog 35 #[.agg #[.int .i64 n, .int .i64 d]] w fun e w' => e = .returned (.agg #[.int .i64 (absN n), .int .i64 d]) ∧ Below w.heap.size w w' := by
  have C1 := Lib.hid (fun W => stillD (magnitude_any n W (by omega) (by omega)))
  have wn : IntKind.i64.wrap ((n.natAbs : Nat) : Int) = ((n.natAbs : Nat) : Int) := IntWalk.i64_in _ (by omega)
  have R0 := Lib.hid ((Box2.new w n d 32).alloc (.cells #[.int .i64 0, .int .i64 0] 32))
  have B0 := Lib.hid (show Box2 ((w.alloc (.cells #[.int .i64 n, .int .i64 d] 32)).alloc (.cells #[.int .i64 0, .int .i64 0] 32)) (w.heap.size + 1) 0 0 by simpa using Box2.new (w.alloc (.cells #[.int .i64 n, .int .i64 d] 32)) 0 0 32)
  have L0 := Lib.hid (bA (bA (bR w) (.cells #[.int .i64 n, .int .i64 d] 32)) (.cells #[.int .i64 0, .int .i64 0] 32))
  have hle : w.heap.size ≤ w.heap.size + 1 := by omega
  obtain ⟨c0, c1, _, _, _⟩ := R0.out
  obtain ⟨d0, d1, d2, d3, d4⟩ := B0.out
  go_enter Tryd.func35, Tryd.ntmps35
  go_wp2_with fail
  generalize (w.alloc (.cells #[.int .i64 n, .int .i64 d] 32)).alloc (.cells #[.int .i64 0, .int .i64 0] 32) = W at *
  generalize w.heap.size + 1 = br at *
  refine wp_region_still_tail 7 (by kernel_rfl) (by kernel_rfl) ?_
  change wpStill _ _ W.drew _ _ _
  simp only [List.take_succ_cons, List.take_zero, List.drop_succ_cons, List.drop_zero]
  still_step
  still_step
  still_call (C1.out _)
  still_step
  still_step
  still_step
  still_step
  refine wpStill_nil ?_
  change wpList _ _ _ _ _ W.drew
  have LD := Lib.hid L0.out.drew
  go_wp2_with fail
  exact bodyPost_ret (v := .agg #[.int .i64 (absN n), .int .i64 d]) (by simp [results, Tryd.results35, go_sem, d0, d1, absN, wn]) rfl ⟨rfl, bset (bset LD.out hle) hle⟩
theorem set_other {w : World} {a b o o' : Nat} {v : Value} (h : a ≠ b) : (w.setCell ⟨b, o, none⟩ v).cell? ⟨a, o', none⟩ = w.cell? ⟨a, o', none⟩ := World.cell?_of_block (Below.heap_setCell _ _ _ _ h)
set_option maxRecDepth 100000 in
set_option maxHeartbeats 4000000 in
theorem differenceFrom_any (ps : List (Int × Int)) (p q : Int) (v : Value) (w : World) (a0 a1 : Addr) (hS : Sent w a0 a1) (ha : SlP w v ps) (hmax : ps.length ≤ 1000000000000) :
    Calls Tryd.prog 34 #[.agg #[.int .i64 p, .int .i64 q], v] w (RatC w (dfA ps p q) (dfB ps p q) (dfC ps p q)) := by
  have R0 := Lib.hid ((Box2.new w p q 32).alloc (.cells #[.int .i64 0, .int .i64 0] 32))
  have B0 := Lib.hid (show Box2 ((w.alloc (.cells #[.int .i64 p, .int .i64 q] 32)).alloc (.cells #[.int .i64 0, .int .i64 0] 32)) (w.heap.size + 1) 0 0 by simpa using Box2.new (w.alloc (.cells #[.int .i64 p, .int .i64 q] 32)) 0 0 32)
  have L0 := Lib.hid (bA (bA (bR w) (.cells #[.int .i64 p, .int .i64 q] 32)) (.cells #[.int .i64 0, .int .i64 0] 32))
  have hle : w.heap.size < w.heap.size + 1 := by omega
  have S0 := Lib.hid (hS.keepB L0.out)
  have V0 := Lib.hid (ha.keep L0.out)
  have TT := Lib.hid (fun W (h : Sent W a0 a1) (h2 : SlP W v ps) => TrainRatioI_any ps v W a0 a1 h h2 hmax)
  clear hS ha
  cases h : okR p q
  · obtain ⟨q1, q2, q3⟩ := df_no1 (ps := ps) h
    rw [q1, q2, q3]
    have H := Lib.hid h
    clear q1 q2 q3 h
    go_enter Tryd.func34, Tryd.ntmps34
    go_wp2_with fail
    generalize (w.alloc (.cells #[.int .i64 p, .int .i64 q] 32)).alloc (.cells #[.int .i64 0, .int .i64 0] 32) = W at *
    generalize w.heap.size + 1 = br at *
    refine (valid_any _ _ _).mono ?_
    rw [H.out]
    rintro e w1 ⟨rfl, hb⟩
    obtain ⟨x0, x1, x2, x3, x4⟩ := B0.out.keep hb
    have L1 := Lib.hid (bT L0.out hb)
    clear hb
    go_wp2_with fail
    refine bodyPost_ret (v := .tuple #[.agg #[.int .i64 0, .int .i64 0], .int .i64 1]) ?_ rfl ⟨rfl, bset (bset L1.out (by omega)) (by omega)⟩
    simp [results, Tryd.results34, go_sem, x0, x1]
  · have H := Lib.hid h
    cases h1 : okT ps
    · obtain ⟨q1, q2, q3⟩ := df_no2 (p := p) (q := q) h1
      rw [q1, q2, q3]
      have HT := Lib.hid (tr_bad h1)
      clear q1 q2 q3 h h1
      go_enter Tryd.func34, Tryd.ntmps34
      go_wp2_with fail
      generalize (w.alloc (.cells #[.int .i64 p, .int .i64 q] 32)).alloc (.cells #[.int .i64 0, .int .i64 0] 32) = W at *
      generalize w.heap.size + 1 = br at *
      refine (valid_any _ _ _).mono ?_
      rw [H.out]
      rintro e w1 ⟨rfl, hb⟩
      have B1 := Lib.hid (B0.out.keep hb)
      have L1 := Lib.hid (bT L0.out hb)
      have S1 := Lib.hid (S0.out.keepB hb)
      have V1 := Lib.hid (V0.out.keep hb)
      clear hb
      go_wp2_with fail
      refine (TT.out _ S1.out V1.out).mono ?_
      rw [HT.out.1, HT.out.2.1, HT.out.2.2]
      rintro e w2 ⟨rfl, hb⟩
      have B2 := Lib.hid ((B1.out.keep hb).alloc (.cells #[.int .i64 0, .int .i64 0] 32))
      have L2 := Lib.hid (bT L1.out hb)
      have B2' := Lib.hid (B1.out.keep hb)
      clear hb
      obtain ⟨y0, y1, y2, y3, y4⟩ := B2'.out
      go_wp2_with fail
      refine bodyPost_ret (v := .tuple #[.agg #[.int .i64 0, .int .i64 0], .int .i64 1]) ?_ rfl ⟨rfl, by first | exact bset (bset (bA L2.out _) (by omega)) (by omega) | exact bA (bset (bset L2.out (by omega)) (by omega)) _⟩
      simp [results, Tryd.results34, go_sem, y0, y1, y4]
    · cases h2 : trF 1 1 ps with
      | none =>
        obtain ⟨q1, q2, q3⟩ := df_far h1 h h2
        rw [q1, q2, q3]
        have HT := Lib.hid (tr_far h1 h2)
        clear q1 q2 q3 h h1 h2
        go_enter Tryd.func34, Tryd.ntmps34
        go_wp2_with fail
        generalize (w.alloc (.cells #[.int .i64 p, .int .i64 q] 32)).alloc (.cells #[.int .i64 0, .int .i64 0] 32) = W at *
        generalize w.heap.size + 1 = br at *
        refine (valid_any _ _ _).mono ?_
        rw [H.out]
        rintro e w1 ⟨rfl, hb⟩
        have B1 := Lib.hid (B0.out.keep hb)
        have L1 := Lib.hid (bT L0.out hb)
        have S1 := Lib.hid (S0.out.keepB hb)
        have V1 := Lib.hid (V0.out.keep hb)
        clear hb
        go_wp2_with fail
        refine (TT.out _ S1.out V1.out).mono ?_
        rw [HT.out.1, HT.out.2.1, HT.out.2.2]
        rintro e w2 ⟨rfl, hb⟩
        have B2 := Lib.hid ((B1.out.keep hb).alloc (.cells #[.int .i64 0, .int .i64 0] 32))
        have L2 := Lib.hid (bT L1.out hb)
        have B2' := Lib.hid (B1.out.keep hb)
        clear hb
        obtain ⟨y0, y1, y2, y3, y4⟩ := B2'.out
        go_wp2_with fail
        refine bodyPost_ret (v := .tuple #[.agg #[.int .i64 0, .int .i64 0], .int .i64 2]) ?_ rfl ⟨rfl, by first | exact bset (bset (bA L2.out _) (by omega)) (by omega) | exact bA (bset (bset L2.out (by omega)) (by omega)) _⟩
        simp [results, Tryd.results34, go_sem, y0, y1, y4]
      | some r =>
        obtain ⟨n, d⟩ := r
        obtain ⟨q1, q2, q3⟩ := df_got h1 h h2
        rw [q1, q2, q3]
        have HT := Lib.hid (tr_got h1 h2)
        have hR := trF_okay h1 h2
        obtain ⟨n1, n2, n3, n4⟩ := okR_bd hR
        have SU := Lib.hid (fun W (hs : Sent W a0 a1) => SubRatioI_any (absN n) d p q W a0 a1 hs)
        have HV := Lib.hid (show (okR (absN n) d && okR p q) = true by rw [okR_abs hR, h]; rfl)
        rw [HV.out] at SU
        have HZ := Lib.hid (o_yes (addX (absN n) d (-p) q) (mulX d q))
        rw [HZ.out.1, HZ.out.2.1, HZ.out.2.2] at SU
        clear q1 q2 q3 h h1 h2 hR HV HZ
        generalize rA (addX (absN n) d (-p) q) (mulX d q) = x at *
        generalize rB (addX (absN n) d (-p) q) (mulX d q) = y at *
        generalize rC (addX (absN n) d (-p) q) (mulX d q) = z at *
        go_enter Tryd.func34, Tryd.ntmps34
        go_wp2_with fail
        generalize (w.alloc (.cells #[.int .i64 p, .int .i64 q] 32)).alloc (.cells #[.int .i64 0, .int .i64 0] 32) = W at *
        generalize w.heap.size + 1 = br at *
        refine (valid_any _ _ _).mono ?_
        rw [H.out]
        rintro e w1 ⟨rfl, hb⟩
        have B1 := Lib.hid (B0.out.keep hb)
        have R1 := Lib.hid (R0.out.keep hb)
        have L1 := Lib.hid (bT L0.out hb)
        have S1 := Lib.hid (S0.out.keepB hb)
        have V1 := Lib.hid (V0.out.keep hb)
        clear hb
        go_wp2_with fail
        refine (TT.out _ S1.out V1.out).mono ?_
        rw [HT.out.1, HT.out.2.1, HT.out.2.2]
        rintro e w2 ⟨rfl, hb⟩
        have B2 := Lib.hid ((B1.out.keep hb).alloc (.cells #[.int .i64 n, .int .i64 d] 32))
        have R2 := Lib.hid ((R1.out.keep hb).alloc (.cells #[.int .i64 n, .int .i64 d] 32))
        have S2 := Lib.hid ((S1.out.keepB hb).keepB (bA (bR _) (.cells #[.int .i64 n, .int .i64 d] 32)))
        have L2 := Lib.hid (bA (bT L1.out hb) (.cells #[.int .i64 n, .int .i64 d] 32))
        have N2 := Lib.hid (Box2.new w2 n d 32)
        clear hb B1 R1 S1 V1 L1
        go_wp2_with fail
        generalize w2.alloc (.cells #[.int .i64 n, .int .i64 d] 32) = W2 at *
        generalize w2.heap.size = bt at *
        have B2d := Lib.hid B2.out.drew
        have R2d := Lib.hid R2.out.drew
        have S2d := Lib.hid (S2.out.keepB (bR W2).drew)
        have L2d := Lib.hid L2.out.drew
        obtain ⟨r0, r1, _, _, _⟩ := R2.out
        obtain ⟨t0, t1, _, _, _⟩ := N2.out
        go_region_with (first
          | (go_at_call 35; refine (absolute_any _ _ _ n3 n4).mono ?_; rintro e w' ⟨rfl, hb⟩; have B3 := Lib.hid (B2d.out.keep hb); have S3 := Lib.hid (S2d.out.keepB hb); have L3 := Lib.hid (bT L2d.out hb); obtain ⟨u0, u1, _, _, _⟩ := R2d.out.keep hb)
          | (go_at_call 59; refine (SU.out _ S3.out).mono ?_; rintro e w' ⟨rfl, hb⟩; obtain ⟨z0, z1, z2, z3, z4⟩ := B3.out.keep hb; have L4 := Lib.hid (bT L3.out hb)))
        all_goals go_wp2_with fail
        all_goals refine bodyPost_ret (v := .tuple #[.agg #[.int .i64 x, .int .i64 y], .int .i64 z]) ?_ rfl ⟨rfl, ?_⟩
        all_goals first | (simp [Act.put, results, Tryd.results34, go_sem, z0, z1]; done) | exact bset (bset L4.out (by omega)) (by omega)
end Go.Proofs.YtnndjbngcaafhaaDoor

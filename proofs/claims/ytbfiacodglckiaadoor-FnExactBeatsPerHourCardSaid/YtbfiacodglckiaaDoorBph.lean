/-
  The contracts of impl.BeatsPerHour and spec.BeatsPerHour.
-/
import Derived.Test.YtbfiacodglckiaaDoorTrRI
import Derived.Test.YtbfiacodglckiaaDoorTrRS
import Derived.Test.YtbfiacodglckiaaDoorDf
namespace Go.Proofs.YtbfiacodglckiaaDoor
open Go.RowKit

theorem hkeep {W w' : World} {b : Nat} {x y : Int} (hb : Below W.heap.size W w') (h : Hid (Box2 W b x y)) : Box2 w' b x y := h.out.keep hb
/-- What BeatsPerHour returns. -/
def bpA (ps : List (Int × Int)) (t : Int) : Int := if okT ps && inB t 6 240 then (match trF 1 1 ps with | some r => rA (2 * t * ((r.1.natAbs : Nat) : Int)) r.2 | none => 0) else 0
def bpB (ps : List (Int × Int)) (t : Int) : Int := if okT ps && inB t 6 240 then (match trF 1 1 ps with | some r => rB (2 * t * ((r.1.natAbs : Nat) : Int)) r.2 | none => 0) else 0
def bpC (ps : List (Int × Int)) (t : Int) : Int := if okT ps then (if inB t 6 240 then (match trF 1 1 ps with | some r => rC (2 * t * ((r.1.natAbs : Nat) : Int)) r.2 | none => 2) else 2) else 1
theorem bp_bad {ps : List (Int × Int)} {t : Int} (h : okT ps = false) : bpA ps t = 0 ∧ bpB ps t = 0 ∧ bpC ps t = 1 := by simp [bpA, bpB, bpC, h]
theorem bp_teeth {ps : List (Int × Int)} {t : Int} (h : okT ps = true) (ht : inB t 6 240 = false) : bpA ps t = 0 ∧ bpB ps t = 0 ∧ bpC ps t = 2 := by simp [bpA, bpB, bpC, h, ht]
theorem bp_far {ps : List (Int × Int)} {t : Int} (h : okT ps = true) (h2 : trF 1 1 ps = none) : bpA ps t = 0 ∧ bpB ps t = 0 ∧ bpC ps t = 2 := by simp [bpA, bpB, bpC, h, h2]
theorem bp_got {ps : List (Int × Int)} {t n d : Int} (h : okT ps = true) (ht : inB t 6 240 = true) (h2 : trF 1 1 ps = some (n, d)) : bpA ps t = rA (2 * t * ((n.natAbs : Nat) : Int)) d ∧ bpB ps t = rB (2 * t * ((n.natAbs : Nat) : Int)) d ∧ bpC ps t = rC (2 * t * ((n.natAbs : Nat) : Int)) d := by simp [bpA, bpB, bpC, h, ht, h2]
/-- The ratio of a train is valid. -/
theorem trF_ok : ∀ (ps : List (Int × Int)) (n d n' d' : Int), okR n d = true → (∀ p ∈ ps, okP p = true) → trF n d ps = some (n', d') → okR n' d' = true
  | [], n, d, n', d', h, _, e => by
    rw [trF] at e
    cases e
    exact h
  | p :: ps, n, d, n', d', h, hp, e => by
    rw [trF] at e
    obtain ⟨a1, a2, a3, a4⟩ := okP_bd (hp p (by simp))
    obtain ⟨n1, n2, n3, n4⟩ := okR_bd h
    by_cases hl : lowOk (-n * p.1) (d * p.2) = true
    · rw [if_pos hl] at e
      exact trF_ok ps _ _ _ _ (low_fit (prod_pos n1 n2 a3 a4).1 hl) (fun q hq => hp q (by simp [hq])) e
    · rw [if_neg hl] at e
      cases e
theorem beat_bd {t n : Int} (h1 : 6 ≤ t) (h2 : t ≤ 240) (h3 : -1000000000 ≤ n) (h4 : n ≤ 1000000000) : 0 ≤ 2 * t * ((n.natAbs : Nat) : Int) ∧ 2 * t * ((n.natAbs : Nat) : Int) ≤ 480000000000 := by
  have e1 : 0 ≤ 2 * t * ((n.natAbs : Nat) : Int) := Int.mul_nonneg (by omega) (by omega)
  have e2 : 2 * t * ((n.natAbs : Nat) : Int) ≤ 480 * ((n.natAbs : Nat) : Int) := Int.mul_le_mul_of_nonneg_right (by omega) (by omega)
  omega
/-- The product of the size and 2 t / 1. -/
theorem beat_same {t n d : Int} (hd : 1 ≤ d) : rA (2 * t * ((n.natAbs : Nat) : Int)) d = (if lowOk (mulX ((n.natAbs : Nat) : Int) (2 * t)) (mulX d 1) then mkA (mulX ((n.natAbs : Nat) : Int) (2 * t)) (mulX d 1) else 0) ∧ rB (2 * t * ((n.natAbs : Nat) : Int)) d = (if lowOk (mulX ((n.natAbs : Nat) : Int) (2 * t)) (mulX d 1) then mkB (mulX ((n.natAbs : Nat) : Int) (2 * t)) (mulX d 1) else 0) ∧ rC (2 * t * ((n.natAbs : Nat) : Int)) d = (if lowOk (mulX ((n.natAbs : Nat) : Int) (2 * t)) (mulX d 1) then 0 else 2) := by
  have e1 : mulX ((n.natAbs : Nat) : Int) (2 * t) = 2 * t * ((n.natAbs : Nat) : Int) := by unfold mulX; grind
  have e2 : mulX d 1 = d := by unfold mulX; omega
  rw [e1, e2]
  exact r_make (by omega)
theorem Box2.set0 {w : World} {b : Nat} {x y : Int} (h : Box2 w b x y) (x' : Int) : Box2 (w.setCell ⟨b, 0, none⟩ (.int .i64 x')) b x' y := by
  have a0 := h.c0
  have a1 := h.c1
  have e0 := h.f0
  have e1 := h.f1
  exact ⟨by simp [go_sem, a0], by simp [go_sem, a1], by simp [go_sem, e0], by simp [go_sem, e1], by simpa [World.setCell] using h.lt⟩
theorem sentB {w w' : World} {a0 a1 : Addr} (hb : Below w.heap.size w w') (h : Hid (Sent w a0 a1)) : Sent w' a0 a1 := h.out.keep hb
set_option maxRecDepth 100000 in
set_option maxHeartbeats 4000000 in
theorem BeatsI_any (ps : List (Int × Int)) (t : Int) (v : Value) (w : World) (a0 a1 : Addr) (hS : Sent w a0 a1) (ha : SlP w v ps) (hmax : ps.length ≤ 1000000000000) (ht1 : -9223372036854775808 ≤ t) (ht2 : t ≤ 9223372036854775807) :
    Calls Tryd.prog 9 #[v, .int .i64 t] w (RatC w (bpA ps t) (bpB ps t) (bpC ps t)) := by
  have HS := Lib.hid hS
  have B0 := Box2.new w 0 0 25
  have T0 := Lib.hid (TrainRatioI_any ps v (w.alloc (.cells #[.int .i64 0, .int .i64 0] 25)) a0 a1 (hS.keep (bA (bR _) _)) (ha.keep (bA (bR _) _)) hmax)
  clear ha hS
  cases h : okT ps
  · obtain ⟨q1, q2, q3⟩ := bp_bad (t := t) h
    rw [q1, q2, q3]
    have HT := Lib.hid (tr_bad h)
    clear q1 q2 q3 h
    go_enter Tryd.func9, Tryd.ntmps9
    go_wp2_with fail
    refine T0.out.mono ?_
    rw [HT.out.1, HT.out.2.1, HT.out.2.2]
    rintro e w1 ⟨rfl, hb⟩
    have B1 := Lib.hid (B0.keep hb)
    have L := Lib.hid (bT (bA (bR w) (.cells #[.int .i64 0, .int .i64 0] 25)) hb)
    clear hb B0
    obtain ⟨x0, x1, x2, x3, x4⟩ := B1.out
    go_wp2_with fail
    refine bodyPost_ret (v := .tuple #[.agg #[.int .i64 0, .int .i64 0], .int .i64 1]) ?_ rfl ⟨rfl, by first | exact bset (bset (bA L.out _) (by simp)) (by simp) | exact bA (bset (bset L.out (by simp)) (by simp)) _⟩
    simp [results, Tryd.results9, go_sem, x0, x1, x4]
  · cases h2 : trF 1 1 ps with
    | none =>
      obtain ⟨q1, q2, q3⟩ := bp_far (t := t) h h2
      rw [q1, q2, q3]
      have HT := Lib.hid (tr_far h h2)
      clear q1 q2 q3 h h2
      go_enter Tryd.func9, Tryd.ntmps9
      go_wp2_with fail
      refine T0.out.mono ?_
      rw [HT.out.1, HT.out.2.1, HT.out.2.2]
      rintro e w1 ⟨rfl, hb⟩
      have B1 := Lib.hid (B0.keep hb)
      have L := Lib.hid (bT (bA (bR w) (.cells #[.int .i64 0, .int .i64 0] 25)) hb)
      clear hb B0
      obtain ⟨x0, x1, x2, x3, x4⟩ := B1.out
      go_wp2_with fail
      refine bodyPost_ret (v := .tuple #[.agg #[.int .i64 0, .int .i64 0], .int .i64 2]) ?_ rfl ⟨rfl, by first | exact bset (bset (bA L.out _) (by simp)) (by simp) | exact bA (bset (bset L.out (by simp)) (by simp)) _⟩
      simp [results, Tryd.results9, go_sem, x0, x1, x4]
    | some r =>
      obtain ⟨n, d⟩ := r
      have HT := Lib.hid (tr_got h h2)
      have hR := trF_ok ps 1 1 n d (by decide) (okT_iff.1 h).2 h2
      obtain ⟨n1, n2, n3, n4⟩ := okR_bd hR
      clear hR
      cases ht : inB t 6 240
      · obtain ⟨q1, q2, q3⟩ := bp_teeth h ht
        rw [q1, q2, q3]
        have HI := Lib.hid ht
        clear q1 q2 q3 h h2 ht
        go_enter Tryd.func9, Tryd.ntmps9
        go_wp2_with fail
        refine T0.out.mono ?_
        rw [HT.out.1, HT.out.2.1, HT.out.2.2]
        rintro e w1 ⟨rfl, hb⟩
        have B1 := Lib.hid (B0.keep hb)
        have L := Lib.hid (bT (bA (bR w) (.cells #[.int .i64 0, .int .i64 0] 25)) hb)
        clear hb B0
        obtain ⟨x0, x1, x2, x3, x4⟩ := B1.out
        go_wp2_with fail
        refine (toothValid_any _ _).mono ?_
        rw [HI.out]
        rintro e w2 ⟨rfl, rfl⟩
        go_wp2_with fail
        refine bodyPost_ret (v := .tuple #[.agg #[.int .i64 0, .int .i64 0], .int .i64 2]) ?_ rfl ⟨rfl, by first | exact bset (bset (bA L.out _) (by simp)) (by simp) | exact bA (bset (bset L.out (by simp)) (by simp)) _⟩
        simp [results, Tryd.results9, go_sem, x0, x1, x4]
      · obtain ⟨q1, q2, q3⟩ := bp_got h ht h2
        rw [q1, q2, q3]
        have HI := Lib.hid ht
        obtain ⟨t1, t2⟩ := inB_true.1 ht
        obtain ⟨b1, b2⟩ := beat_bd (t := t) (n := n) t1 t2 n3 n4
        clear q1 q2 q3 h h2 ht
        go_enter Tryd.func9, Tryd.ntmps9
        go_wp2_with fail
        refine T0.out.mono ?_
        rw [HT.out.1, HT.out.2.1, HT.out.2.2]
        rintro e w1 ⟨rfl, hb⟩
        have B1 := Lib.hid (((B0.keep hb).alloc (.cells #[.int .i64 n, .int .i64 d] 25)))
        have N1 := Lib.hid (Box2.new w1 n d 25)
        have L := Lib.hid (bA (bT (bA (bR w) (.cells #[.int .i64 0, .int .i64 0] 25)) hb) (.cells #[.int .i64 n, .int .i64 d] 25))
        clear hb B0
        obtain ⟨x0, x1, x2, x3, x4⟩ := B1.out
        obtain ⟨y0, y1, y2, y3, y4⟩ := N1.out
        go_wp2_with fail
        generalize w1.alloc (.cells #[.int .i64 n, .int .i64 d] 25) = W1 at *
        generalize w1.heap.size = bt at *
        refine (toothValid_any _ _).mono ?_
        rw [HI.out]
        rintro e w2 ⟨rfl, rfl⟩
        have S1 := Lib.hid (HS.out.keep L.out.drew)
        have wt : IntKind.i64.wrap (2 * t) = 2 * t := IntWalk.i64_in _ (by omega)
        have wp : IntKind.i64.wrap (2 * t * ((n.natAbs : Nat) : Int)) = 2 * t * ((n.natAbs : Nat) : Int) := IntWalk.i64_in _ (by omega)
        have B1d := Lib.hid B1.out.drew
        have N1d := Lib.hid N1.out.drew
        have L1d := Lib.hid L.out.drew
        have AB0 : ∀ W, Calls Tryd.prog 30 #[.agg #[.int .i64 n, .int .i64 d]] W fun e w' => e = .returned (.agg #[.int .i64 ((n.natAbs : Nat) : Int), .int .i64 d]) ∧ Below W.heap.size W w' := fun W => absolute_any n d W n3 n4
        have AB := Lib.hid AB0
        clear AB0
        generalize hm : 2 * t * ((n.natAbs : Nat) : Int) = m at *
        have mm : -9223372036854775808 ≤ m ∧ m ≤ 9223372036854775807 := by omega
        have dd : -9223372036854775808 ≤ d ∧ d ≤ 9223372036854775807 := by omega
        have MK := Lib.hid (fun W (hs : Sent W a0 a1) => MakeRatioI_any m d W a0 a1 hs mm.1 mm.2 dd.1 dd.2)
        clear mm dd
        have hfd : ∀ w : World, (Instr.field 25 (.agg #[.int .i64 ((n.natAbs : Nat) : Int), .int .i64 d]) 0).run Tryd.prog w = .ok (.int .i64 ((n.natAbs : Nat) : Int)) w := fun _ => by kernel_rfl
        go_wp2_with fail
        go_region_with (first
          | (go_at_call 30; refine (AB.out _).mono ?_; rintro e w' ⟨rfl, hb⟩; have B2 := Lib.hid (hkeep hb B1d); have S2 := Lib.hid (S1.out.keepB hb); obtain ⟨u0, u1, _, _, _⟩ := hkeep hb N1d; have L3 := Lib.hid (bT L1d.out hb))
          | (go_at_call 29; refine (MK.out _ S2.out).mono ?_; rintro e w' ⟨rfl, hb⟩; obtain ⟨z0, z1, z2, z3, z4⟩ := hkeep hb B2; have L2 := Lib.hid (bT L3.out hb)))
        all_goals go_wp2_with fail
        all_goals refine bodyPost_ret (v := .tuple #[.agg #[.int .i64 (rA m d), .int .i64 (rB m d)], .int .i64 (rC m d)]) ?_ rfl ⟨rfl, ?_⟩
        all_goals first | (simp [Act.put, results, Tryd.results9, go_sem, z0, z1]; done) | exact bset (bset L2.out (by simp)) (by simp)
set_option maxRecDepth 100000 in
set_option maxHeartbeats 4000000 in
theorem BeatsS_any (ps : List (Int × Int)) (t : Int) (v : Value) (w : World) (ha : SlP w v ps) (hmax : ps.length ≤ 1000000000000) :
    Calls Tryd.prog 7 #[v, .int .i64 t] w (RatC w (bpA ps t) (bpB ps t) (bpC ps t)) := by
  have B0 := Box2.new w 0 0 25
  have HV := Lib.hid (ha.keep (bA (bR w) (.cells #[.int .i64 0, .int .i64 0] 25)))
  clear ha
  cases h : okT ps
  · obtain ⟨q1, q2, q3⟩ := bp_bad (t := t) h
    rw [q1, q2, q3]
    have HO := Lib.hid h
    clear q1 q2 q3 h
    go_enter Tryd.func7, Tryd.ntmps7
    go_wp2_with fail
    refine (l05Ok_any ps _ _ HV.out hmax).mono ?_
    rw [HO.out]
    rintro e w1 ⟨rfl, hb⟩
    have B1 := Lib.hid (B0.keep hb)
    have L := Lib.hid (bT (bA (bR w) (.cells #[.int .i64 0, .int .i64 0] 25)) hb)
    clear hb B0
    obtain ⟨x0, x1, x2, x3, x4⟩ := B1.out
    go_wp2_with fail
    refine bodyPost_ret (v := .tuple #[.agg #[.int .i64 0, .int .i64 0], .int .i64 1]) ?_ rfl ⟨rfl, bset (bset L.out (by simp)) (by simp)⟩
    simp [results, Tryd.results7, go_sem, x0, x1]
  · have HO := Lib.hid h
    cases ht : inB t 6 240
    · obtain ⟨q1, q2, q3⟩ := bp_teeth h ht
      rw [q1, q2, q3]
      have HI := Lib.hid ht
      clear q1 q2 q3 h ht
      go_enter Tryd.func7, Tryd.ntmps7
      go_wp2_with fail
      refine (l05Ok_any ps _ _ HV.out hmax).mono ?_
      rw [HO.out]
      rintro e w1 ⟨rfl, hb⟩
      have B1 := Lib.hid (B0.keep hb)
      have L := Lib.hid (bT (bA (bR w) (.cells #[.int .i64 0, .int .i64 0] 25)) hb)
      clear hb B0
      obtain ⟨x0, x1, x2, x3, x4⟩ := B1.out
      go_wp2_with fail
      refine (l05Teeth_any _ _).mono ?_
      rw [HI.out]
      rintro e w2 ⟨rfl, rfl⟩
      go_wp2_with fail
      refine bodyPost_ret (v := .tuple #[.agg #[.int .i64 0, .int .i64 0], .int .i64 2]) ?_ rfl ⟨rfl, bset (bset L.out (by simp)) (by simp)⟩
      simp [results, Tryd.results7, go_sem, x0, x1]
    · have HI := Lib.hid ht
      cases h2 : trF 1 1 ps with
      | none =>
        obtain ⟨q1, q2, q3⟩ := bp_far (t := t) h h2
        rw [q1, q2, q3]
        have HT := Lib.hid (tr0_far h2)
        clear q1 q2 q3 h h2 ht
        go_enter Tryd.func7, Tryd.ntmps7
        go_wp2_with fail
        refine (l05Ok_any ps _ _ HV.out hmax).mono ?_
        rw [HO.out]
        rintro e w1 ⟨rfl, hb⟩
        have B1 := Lib.hid (B0.keep hb)
        have V1 := Lib.hid (HV.out.keep hb)
        have L := Lib.hid (bT (bA (bR w) (.cells #[.int .i64 0, .int .i64 0] 25)) hb)
        clear hb B0 HV
        go_wp2_with fail
        refine (l05Teeth_any _ _).mono ?_
        rw [HI.out]
        rintro e w2 ⟨rfl, rfl⟩
        go_wp2_with fail
        refine (l05Ratio_any ps _ _ V1.out HO.out).mono ?_
        rw [HT.out.1, HT.out.2.1, HT.out.2.2]
        rintro e w2 ⟨rfl, hb⟩
        have B2 := Lib.hid (B1.out.keep hb)
        have L2 := Lib.hid (bT L.out hb)
        clear hb B1 L V1
        obtain ⟨x0, x1, x2, x3, x4⟩ := B2.out
        go_wp2_with fail
        refine bodyPost_ret (v := .tuple #[.agg #[.int .i64 0, .int .i64 0], .int .i64 2]) ?_ rfl ⟨rfl, by first | exact bset (bset (bA L2.out _) (by simp)) (by simp) | exact bA (bset (bset L2.out (by simp)) (by simp)) _⟩
        simp [results, Tryd.results7, go_sem, x0, x1, x4]
      | some r =>
        obtain ⟨n, d⟩ := r
        obtain ⟨q1, q2, q3⟩ := bp_got h ht h2
        rw [q1, q2, q3]
        have HT := Lib.hid (tr0_got h2)
        have hR := trF_ok ps 1 1 n d (by decide) (okT_iff.1 h).2 h2
        obtain ⟨n1, n2, n3, n4⟩ := okR_bd hR
        obtain ⟨t1, t2⟩ := inB_true.1 ht
        have HQ := Lib.hid (beat_same (t := t) (n := n) (d := d) n1)
        clear q1 q2 q3 h h2 ht hR
        go_enter Tryd.func7, Tryd.ntmps7
        go_wp2_with fail
        refine (l05Ok_any ps _ _ HV.out hmax).mono ?_
        rw [HO.out]
        rintro e w1 ⟨rfl, hb⟩
        have B1 := Lib.hid (B0.keep hb)
        have V1 := Lib.hid (HV.out.keep hb)
        have L := Lib.hid (bT (bA (bR w) (.cells #[.int .i64 0, .int .i64 0] 25)) hb)
        clear hb B0 HV
        go_wp2_with fail
        refine (l05Teeth_any _ _).mono ?_
        rw [HI.out]
        rintro e w2 ⟨rfl, rfl⟩
        go_wp2_with fail
        refine (l05Ratio_any ps _ _ V1.out HO.out).mono ?_
        rw [HT.out.1, HT.out.2.1, HT.out.2.2]
        rintro e w2 ⟨rfl, hb⟩
        have B2 := Lib.hid ((B1.out.keep hb).alloc (.cells #[.int .i64 n, .int .i64 d] 25))
        have N2 := Lib.hid (Box2.new w2 n d 25)
        have hlt : w.heap.size < w2.heap.size := (B1.out.keep hb).lt
        have L2 := Lib.hid (bA (bT L.out hb) (.cells #[.int .i64 n, .int .i64 d] 25))
        clear hb B1 L V1
        obtain ⟨y0, y1, y2, y3, y4⟩ := N2.out
        go_wp2_with fail
        generalize w2.alloc (.cells #[.int .i64 n, .int .i64 d] 25) = W2 at *
        generalize w2.heap.size = bt at *
        refine (l02Size_any _ _ (by omega)).mono ?_
        rintro e w3 ⟨rfl, rfl⟩
        go_wp2_with fail
        have an0 : 0 ≤ ((n.natAbs : Nat) : Int) := by omega
        have an1 : ((n.natAbs : Nat) : Int) ≤ 1000000000 := by omega
        generalize ((n.natAbs : Nat) : Int) = an at *
        have NB := Lib.hid (N2.out.set0 an).drew
        have BR := Lib.hid (B2.out.other (b' := bt) (o := 0) (v := .int .i64 an) (by omega)).drew
        have LL := Lib.hid (show Below w.heap.size w (W2.setCell ⟨bt, 0, none⟩ (.int .i64 an)).drew from (bset L2.out (by omega)).drew)
        clear y0 y1 y2 y3 y4 B2 N2 L2
        generalize W2.setCell ⟨bt, 0, none⟩ (.int .i64 an) = W3 at *
        have wt : IntKind.i64.wrap (2 * t) = 2 * t := IntWalk.i64_in _ (by omega)
        have MU := Lib.hid (fun W => l02Mul_any an d (2 * t) 1 W (by omega) an1 n1 n2 (by omega) (by omega) (by omega) (by omega))
        obtain ⟨v0, v1, _, _, _⟩ := NB.out
        go_region_with (first
          | (go_at_call 25; refine (l02Whole_any _ _).mono ?_; rintro e w' ⟨rfl, hb⟩; have NBa := Lib.hid (hkeep hb NB); have BRa := Lib.hid (hkeep hb BR); have La := Lib.hid (bT LL.out hb); obtain ⟨u0, u1, _, _, _⟩ := NBa.out)
          | (go_at_call 24; refine (MU.out _).mono ?_; rintro e w' ⟨rfl, hb⟩; have BRb := Lib.hid (hkeep hb BRa); have Lb := Lib.hid (bT La.out hb))
          | (go_at_call 23; refine (l02Code_any _ _ _ _).mono ?_; rw [← HQ.out.1, ← HQ.out.2.1, ← HQ.out.2.2]; rintro e w' ⟨rfl, hb⟩; obtain ⟨z0, z1, z2, z3, z4⟩ := hkeep hb BRb; have Lc := Lib.hid (bT Lb.out hb)))
        all_goals go_wp2_with fail
        all_goals refine bodyPost_ret (v := .tuple #[.agg #[.int .i64 (rA (2 * t * an) d), .int .i64 (rB (2 * t * an) d)], .int .i64 (rC (2 * t * an) d)]) ?_ rfl ⟨rfl, ?_⟩
        all_goals first | (simp [Act.put, results, Tryd.results7, go_sem, z0, z1]; done) | exact bset (bset Lc.out (by simp)) (by simp)
end Go.Proofs.YtbfiacodglckiaaDoor

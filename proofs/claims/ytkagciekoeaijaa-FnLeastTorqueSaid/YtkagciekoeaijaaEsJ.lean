/-
  What FnLeastTorque says of least torques and energies; the draw of least energies.
-/
import Derived.Test.YtkagciekoeaijaaEsP
import Derived.Test.YtkagciekoeaijaaEsQ
import Derived.Test.YtkagciekoeaijaaEsH
namespace Go.Proofs.Ytkagciekoeaijaa
open Go.RowKit

/-- n swings from e at torque q: all tick, or fewer. -/
theorem smE_all {t u i l m q n e : Int} (h1 : okEs t u i l m = true) (he : 0 ≤ e ∧ e ≤ m) (hq : 0 ≤ q ∧ q ≤ 1000) (hn : 1 ≤ n ∧ n ≤ 2000) :
    (allF (nxS u i l m q) (tkS u l q) n.toNat e = true ∧ (smE t u i l m q n e 0).2 = (n, 0)) ∨ (allF (nxS u i l m q) (tkS u l q) n.toNat e = false ∧ (smE t u i l m q n e 0).2.2 = 0 ∧ (smE t u i l m q n e 0).2.1 < n) := by
  obtain ⟨N, rfl⟩ := Int.eq_ofNat_of_zero_le (show 0 ≤ n by omega)
  rw [Int.toNat_natCast]
  have hb := okBt_yes h1 (inB_true.2 he) (inB_true.2 (show (0 : Int) ≤ 0 ∧ (0 : Int) ≤ 1000000000 by omega))
  have c := cdE_0 hb (inB_true.2 hq)
  obtain ⟨e', k', r1, r2, r3, r4⟩ := mn_all (nxS u i l m q) (tkS u l q) N e 0 (by omega)
  rw [smE_0 c (inB_true.2 (by omega)) r1]
  cases ha : allF (nxS u i l m q) (tkS u l q) N e
  · refine .inr ⟨rfl, rfl, ?_⟩
    simp only
    have : ¬ k' = 0 + (N : Int) := fun hh => by rw [r4.1 hh] at ha; cases ha
    omega
  · have := r4.2 ha
    refine .inl ⟨rfl, ?_⟩
    rw [this]; simp
theorem ltE_facts (t u i l m n e k : Int) : ((ltE t u i l m n e k).2 == 0) = false ∨ (ltE t u i l m n e k).2 = 0 ∧ (1 ≤ (ltE t u i l m n e k).1 ∧ (ltE t u i l m n e k).1 ≤ 1000) ∧ (smE t u i l m (ltE t u i l m n e k).1 n e 0).2 = (n, 0) ∧
    (smE t u i l m ((ltE t u i l m n e k).1 - 1) n e 0).2.2 = 0 ∧ (smE t u i l m ((ltE t u i l m n e k).1 - 1) n e 0).2.1 < n := by
  cases h1 : okBt t u i l m e k
  · rw [ltE_1 h1]; exact .inl rfl
  cases h2 : inB n 1 2000
  · rw [ltE_2 h1 h2]; exact .inl rfl
  obtain ⟨H, he, hk⟩ := okBt_bd h1
  have hn := inB_true.1 h2
  by_cases h3 : lstU (atQ u i l m e n.toNat) 1001 = 1001
  · rw [ltE_3 h1 h2 h3]; exact .inl rfl
  rw [ltE_0 h1 h2 h3]
  have hle := lstU_le (p := atQ u i l m e n.toNat) 1001
  have hat := lstU_at (p := atQ u i l m e n.toNat) (n := 1001) (by omega)
  have hpos : 0 < lstU (atQ u i l m e n.toNat) 1001 := by
    apply Nat.pos_of_ne_zero
    intro h0
    rw [h0, atQ_0 (by omega)] at hat; cases hat
  have hpr := lstU_pred hpos
  generalize lstU (atQ u i l m e n.toNat) 1001 = L at *
  refine .inr ⟨rfl, by omega, ?_, ?_⟩
  · rcases smE_all (okBt_es h1) he (q := (L : Int)) (by omega) hn with ⟨_, r⟩ | ⟨a, _⟩
    · exact r
    · unfold atQ at hat; rw [hat] at a; cases a
  · simp only
    rcases smE_all (okBt_es h1) he (q := (L : Int) - 1) (by omega) hn with ⟨a, _⟩ | ⟨_, r⟩
    · unfold atQ at hpr
      rw [show ((L - 1 : Nat) : Int) = (L : Int) - 1 by omega, a] at hpr; cases hpr
    · exact r
theorem lsE_facts (t u i l m q n : Int) : ((lsE t u i l m q n).2 != 0) = true ∨ (lsE t u i l m q n).2 = 0 ∧ (0 ≤ (lsE t u i l m q n).1 ∧ (lsE t u i l m q n).1 ≤ 200000) ∧ (smE t u i l m q n (lsE t u i l m q n).1 0).2 = (n, 0) ∧
    ((lsE t u i l m q n).1 = 0 ∧ (smE t u i l m q n ((lsE t u i l m q n).1 - 1) 0).2.2 = 1 ∨ ((lsE t u i l m q n).1 == 0) = false ∧ (smE t u i l m q n ((lsE t u i l m q n).1 - 1) 0).2.2 = 0 ∧ (smE t u i l m q n ((lsE t u i l m q n).1 - 1) 0).2.1 < n) := by
  cases h1 : okEs t u i l m
  · rw [lsE_1 h1]; exact .inl rfl
  cases h2 : inB q 0 1000
  · rw [lsE_2 h1 h2]; exact .inl rfl
  cases h3 : inB n 1 2000
  · rw [lsE_2n h1 h2 h3]; exact .inl rfl
  have H := esc_of h1
  have hm := H.hm
  have hu := H.hu
  have hq := inB_true.1 h2
  have hn := inB_true.1 h3
  obtain ⟨M, rfl⟩ := Int.eq_ofNat_of_zero_le (show 0 ≤ m by omega)
  by_cases h4 : lstU (atE u i l M q n.toNat) (M + 1) = M + 1
  · rw [lsE_3 h1 h2 h3 h4]; exact .inl rfl
  rw [lsE_0 h1 h2 h3 h4]
  have hle := lstU_le (p := atE u i l M q n.toNat) (M + 1)
  have hat := lstU_at (p := atE u i l M q n.toNat) (n := M + 1) (by omega)
  have hpr := fun hpos => lstU_pred (p := atE u i l M q n.toNat) (n := M + 1) hpos
  generalize lstU (atE u i l M q n.toNat) (M + 1) = L at *
  refine .inr ⟨rfl, by omega, ?_, ?_⟩
  · rcases smE_all h1 (e := (L : Int)) (by omega) hq hn with ⟨_, r⟩ | ⟨a, _⟩
    · exact r
    · unfold atE at hat; rw [hat] at a; cases a
  · simp only
    by_cases h0 : L = 0
    · subst h0
      have hb : okBt t u i l M (((0 : Nat) : Int) - 1) 0 = false := okBt_n2 (inB_false.2 (by omega))
      have c := cdE_1 (q := q) hb
      refine .inl ⟨rfl, ?_⟩
      rw [smE_no (by omega), c]
    · refine .inr ⟨by simpa using h0, ?_⟩
      rcases smE_all h1 (e := (L : Int) - 1) (by omega) hq hn with ⟨a, _⟩ | ⟨_, r⟩
      · have hp := hpr (by omega)
        unfold atE at hp
        rw [show ((L - 1 : Nat) : Int) = (L : Int) - 1 by omega, a] at hp; cases hp
      · exact r
/-- A drawn escapement and two numbers. -/
def EsqnDraw (w : World) (en : Ending) (w' : World) : Prop := ∃ t u i l m q n : Int, (-1 ≤ q ∧ q ≤ 1001) ∧ (-1 ≤ n ∧ n ≤ 2001) ∧ en = .returned (.tuple #[.agg #[.int .i64 t, .int .i64 u, .int .i64 i, .int .i64 l, .int .i64 m], .int .i64 q, .int .i64 n]) ∧ Below w.heap.size w w'
set_option maxRecDepth 100000 in
set_option maxHeartbeats 2000000 in
theorem DrawLeastStart_any (w : World) (a : Option Addr) (len cap : Nat) (zs : List Int) (h : IsRow .u8 w a len cap zs) :
    Calls Try.prog 26 #[.slice a len cap] w (EsqnDraw w) := by
  have A0 := Lib.hid (h.keep (bA (bR w) (.cells #[.int .i64 0, .int .i64 0, .int .i64 0, .int .i64 0, .int .i64 0] 25)))
  have L0 := Lib.hid (bA (bR w) (.cells #[.int .i64 0, .int .i64 0, .int .i64 0, .int .i64 0, .int .i64 0] 25))
  have Q0 := Lib.hid (BoxL.new w [.int .i64 0, .int .i64 0, .int .i64 0, .int .i64 0, .int .i64 0] 25)
  have hw : (w.alloc (.cells #[.int .i64 0, .int .i64 0, .int .i64 0, .int .i64 0, .int .i64 0] 25)).heap.size = w.heap.size + 1 := by simp
  clear h
  have HW := Lib.hid hw
  clear hw
  go_enter Try.func26, Try.ntmps26
  go_wp2_with fail
  generalize w.alloc (.cells #[.int .i64 0, .int .i64 0, .int .i64 0, .int .i64 0, .int .i64 0] 25) = W0 at *
  refine (l00From_any W0 a len cap zs A0.out).mono ?_
  rintro en w1 ⟨rfl, s1, hb⟩
  have S1 := Lib.hid s1
  have L1 := Lib.hid (bT L0.out hb)
  have Q1 := Lib.hid (Q0.out.keep hb)
  have hw := HW.out
  clear s1 hb A0 L0 Q0 HW
  generalize hpp : W0.heap.size = p at S1 ⊢
  have hwp : w.heap.size ≤ p := by omega
  have hwn : w.heap.size ≠ p := by omega
  clear hw
  go_wp2_with fail
  refine (l11Bent_any _ p a len cap 0 S1.out (by omega)).mono ?_
  rintro en w2 ⟨t, u, i, l, m, ht, hu, hi, hl, hm, rfl, d2⟩
  have L2 := Lib.hid (grownE_bel L1.out d2.gr hwp)
  have Q2 := Lib.hid (Q1.out.grownA d2.gr hwn)
  have S2 := Lib.hid d2.src
  have HM := Lib.hid hm
  clear d2 L1 Q1 S1 ht hu hi hl hm
  have hp2 := S2.out.lt
  have Q3 := Lib.hid (Q2.out.alloc (.cells #[.int .i64 t, .int .i64 u, .int .i64 i, .int .i64 l, .int .i64 m] 25))
  have S3 := Lib.hid (S2.out.keep (bA (bR w2) (.cells #[.int .i64 t, .int .i64 u, .int .i64 i, .int .i64 l, .int .i64 m] 25)))
  have X3 := Lib.hid (BoxL.new w2 [.int .i64 t, .int .i64 u, .int .i64 i, .int .i64 l, .int .i64 m] 25)
  have L3 := Lib.hid (bA L2.out (.cells #[.int .i64 t, .int .i64 u, .int .i64 i, .int .i64 l, .int .i64 m] 25))
  have hnp : w2.heap.size ≠ p := by omega
  have hnr : ¬ w2.heap.size = w.heap.size := by have := Q2.out.lt; omega
  clear L2 Q2 S2
  go_upto_region 3 with fail
  generalize w2.alloc (.cells #[.int .i64 t, .int .i64 u, .int .i64 i, .int .i64 l, .int .i64 m] 25) = W2 at *
  generalize w2.heap.size = b5 at *
  go_wp2_with fail
  refine (l11DrawTorque_any _ p a len cap _ S3.out (by omega)).mono ?_
  rintro en w3 ⟨q, hq, rfl, ds⟩
  have Q4 := Lib.hid ((Q3.out.grownA ds.gr hwn).keep (bR _).drew)
  have X4 := Lib.hid ((X3.out.grownA ds.gr hnp).keep (bR _).drew)
  have S4 := Lib.hid (ds.src.keep (bR _).drew)
  have L4 := Lib.hid (grownE_bel L3.out ds.gr hwp).drew
  have HQ := Lib.hid hq
  clear ds hq Q3 X3 S3 L3
  obtain ⟨c0, c1, c2, c3, c4, c5⟩ := X4.out.c5
  go_upto_region 4 with fail
  go_cut [3, 4] (fun s3 s4 wx => s3 = .int .i64 q ∧ ∃ n : Int, s4 = .int .i64 n ∧ (-1 ≤ n ∧ n ≤ 2001) ∧ BoxL wx w.heap.size [.int .i64 t, .int .i64 u, .int .i64 i, .int .i64 l, .int .i64 m] ∧ Below w.heap.size w wx)
  case first =>
    go_region_with (go_at_call 51; refine (l11DrawCount_any _ p a len cap _ (by exact S4.out) (by omega)).mono ?_; rintro en w4 ⟨n, hn, rfl, ds⟩; have Z1 := Lib.hid (BoxL.grownA Q4.out ds.gr hwn); obtain ⟨z0, z1, z2, z3, z4, z5⟩ := Z1.out.c5; obtain ⟨y0, y1, y2, y3, y4⟩ := Z1.out.f5; have X5 := Lib.hid (BoxL.grownA X4.out ds.gr hnp); clear c0 c1 c2 c3 c4 c5; obtain ⟨c0, c1, c2, c3, c4, c5⟩ := X5.out.c5; have L5 := Lib.hid (grownE_bel L4.out ds.gr hwp); have HN := Lib.hid hn; clear ds hn)
    all_goals (go_wp2_with fail; go_meet; exact ⟨rfl, n, rfl, HN.out, BoxL.set5E Z1.out, bset5E L5.out (Nat.le_refl _)⟩)
  case rest =>
    obtain ⟨rfl, n, rfl, hn, hX, hL⟩ := hcut
    have L5 := Lib.hid hL
    have HN := Lib.hid hn
    obtain ⟨z0, z1, z2, z3, z4, z5⟩ := hX.c5
    clear hL hX hn X4 Q4 c0 c1 c2 c3 c4 c5 S4 L4
    generalize wc = w5 at *
    go_wp2_with fail
    exact bodyPost_ret (v := .tuple #[.agg #[.int .i64 t, .int .i64 u, .int .i64 i, .int .i64 l, .int .i64 m], .int .i64 q, .int .i64 n]) (by simp [results, Try.results26, go_sem, z0, z1, z2, z3, z4]) rfl ⟨t, u, i, l, m, q, n, HQ.out, HN.out, rfl, L5.out⟩
end Go.Proofs.Ytkagciekoeaijaa

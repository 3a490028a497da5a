/-
  The operations of ratios of package impl, where MakeRatio is known to answer: with the two sentinels laid, or where the ratio asked for is there.
-/
import Derived.Test.YtcklcledchboiaaDoorOps2
import Derived.Test.YtcklcledchboiaaDoorEpM
import Derived.Test.YtcklcledchboiaaDoorTrRI
namespace Go.Proofs.YtcklcledchboiaaDoor
open Go.RowKit

/-- From w on MakeRatio answers where P holds. -/
def MkW (w : World) (P : Int → Int → Prop) : Prop := ∀ n d, P n d → ∀ W, Below w.heap.size w W → -9223372036854775808 ≤ n → n ≤ 9223372036854775807 → -9223372036854775808 ≤ d → d ≤ 9223372036854775807 →
    Calls Tryd.prog 96 #[.int .i64 n, .int .i64 d] W fun e w' => e = .returned (.tuple #[.agg #[.int .i64 (rA n d), .int .i64 (rB n d)], .int .i64 (rC n d)]) ∧ Below W.heap.size W w'
theorem MkW.keep {w w' : World} {P : Int → Int → Prop} (h : MkW w P) (hb : Below w.heap.size w w') : MkW w' P := fun n d hp W hW => h n d hp W (bT hb hW)
def anyP : Int → Int → Prop := fun _ _ => True
def lowP : Int → Int → Prop := fun n d => d ≠ 0 ∧ lowOk n d = true
theorem mkW_sent {w : World} {a0 a1 : Addr} (hS : Sent w a0 a1) : MkW w anyP := fun n d _ W hW h1 h2 h3 h4 => MakeRatioI_any n d W a0 a1 (hS.keep hW) h1 h2 h3 h4
set_option maxHeartbeats 1000000 in
theorem MakeRatioI_low (n d : Int) (w : World) (hd : d ≠ 0) (hk : lowOk n d = true) (h1 : -9223372036854775808 ≤ n) (h2 : n ≤ 9223372036854775807) (h3 : -9223372036854775808 ≤ d) (h4 : d ≤ 9223372036854775807) :
    Calls Tryd.prog 96 #[.int .i64 n, .int .i64 d] w fun e w' => e = .returned (.tuple #[.agg #[.int .i64 (rA n d), .int .i64 (rB n d)], .int .i64 (rC n d)]) ∧ Below w.heap.size w w' := by
  have HZ := Lib.hid (r_yes hd hk)
  go_enter Tryd.func96, Tryd.ntmps96
  go_wp2_with fail
  refine (low_yes n d _ hd h1 h2 h3 h4 hk).mono ?_
  rintro e w1 ⟨rfl, hb1⟩
  obtain ⟨hc1, hf1⟩ := bcell hb1
  have hs1 : w.heap.size < w1.heap.size := bsize hb1 (by simp)
  have m0 : w1.cell? ⟨w.heap.size, 0, none⟩ = some (.int .i64 0) := by rw [hc1 _ _ (by simp)]; simp [go_sem]
  have m1 : w1.cell? ⟨w.heap.size, 1, none⟩ = some (.int .i64 0) := by rw [hc1 _ _ (by simp)]; simp [go_sem]
  go_wp2_with fail
  go_region_with (go_at_call 113; refine (code_nil _).mono ?_; rintro e w' ⟨rfl, rfl⟩)
  all_goals go_wp2_with fail
  all_goals refine bodyPost_ret (v := .tuple #[.agg #[.int .i64 (mkN n d), .int .i64 (lowD n d)], .int .i64 0]) ?_ rfl ⟨ret_rc HZ.out.1.symm HZ.out.2.1.symm HZ.out.2.2.symm, ?_⟩
  all_goals first | (simp [Act.put, results, Tryd.results96, go_sem, World.cell?_alloc_past, hs1, m0, m1]; done) | exact (((bA (bT (bA (bR _) _) hb1) _).drew).setCell (by simp) _).setCell (by simp) _ | exact (bA (((bT (bA (bR _) _) hb1).setCell (by simp) _).setCell (by simp) _) _).drew
theorem mkW_low (w : World) : MkW w lowP := fun n d hp W _ h1 h2 h3 h4 => MakeRatioI_low n d W hp.1 hp.2 h1 h2 h3 h4

set_option maxHeartbeats 1000000 in
theorem AddRatioG (n d p q : Int) (w : World) {P : Int → Int → Prop} (hS : MkW w P) (hp : okR n d = true → okR p q = true → P (addX n d p q) (mulX d q)) :
    Calls Tryd.prog 60 #[.agg #[.int .i64 n, .int .i64 d], .agg #[.int .i64 p, .int .i64 q]] w fun e w' => e = .returned (.tuple #[.agg #[.int .i64 (oA (okR n d && okR p q) (addX n d p q) (mulX d q)), .int .i64 (oB (okR n d && okR p q) (addX n d p q) (mulX d q))], .int .i64 (oC (okR n d && okR p q) (addX n d p q) (mulX d q))]) ∧ Below w.heap.size w w' := by
  have HS := Lib.hid hS
  clear hS
  cases h1 : okR n d
  · have HZ := Lib.hid (o_no (addX n d p q) (mulX d q))
    have HV := Lib.hid (v_no1 (p := p) (q := q) h1)
    go_enter Tryd.func60, Tryd.ntmps60
    go_wp2_with fail
    refine (valid_any _ _ _).mono ?_
    rintro e w1 ⟨rfl, hb1⟩
    obtain ⟨hc1, hf1⟩ := bcell hb1
    go_wp2_with fail
    refine bodyPost_ret (v := .tuple #[.agg #[.int .i64 0, .int .i64 0], .int .i64 1]) ?_ rfl ⟨?_, ((bT (bA (bA (bA (bR _) _) _) _) hb1).setCell (by simp; omega) _).setCell (by simp; omega) _⟩
    · simp [results, Tryd.results60, go_sem, hc1]
    · first | exact ret_rc HZ.out.1.symm HZ.out.2.1.symm HZ.out.2.2.symm | (rw [HV.out]; exact ret_rc HZ.out.1.symm HZ.out.2.1.symm HZ.out.2.2.symm)
  · cases h2 : okR p q
    · have HZ := Lib.hid (o_no (addX n d p q) (mulX d q))
      have HV := Lib.hid (v_no2 (n := n) (d := d) h2)
      go_enter Tryd.func60, Tryd.ntmps60
      go_wp2_with fail
      refine (valid_any _ _ _).mono ?_
      rintro e w1 ⟨rfl, hb1⟩
      obtain ⟨hc1, hf1⟩ := bcell hb1
      have hs1 : w.heap.size + 1 + 1 < w1.heap.size := bsize hb1 (by simp)
      have hs1' : w.heap.size + 1 < w1.heap.size := by omega
      go_wp2_with fail
      refine (valid_any _ _ _).mono ?_
      rintro e w2 ⟨rfl, hb2⟩
      obtain ⟨hc2, hf2⟩ := bcell hb2
      go_wp2_with fail
      refine bodyPost_ret (v := .tuple #[.agg #[.int .i64 0, .int .i64 0], .int .i64 1]) ?_ rfl ⟨?_, ((bT (bT (bA (bA (bA (bR _) _) _) _) hb1) hb2).setCell (by simp; omega) _).setCell (by simp; omega) _⟩
      · simp [results, Tryd.results60, go_sem, hc1, hc2, hs1]
      · first | exact ret_rc HZ.out.1.symm HZ.out.2.1.symm HZ.out.2.2.symm | (rw [HV.out]; exact ret_rc HZ.out.1.symm HZ.out.2.1.symm HZ.out.2.2.symm)
    · have HV := Lib.hid (v_yes h1 h2)
      obtain ⟨b1, b2, a1', a2'⟩ := okR_bd h1
      obtain ⟨d1, d2, c1, c2⟩ := okR_bd h2
      have HZ := Lib.hid (o_yes (addX n d p q) (mulX d q))
      obtain ⟨x1, x2⟩ := addX_bd a1' a2' (show -1000000000 ≤ d by omega) b2 c1 c2 (show -1000000000 ≤ q by omega) d2
      obtain ⟨y1, y2⟩ := mulX_bd (show -1000000000 ≤ d by omega) b2 (show -1000000000 ≤ q by omega) d2
      go_enter Tryd.func60, Tryd.ntmps60
      go_wp2_with fail
      refine (valid_any _ _ _).mono ?_
      rintro e w1 ⟨rfl, hb1⟩
      obtain ⟨hc1, hf1⟩ := bcell hb1
      have hs1 : w.heap.size + 1 + 1 < w1.heap.size := bsize hb1 (by simp)
      have hs1' : w.heap.size + 1 < w1.heap.size := by omega
      have hs1'' : w.heap.size < w1.heap.size := by omega
      go_wp2_with fail
      refine (valid_any _ _ _).mono ?_
      rintro e w2 ⟨rfl, hb2⟩
      obtain ⟨hc2, hf2⟩ := bcell hb2
      have hs2 : w.heap.size + 1 + 1 < w2.heap.size := bsize hb2 hs1
      have hs2' : w.heap.size + 1 < w2.heap.size := by omega
      have hs2'' : w.heap.size < w2.heap.size := by omega
      have hB2 := bT (bT (bA (bA (bA (bR w) _) _) _) hb1) hb2
      go_wp2_with fail
      refine (plus_any _ _ _ _ _ (by omega) (by omega) (by omega) (by omega) (by omega) (by omega) (by omega) (by omega)).mono ?_
      rintro e w3 ⟨rfl, hb3⟩
      obtain ⟨hc3, hf3⟩ := bcell hb3
      have hs3 : w.heap.size + 1 + 1 < w3.heap.size := bsize hb3 hs2
      go_wp2_with fail
      refine (HS.out _ _ (hp h1 h2) _ (bT hB2 hb3) (by omega) (by omega) (by omega) (by omega)).mono ?_
      rintro e w4 ⟨rfl, hb4⟩
      obtain ⟨hc4, hf4⟩ := bcell hb4
      generalize rA (addX n d p q) (mulX d q) = a at *
      generalize rB (addX n d p q) (mulX d q) = b at *
      generalize rC (addX n d p q) (mulX d q) = c at *
      go_wp2_with fail
      refine bodyPost_ret (v := .tuple #[.agg #[.int .i64 a, .int .i64 b], .int .i64 c]) ?_ rfl ⟨?_, ((bT (bT hB2 hb3) hb4).setCell (by simp; omega) _).setCell (by simp; omega) _⟩
      · simp [results, Tryd.results60, go_sem, hc1, hc2, hs1, hs2, hc3, hc4, hs3]
      · first | exact ret_rc HZ.out.1.symm HZ.out.2.1.symm HZ.out.2.2.symm | (rw [HV.out]; exact ret_rc HZ.out.1.symm HZ.out.2.1.symm HZ.out.2.2.symm)

set_option maxHeartbeats 1000000 in
theorem MulRatioG (n d p q : Int) (w : World) {P : Int → Int → Prop} (hS : MkW w P) (hp : okR n d = true → okR p q = true → P (mulX n p) (mulX d q)) :
    Calls Tryd.prog 61 #[.agg #[.int .i64 n, .int .i64 d], .agg #[.int .i64 p, .int .i64 q]] w fun e w' => e = .returned (.tuple #[.agg #[.int .i64 (oA (okR n d && okR p q) (mulX n p) (mulX d q)), .int .i64 (oB (okR n d && okR p q) (mulX n p) (mulX d q))], .int .i64 (oC (okR n d && okR p q) (mulX n p) (mulX d q))]) ∧ Below w.heap.size w w' := by
  have HS := Lib.hid hS
  clear hS
  cases h1 : okR n d
  · have HZ := Lib.hid (o_no (mulX n p) (mulX d q))
    have HV := Lib.hid (v_no1 (p := p) (q := q) h1)
    go_enter Tryd.func61, Tryd.ntmps61
    go_wp2_with fail
    refine (valid_any _ _ _).mono ?_
    rintro e w1 ⟨rfl, hb1⟩
    obtain ⟨hc1, hf1⟩ := bcell hb1
    go_wp2_with fail
    refine bodyPost_ret (v := .tuple #[.agg #[.int .i64 0, .int .i64 0], .int .i64 1]) ?_ rfl ⟨?_, ((bT (bA (bA (bA (bR _) _) _) _) hb1).setCell (by simp; omega) _).setCell (by simp; omega) _⟩
    · simp [results, Tryd.results61, go_sem, hc1]
    · first | exact ret_rc HZ.out.1.symm HZ.out.2.1.symm HZ.out.2.2.symm | (rw [HV.out]; exact ret_rc HZ.out.1.symm HZ.out.2.1.symm HZ.out.2.2.symm)
  · cases h2 : okR p q
    · have HZ := Lib.hid (o_no (mulX n p) (mulX d q))
      have HV := Lib.hid (v_no2 (n := n) (d := d) h2)
      go_enter Tryd.func61, Tryd.ntmps61
      go_wp2_with fail
      refine (valid_any _ _ _).mono ?_
      rintro e w1 ⟨rfl, hb1⟩
      obtain ⟨hc1, hf1⟩ := bcell hb1
      have hs1 : w.heap.size + 1 + 1 < w1.heap.size := bsize hb1 (by simp)
      have hs1' : w.heap.size + 1 < w1.heap.size := by omega
      go_wp2_with fail
      refine (valid_any _ _ _).mono ?_
      rintro e w2 ⟨rfl, hb2⟩
      obtain ⟨hc2, hf2⟩ := bcell hb2
      go_wp2_with fail
      refine bodyPost_ret (v := .tuple #[.agg #[.int .i64 0, .int .i64 0], .int .i64 1]) ?_ rfl ⟨?_, ((bT (bT (bA (bA (bA (bR _) _) _) _) hb1) hb2).setCell (by simp; omega) _).setCell (by simp; omega) _⟩
      · simp [results, Tryd.results61, go_sem, hc1, hc2, hs1]
      · first | exact ret_rc HZ.out.1.symm HZ.out.2.1.symm HZ.out.2.2.symm | (rw [HV.out]; exact ret_rc HZ.out.1.symm HZ.out.2.1.symm HZ.out.2.2.symm)
    · have HV := Lib.hid (v_yes h1 h2)
      obtain ⟨b1, b2, a1', a2'⟩ := okR_bd h1
      obtain ⟨d1, d2, c1, c2⟩ := okR_bd h2
      have HZ := Lib.hid (o_yes (mulX n p) (mulX d q))
      obtain ⟨x1, x2⟩ := mulX_bd a1' a2' c1 c2
      obtain ⟨y1, y2⟩ := mulX_bd (show -1000000000 ≤ d by omega) b2 (show -1000000000 ≤ q by omega) d2
      go_enter Tryd.func61, Tryd.ntmps61
      go_wp2_with fail
      refine (valid_any _ _ _).mono ?_
      rintro e w1 ⟨rfl, hb1⟩
      obtain ⟨hc1, hf1⟩ := bcell hb1
      have hs1 : w.heap.size + 1 + 1 < w1.heap.size := bsize hb1 (by simp)
      have hs1' : w.heap.size + 1 < w1.heap.size := by omega
      have hs1'' : w.heap.size < w1.heap.size := by omega
      go_wp2_with fail
      refine (valid_any _ _ _).mono ?_
      rintro e w2 ⟨rfl, hb2⟩
      obtain ⟨hc2, hf2⟩ := bcell hb2
      have hs2 : w.heap.size + 1 + 1 < w2.heap.size := bsize hb2 hs1
      have hs2' : w.heap.size + 1 < w2.heap.size := by omega
      have hs2'' : w.heap.size < w2.heap.size := by omega
      have hB2 := bT (bT (bA (bA (bA (bR w) _) _) _) hb1) hb2
      go_wp2_with fail
      refine (times_any _ _ _ _ _ (by omega) (by omega) (by omega) (by omega) (by omega) (by omega) (by omega) (by omega)).mono ?_
      rintro e w3 ⟨rfl, hb3⟩
      obtain ⟨hc3, hf3⟩ := bcell hb3
      have hs3 : w.heap.size + 1 + 1 < w3.heap.size := bsize hb3 hs2
      go_wp2_with fail
      refine (HS.out _ _ (hp h1 h2) _ (bT hB2 hb3) (by omega) (by omega) (by omega) (by omega)).mono ?_
      rintro e w4 ⟨rfl, hb4⟩
      obtain ⟨hc4, hf4⟩ := bcell hb4
      generalize rA (mulX n p) (mulX d q) = a at *
      generalize rB (mulX n p) (mulX d q) = b at *
      generalize rC (mulX n p) (mulX d q) = c at *
      go_wp2_with fail
      refine bodyPost_ret (v := .tuple #[.agg #[.int .i64 a, .int .i64 b], .int .i64 c]) ?_ rfl ⟨?_, ((bT (bT hB2 hb3) hb4).setCell (by simp; omega) _).setCell (by simp; omega) _⟩
      · simp [results, Tryd.results61, go_sem, hc1, hc2, hs1, hs2, hc3, hc4, hs3]
      · first | exact ret_rc HZ.out.1.symm HZ.out.2.1.symm HZ.out.2.2.symm | (rw [HV.out]; exact ret_rc HZ.out.1.symm HZ.out.2.1.symm HZ.out.2.2.symm)

set_option maxHeartbeats 1000000 in
theorem SubRatioG (n d p q : Int) (w : World) {P : Int → Int → Prop} (hS : MkW w P) (hp : okR n d = true → okR p q = true → P (addX n d (-p) q) (mulX d q)) :
    Calls Tryd.prog 62 #[.agg #[.int .i64 n, .int .i64 d], .agg #[.int .i64 p, .int .i64 q]] w fun e w' => e = .returned (.tuple #[.agg #[.int .i64 (oA (okR n d && okR p q) (addX n d (-p) q) (mulX d q)), .int .i64 (oB (okR n d && okR p q) (addX n d (-p) q) (mulX d q))], .int .i64 (oC (okR n d && okR p q) (addX n d (-p) q) (mulX d q))]) ∧ Below w.heap.size w w' := by
  have HS := Lib.hid hS
  clear hS
  cases h1 : okR n d
  · have HZ := Lib.hid (o_no (addX n d (-p) q) (mulX d q))
    have HV := Lib.hid (v_no1 (p := p) (q := q) h1)
    go_enter Tryd.func62, Tryd.ntmps62
    go_wp2_with fail
    refine (valid_any _ _ _).mono ?_
    rintro e w1 ⟨rfl, hb1⟩
    obtain ⟨hc1, hf1⟩ := bcell hb1
    go_wp2_with fail
    refine bodyPost_ret (v := .tuple #[.agg #[.int .i64 0, .int .i64 0], .int .i64 1]) ?_ rfl ⟨?_, ((bT (bA (bA (bA (bR _) _) _) _) hb1).setCell (by simp; omega) _).setCell (by simp; omega) _⟩
    · simp [results, Tryd.results62, go_sem, hc1]
    · first | exact ret_rc HZ.out.1.symm HZ.out.2.1.symm HZ.out.2.2.symm | (rw [HV.out]; exact ret_rc HZ.out.1.symm HZ.out.2.1.symm HZ.out.2.2.symm)
  · cases h2 : okR p q
    · have HZ := Lib.hid (o_no (addX n d (-p) q) (mulX d q))
      have HV := Lib.hid (v_no2 (n := n) (d := d) h2)
      go_enter Tryd.func62, Tryd.ntmps62
      go_wp2_with fail
      refine (valid_any _ _ _).mono ?_
      rintro e w1 ⟨rfl, hb1⟩
      obtain ⟨hc1, hf1⟩ := bcell hb1
      have hs1 : w.heap.size + 1 + 1 < w1.heap.size := bsize hb1 (by simp)
      have hs1' : w.heap.size + 1 < w1.heap.size := by omega
      go_wp2_with fail
      refine (valid_any _ _ _).mono ?_
      rintro e w2 ⟨rfl, hb2⟩
      obtain ⟨hc2, hf2⟩ := bcell hb2
      go_wp2_with fail
      refine bodyPost_ret (v := .tuple #[.agg #[.int .i64 0, .int .i64 0], .int .i64 1]) ?_ rfl ⟨?_, ((bT (bT (bA (bA (bA (bR _) _) _) _) hb1) hb2).setCell (by simp; omega) _).setCell (by simp; omega) _⟩
      · simp [results, Tryd.results62, go_sem, hc1, hc2, hs1]
      · first | exact ret_rc HZ.out.1.symm HZ.out.2.1.symm HZ.out.2.2.symm | (rw [HV.out]; exact ret_rc HZ.out.1.symm HZ.out.2.1.symm HZ.out.2.2.symm)
    · have HV := Lib.hid (v_yes h1 h2)
      obtain ⟨b1, b2, a1', a2'⟩ := okR_bd h1
      obtain ⟨d1, d2, c1, c2⟩ := okR_bd h2
      have HZ := Lib.hid (o_yes (addX n d (-p) q) (mulX d q))
      obtain ⟨x1, x2⟩ := addX_bd (p := -p) a1' a2' (show -1000000000 ≤ d by omega) b2 (show -1000000000 ≤ -p by omega) (show -p ≤ 1000000000 by omega) (show -1000000000 ≤ q by omega) d2
      obtain ⟨y1, y2⟩ := mulX_bd (show -1000000000 ≤ d by omega) b2 (show -1000000000 ≤ q by omega) d2
      go_enter Tryd.func62, Tryd.ntmps62
      go_wp2_with fail
      refine (valid_any _ _ _).mono ?_
      rintro e w1 ⟨rfl, hb1⟩
      obtain ⟨hc1, hf1⟩ := bcell hb1
      have hs1 : w.heap.size + 1 + 1 < w1.heap.size := bsize hb1 (by simp)
      have hs1' : w.heap.size + 1 < w1.heap.size := by omega
      have hs1'' : w.heap.size < w1.heap.size := by omega
      go_wp2_with fail
      refine (valid_any _ _ _).mono ?_
      rintro e w2 ⟨rfl, hb2⟩
      obtain ⟨hc2, hf2⟩ := bcell hb2
      have hs2 : w.heap.size + 1 + 1 < w2.heap.size := bsize hb2 hs1
      have hs2' : w.heap.size + 1 < w2.heap.size := by omega
      have hs2'' : w.heap.size < w2.heap.size := by omega
      have hB2 := bT (bT (bA (bA (bA (bR w) _) _) _) hb1) hb2
      have hS2 := Lib.hid (fun W (hW : Below w.heap.size w W) => HS.out _ _ (hp h1 h2) W hW)
      clear HS
      go_wp2_with fail
      go_region_with (first
        | (go_at_call 99; refine (negated_any _ _ _ (by omega) (by omega)).mono ?_; rintro e w3 ⟨rfl, hb3'⟩; have hb3 := bU hb3'; clear hb3'; obtain ⟨hc3, hf3⟩ := bcell hb3; have hs3 : w.heap.size + 1 + 1 < w3.heap.size := bsize hb3 hs2; have hs3' : w.heap.size < w3.heap.size := by omega)
        | (go_at_call 97; refine (plus_any _ _ _ _ _ ?_ ?_ ?_ ?_ ?_ ?_ ?_ ?_).mono ?_; omega; omega; omega; omega; omega; omega; omega; omega; rintro e w4 ⟨rfl, hb4⟩; obtain ⟨hc4, hf4⟩ := bcell hb4; have hs4 : w.heap.size + 1 + 1 < w4.heap.size := bsize hb4 hs3)
        | (go_at_call 96; refine (hS2.out _ ?_ ?_ ?_ ?_ ?_).mono ?_; exact bT (bT hB2 hb3) hb4; omega; omega; omega; omega; rintro e w5 ⟨rfl, hb5⟩; obtain ⟨hc5, hf5⟩ := bcell hb5; have hs5 : w.heap.size + 1 + 1 < w5.heap.size := bsize hb5 hs4; generalize rA (addX n d (-p) q) (mulX d q) = a at *; generalize rB (addX n d (-p) q) (mulX d q) = b at *; generalize rC (addX n d (-p) q) (mulX d q) = c at *))
      all_goals go_wp2_with fail
      all_goals refine bodyPost_ret (v := .tuple #[.agg #[.int .i64 a, .int .i64 b], .int .i64 c]) ?_ rfl ⟨?_, ((bT (bT (bT hB2 hb3) hb4) hb5).setCell (by simp; omega) _).setCell (by simp; omega) _⟩
      all_goals first | (simp [Act.put, results, Tryd.results62, go_sem, hc1, hc2, hs1, hs2, hc3, hc4, hc5, hs3, hs4]; done) | exact ret_rc HZ.out.1.symm HZ.out.2.1.symm HZ.out.2.2.symm | (rw [HV.out]; exact ret_rc HZ.out.1.symm HZ.out.2.1.symm HZ.out.2.2.symm)

/-- The same, in the words of a speed. -/
theorem addG (n d p q : Int) (w : World) {P : Int → Int → Prop} (hS : MkW w P) (hp : okR n d = true → okR p q = true → P (addX n d p q) (mulX d q)) :
    Calls Tryd.prog 60 #[.agg #[.int .i64 n, .int .i64 d], .agg #[.int .i64 p, .int .i64 q]] w (RatC w (adA n d p q) (adB n d p q) (adC n d p q)) := AddRatioG n d p q w hS hp
theorem mulG (n d p q : Int) (w : World) {P : Int → Int → Prop} (hS : MkW w P) (hp : okR n d = true → okR p q = true → P (mulX n p) (mulX d q)) :
    Calls Tryd.prog 61 #[.agg #[.int .i64 n, .int .i64 d], .agg #[.int .i64 p, .int .i64 q]] w (RatC w (muA n d p q) (muB n d p q) (muC n d p q)) := MulRatioG n d p q w hS hp
theorem subG (n d p q : Int) (w : World) {P : Int → Int → Prop} (hS : MkW w P) (hp : okR n d = true → okR p q = true → P (addX n d (-p) q) (mulX d q)) :
    Calls Tryd.prog 62 #[.agg #[.int .i64 n, .int .i64 d], .agg #[.int .i64 p, .int .i64 q]] w (RatC w (suA n d p q) (suB n d p q) (suC n d p q)) := SubRatioG n d p q w hS hp
theorem addS (n d p q : Int) (w : World) : Calls Tryd.prog 82 #[.agg #[.int .i64 n, .int .i64 d], .agg #[.int .i64 p, .int .i64 q]] w (RatC w (adA n d p q) (adB n d p q) (adC n d p q)) := AddRatioS_any n d p q w
theorem mulS (n d p q : Int) (w : World) : Calls Tryd.prog 83 #[.agg #[.int .i64 n, .int .i64 d], .agg #[.int .i64 p, .int .i64 q]] w (RatC w (muA n d p q) (muB n d p q) (muC n d p q)) := MulRatioS_any n d p q w
theorem subS (n d p q : Int) (w : World) : Calls Tryd.prog 84 #[.agg #[.int .i64 n, .int .i64 d], .agg #[.int .i64 p, .int .i64 q]] w (RatC w (suA n d p q) (suB n d p q) (suC n d p q)) := SubRatioS_any n d p q w
end Go.Proofs.YtcklcledchboiaaDoor

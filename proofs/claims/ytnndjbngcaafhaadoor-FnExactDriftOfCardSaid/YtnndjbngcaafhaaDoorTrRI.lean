/-
  The contract of impl.TrainRatio, in a world in which the two sentinels of package impl are laid.
-/
import Derived.Test.YtnndjbngcaafhaaDoorTrM
import Derived.Test.YtnndjbngcaafhaaDoorMakeR
import Derived.Test.YtnndjbngcaafhaaDoorBox
namespace Go.Proofs.YtnndjbngcaafhaaDoor
open Go.RowKit

/-- A ratio and a code. -/
def RatC (w : World) (a b c : Int) (e : Ending) (w' : World) : Prop := e = .returned (.tuple #[.agg #[.int .i64 a, .int .i64 b], .int .i64 c]) ∧ Below w.heap.size w w'
theorem Sent.keepB {w w' : World} {a0 a1 : Addr} (h : Sent w a0 a1) (hb : Below w.heap.size w w') : Sent w' a0 a1 := h.keep hb
/-- What stands between two rounds: the result's box br, the turns in box bt. -/
def TrRel (w : World) (ps : List (Int × Int)) (br bt : Nat) (c i : Value) (wr : World) : Prop :=
  ∃ (k : Nat) (n d : Int), k ≤ ps.length ∧ i = .int .i64 k ∧ c = .int .i64 0 ∧ Box2 wr br 0 0 ∧ Box2 wr bt n d ∧ okR n d = true ∧ trF 1 1 ps = trF n d (ps.drop k) ∧ Below w.heap.size w wr
theorem bel_set {w x : World} {a : Addr} {v : Value} (h : Below w.heap.size w x) (ha : w.heap.size ≤ a.block) : Below w.heap.size w (x.setCell a v) := h.setCell ha v
set_option maxRecDepth 100000 in
set_option maxHeartbeats 4000000 in
theorem TrainRatioI_any (ps : List (Int × Int)) (v : Value) (w : World) (a0 a1 : Addr) (hS : Sent w a0 a1) (ha : SlP w v ps) (hmax : ps.length ≤ 1000000000000) :
    Calls Tryd.prog 58 #[v] w (RatC w (trA ps) (trB ps) (trC' ps)) := by
  cases h : okT ps
  · obtain ⟨q1, q2, q3⟩ := tr_bad h
    rw [q1, q2, q3]
    clear q1 q2 q3
    have B0 := Box2.new w 0 0 32
    go_enter Tryd.func58, Tryd.ntmps58
    go_wp2_with fail
    refine (isTrain_any ps _ _ (ha.keep (bA (bR _) _)) hmax).mono ?_
    rw [h]
    rintro e w1 ⟨rfl, hb⟩
    obtain ⟨x0, x1, x2, x3, x4⟩ := B0.keep hb
    have L := Lib.hid (bT (bA (bR w) (.cells #[.int .i64 0, .int .i64 0] 32)) hb)
    clear hb B0
    go_wp2_with fail
    refine bodyPost_ret (v := .tuple #[.agg #[.int .i64 0, .int .i64 0], .int .i64 1]) ?_ rfl ⟨rfl, (L.out.setCell (by simp) _).setCell (by simp) _⟩
    simp [results, Tryd.results58, go_sem, x0, x1]
  · have h5 := (okT_iff.1 h).1
    have HOK := Lib.hid h
    have HV := Lib.hid ha
    have HS := Lib.hid hS
    have B0 := Box2.new w 0 0 32
    obtain ⟨ao, cap, rfl, _⟩ := ha
    go_enter Tryd.func58, Tryd.ntmps58
    go_wp2_with fail
    refine (isTrain_any ps _ _ (HV.out.keep (bA (bR _) _)) hmax).mono ?_
    rw [h]
    rintro e w1 ⟨rfl, hb⟩
    have B1 := Lib.hid ((B0.keep hb).alloc (.cells #[.int .i64 1, .int .i64 1] 32))
    have T1 := Lib.hid (Box2.new w1 1 1 32)
    have hsz : w.heap.size < w1.heap.size := bsize hb (by simp)
    have L1 := Lib.hid (bA (bT (bA (bR w) (.cells #[.int .i64 0, .int .i64 0] 32)) hb) (.cells #[.int .i64 1, .int .i64 1] 32))
    have RS := Lib.hid (show TrRel w ps w.heap.size w1.heap.size (.int .i64 0) (.int .i64 0) (w1.alloc (.cells #[.int .i64 1, .int .i64 1] 32)) from
      ⟨0, 1, 1, by omega, rfl, rfl, B1.out, T1.out, by decide, by simp, L1.out⟩)
    clear hb B0 B1 T1 L1 h hS
    go_wp2_with fail
    generalize w1.alloc (.cells #[.int .i64 1, .int .i64 1] 32) = W1 at *
    generalize w1.heap.size = bt at *
    go_loopw [5, 15] (fun c i wr => TrRel w ps w.heap.size bt c i wr) (fun _ i _ => ps.length - (intOf i).toNat)
    case atStart => exact RS.out
    case round =>
      obtain ⟨k, n, d, hk, rfl, rfl, hbr, hbt, hok, htr, hbw⟩ := hrel
      have HBR := Lib.hid hbr
      have HBT := Lib.hid hbt
      have HN := Lib.hid hok
      have HTR := Lib.hid htr
      have HB := Lib.hid hbw
      obtain ⟨n1, n2, n3, n4⟩ := okR_bd hok
      clear hbr hbt hok htr hbw
      by_cases hlt : k < ps.length
      · obtain ⟨ao', cap', e', ha'⟩ := HV.out
        injection e' with e1 e2 e3
        subst e1 e3
        obtain ⟨g, rfl, hg, hc⟩ := ha' (by omega)
        obtain ⟨c1, c2⟩ := (hc.keep hg HB.out) k hlt
        have hg' : g < wr.heap.size := Nat.lt_of_lt_of_le hg HB.out.size
        obtain ⟨a1', a2, a3, a4⟩ := okT_at HOK.out hlt
        have HGO := Lib.hid (fun h => trF_go (n := n) (d := d) hlt h)
        have HNO := Lib.hid (fun h => trF_no (n := n) (d := d) hlt h)
        clear hg hc ha' e2
        generalize (pat ps k).1 = a at *
        generalize (pat ps k).2 = b at *
        obtain ⟨p1, p2⟩ := prod_bd (n := n) (a := a) (by omega) (by omega) a1' a2
        obtain ⟨p3, p4⟩ := prod_pos (d := d) (b := b) n1 n2 a3 a4
        have A1 := Lib.hid (Box2.new wr a b 54)
        have HBR1 := Lib.hid (HBR.out.alloc (.cells #[.int .i64 a, .int .i64 b] 54))
        have HBT1 := Lib.hid (HBT.out.alloc (.cells #[.int .i64 a, .int .i64 b] 54))
        have HB1 := Lib.hid (bA HB.out (.cells #[.int .i64 a, .int .i64 b] 54))
        obtain ⟨t0, t1, _, _, t4⟩ := HBT.out
        obtain ⟨y0, y1, _, _, y4⟩ := HBT1.out
        have hdb : d * b ≠ 0 := by omega
        cases hlow : lowOk (-n * a) (d * b)
        · obtain ⟨q1, q2, q3⟩ := r_no hdb hlow
          have HQ := Lib.hid (tr_far HOK.out (HTR.out.trans (HNO.out hlow)))
          have HQ1 := Lib.hid q1
          have HQ2 := Lib.hid q2
          have HQ3 := Lib.hid q3
          clear q1 q2 q3 hlow hdb
          go_wp2_with fail
          refine (MakeRatioI_any _ _ _ a0 a1 (HS.out.keep HB1.out) (by omega) (by omega) (by omega) (by omega)).mono ?_
          rw [HQ1.out, HQ2.out, HQ3.out]
          rintro e w2 ⟨rfl, hb2⟩
          have HBR2 := Lib.hid (((HBR1.out.keep hb2).other (o := 0) (v := .int .i64 0) (show w.heap.size ≠ bt by omega)).other (o := 1) (v := .int .i64 0) (show w.heap.size ≠ bt by omega))
          have HBT2 := Lib.hid (HBT1.out.keep hb2)
          have HB2 := Lib.hid (show Below w.heap.size w (w2.setCell ⟨bt, 0, none⟩ (.int .i64 0)) from (bT HB1.out hb2).setCell (show w.heap.size ≤ bt by omega) _)
          have HB3 := Lib.hid (show Below w.heap.size w ((w2.setCell ⟨bt, 0, none⟩ (.int .i64 0)).setCell ⟨bt, 1, none⟩ (.int .i64 0)) from HB2.out.setCell (show w.heap.size ≤ bt by omega) _)
          clear hb2 HBR1 HBT1 HB1 t0 t1 t4 y0 y1 y4
          obtain ⟨t0, t1, t2, t3, t4⟩ := HBT2.out
          obtain ⟨x0, x1, x2, x3, x4⟩ := HBR2.out
          go_wp2_with fail
          refine bodyPost_ret (v := .tuple #[.agg #[.int .i64 0, .int .i64 0], .int .i64 2]) ?_ rfl ⟨ret_rc HQ.out.1.symm HQ.out.2.1.symm HQ.out.2.2.symm, (HB3.out.setCell (by simp) _).setCell (by simp) _⟩
          simp [results, Tryd.results58, go_sem, x0, x1]
        · obtain ⟨q1, q2, q3⟩ := r_yes hdb hlow
          have HTR2 := Lib.hid (HTR.out.trans (HGO.out hlow))
          have HN2 := Lib.hid (low_fit p3 hlow)
          have HQ1 := Lib.hid q1
          have HQ2 := Lib.hid q2
          have HQ3 := Lib.hid q3
          clear q1 q2 q3 hlow hdb
          generalize mkN (-n * a) (d * b) = n' at *
          generalize lowD (-n * a) (d * b) = d' at *
          go_wp2_with fail
          refine (MakeRatioI_any _ _ _ a0 a1 (HS.out.keep HB1.out) (by omega) (by omega) (by omega) (by omega)).mono ?_
          rw [HQ1.out, HQ2.out, HQ3.out]
          rintro e w2 ⟨rfl, hb2⟩
          have HBR2 := Lib.hid (((HBR1.out.keep hb2).other (o := 0) (v := .int .i64 n') (show w.heap.size ≠ bt by omega)).other (o := 1) (v := .int .i64 d') (show w.heap.size ≠ bt by omega))
          have HBT2 := Lib.hid (HBT1.out.keep hb2)
          have HBT3 := Lib.hid (HBT2.out.set n' d')
          have HB2 := Lib.hid (show Below w.heap.size w (w2.setCell ⟨bt, 0, none⟩ (.int .i64 n')) from (bT HB1.out hb2).setCell (show w.heap.size ≤ bt by omega) _)
          have HB3 := Lib.hid (show Below w.heap.size w ((w2.setCell ⟨bt, 0, none⟩ (.int .i64 n')).setCell ⟨bt, 1, none⟩ (.int .i64 d')) from HB2.out.setCell (show w.heap.size ≤ bt by omega) _)
          clear hb2 HBR1 HBT1 HB1 HB2 t0 t1 t4 y0 y1 y4
          obtain ⟨t0, t1, t2, t3, t4⟩ := HBT2.out
          go_wp2_with fail
          go_roundw
          case rel => exact ⟨k + 1, n', d', by omega, by go_num, rfl, HBR2.out, HBT3.out, HN2.out, HTR2.out, HB3.out⟩
          case measure => simp [intOf]; omega
      · obtain rfl : k = ps.length := by omega
        have HQ := Lib.hid (tr_got HOK.out (HTR.out.trans trF_end))
        obtain ⟨t0, t1, _, _, _⟩ := HBT.out
        obtain ⟨x0, x1, x2, x3, x4⟩ := HBR.out
        go_wp2_with fail
        refine bodyPost_ret (v := .tuple #[.agg #[.int .i64 n, .int .i64 d], .int .i64 0]) ?_ rfl ⟨ret_rc HQ.out.1.symm HQ.out.2.1.symm HQ.out.2.2.symm, (HB.out.setCell (by simp) _).setCell (by simp) _⟩
        simp [results, Tryd.results58, go_sem, x0, x1]
end Go.Proofs.YtnndjbngcaafhaaDoor

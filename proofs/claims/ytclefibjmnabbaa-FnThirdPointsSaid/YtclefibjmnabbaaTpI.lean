/-
  The contract of impl.ThirdPoint.
-/
import Derived.Test.YtclefibjmnabbaaTpS
import Derived.Test.YtclefibjmnabbaaScl
namespace Go.Proofs.Ytclefibjmnabbaa
open Go.RowKit

def TpK2 (W w : World) (a b c e : Int) (w' : World) : Prop := w'.cell? ⟨w.heap.size, 0, none⟩ = some (.int .i64 a) ∧ w'.cell? ⟨w.heap.size, 1, none⟩ = some (.int .i64 b) ∧ w'.cell? ⟨w.heap.size + 1, 0, none⟩ = some (.int .i64 c) ∧ w'.cell? ⟨w.heap.size + 1, 1, none⟩ = some (.int .i64 e) ∧ Below W.heap.size W w'
theorem TpK2.of {W w : World} {a b c e : Int} {w' : World} (h : TpW w a b c e W) (hb : Below W.heap.size W w') : TpK2 W w a b c e w' := ⟨(h.1.keep hb).c2.1, (h.1.keep hb).c2.2.1, (h.2.1.keep hb).c2.1, (h.2.1.keep hb).c2.2.1, hb⟩
theorem TpK2.bel {W w : World} {a b c e : Int} {w' : World} (h : TpK2 W w a b c e w') : Below W.heap.size W w' := h.2.2.2.2
set_option maxRecDepth 100000 in
set_option maxHeartbeats 8000000 in
theorem ThirdPointI_any (a b c e ra rb : Int) (l : Bool) (w : World) :
    Calls Try.prog 22 #[.agg #[.int .i64 a, .int .i64 b], .agg #[.int .i64 c, .int .i64 e], .int .i64 ra, .int .i64 rb, .bool l] w (PtCBel (tpF a b c e ra rb l) w) := by
  have B0 := Lib.hid (TpW.new w a b c e 38 38 38)
  have hle : w.heap.size ≤ w.heap.size + 1 + 1 := by omega
  cases h1 : ptB a b
  · rw [tp_1 (by simp [h1])]
    go_enter Try.func22, Try.ntmps22
    go_wp2_with fail
    refine (ValidPointI_any _ _ _).mono ?_
    rw [h1]
    rintro x w' ⟨rfl, hb⟩
    have B1 := Lib.hid (B0.out.keep hb)
    clear hb 
    obtain ⟨x0, x1, x2⟩ := B1.out.1.c2
    obtain ⟨y0, y1, y2⟩ := B1.out.2.1.c2
    obtain ⟨z0, z1, z2⟩ := B1.out.2.2.1.c2
    obtain ⟨z3, z4⟩ := B1.out.2.2.1.f2
    go_wp2_with fail
    refine bodyPost_ret (v := .tuple #[.agg #[.int .i64 0, .int .i64 0], .int .i64 1]) ?_ rfl ⟨rfl, (B1.out.2.2.2.setCell hle _).setCell hle _⟩
    simp [results, Try.results22, go_sem, z0, z1]
  cases h2 : ptB c e
  · rw [tp_1 (by simp [h2])]
    go_enter Try.func22, Try.ntmps22
    go_wp2_with fail
    refine (ValidPointI_any _ _ _).mono ?_
    rw [h1]
    rintro x w' ⟨rfl, hb⟩
    have B1 := Lib.hid (B0.out.keep hb)
    clear hb 
    obtain ⟨x0, x1, x2⟩ := B1.out.1.c2
    obtain ⟨y0, y1, y2⟩ := B1.out.2.1.c2
    obtain ⟨z0, z1, z2⟩ := B1.out.2.2.1.c2
    obtain ⟨z3, z4⟩ := B1.out.2.2.1.f2
    go_wp2_with fail
    refine (ValidPointI_any _ _ _).mono ?_
    rw [h2]
    rintro x w' ⟨rfl, hb⟩
    have B2 := Lib.hid (B1.out.keep hb)
    clear hb x0 x1 x2 y0 y1 y2 z0 z1 z2 z3 z4
    obtain ⟨x0, x1, x2⟩ := B2.out.1.c2
    obtain ⟨y0, y1, y2⟩ := B2.out.2.1.c2
    obtain ⟨z0, z1, z2⟩ := B2.out.2.2.1.c2
    obtain ⟨z3, z4⟩ := B2.out.2.2.1.f2
    go_wp2_with fail
    refine bodyPost_ret (v := .tuple #[.agg #[.int .i64 0, .int .i64 0], .int .i64 1]) ?_ rfl ⟨rfl, (B2.out.2.2.2.setCell hle _).setCell hle _⟩
    simp [results, Try.results22, go_sem, z0, z1]
  cases h3 : inB ra 0 10000
  · rw [tp_2 h1 h2 (by simp [h3])]
    go_enter Try.func22, Try.ntmps22
    go_wp2_with fail
    refine (ValidPointI_any _ _ _).mono ?_
    rw [h1]
    rintro x w' ⟨rfl, hb⟩
    have B1 := Lib.hid (B0.out.keep hb)
    clear hb 
    obtain ⟨x0, x1, x2⟩ := B1.out.1.c2
    obtain ⟨y0, y1, y2⟩ := B1.out.2.1.c2
    obtain ⟨z0, z1, z2⟩ := B1.out.2.2.1.c2
    obtain ⟨z3, z4⟩ := B1.out.2.2.1.f2
    go_wp2_with fail
    refine (ValidPointI_any _ _ _).mono ?_
    rw [h2]
    rintro x w' ⟨rfl, hb⟩
    have B2 := Lib.hid (B1.out.keep hb)
    clear hb x0 x1 x2 y0 y1 y2 z0 z1 z2 z3 z4
    obtain ⟨x0, x1, x2⟩ := B2.out.1.c2
    obtain ⟨y0, y1, y2⟩ := B2.out.2.1.c2
    obtain ⟨z0, z1, z2⟩ := B2.out.2.2.1.c2
    obtain ⟨z3, z4⟩ := B2.out.2.2.1.f2
    go_wp2_with fail
    refine (isBetween_any _ _ _ _).mono ?_
    rw [h3]
    rintro x w' ⟨rfl, rfl⟩
    go_wp2_with fail
    refine bodyPost_ret (v := .tuple #[.agg #[.int .i64 0, .int .i64 0], .int .i64 2]) ?_ rfl ⟨rfl, (B2.out.2.2.2.setCell hle _).setCell hle _⟩
    simp [results, Try.results22, go_sem, z0, z1]
  cases h4 : inB rb 0 10000
  · rw [tp_2 h1 h2 (by simp [h4])]
    go_enter Try.func22, Try.ntmps22
    go_wp2_with fail
    refine (ValidPointI_any _ _ _).mono ?_
    rw [h1]
    rintro x w' ⟨rfl, hb⟩
    have B1 := Lib.hid (B0.out.keep hb)
    clear hb 
    obtain ⟨x0, x1, x2⟩ := B1.out.1.c2
    obtain ⟨y0, y1, y2⟩ := B1.out.2.1.c2
    obtain ⟨z0, z1, z2⟩ := B1.out.2.2.1.c2
    obtain ⟨z3, z4⟩ := B1.out.2.2.1.f2
    go_wp2_with fail
    refine (ValidPointI_any _ _ _).mono ?_
    rw [h2]
    rintro x w' ⟨rfl, hb⟩
    have B2 := Lib.hid (B1.out.keep hb)
    clear hb x0 x1 x2 y0 y1 y2 z0 z1 z2 z3 z4
    obtain ⟨x0, x1, x2⟩ := B2.out.1.c2
    obtain ⟨y0, y1, y2⟩ := B2.out.2.1.c2
    obtain ⟨z0, z1, z2⟩ := B2.out.2.2.1.c2
    obtain ⟨z3, z4⟩ := B2.out.2.2.1.f2
    go_wp2_with fail
    refine (isBetween_any _ _ _ _).mono ?_
    rw [h3]
    rintro x w' ⟨rfl, rfl⟩
    go_wp2_with fail
    refine (isBetween_any _ _ _ _).mono ?_
    rw [h4]
    rintro x w' ⟨rfl, rfl⟩
    go_wp2_with fail
    refine bodyPost_ret (v := .tuple #[.agg #[.int .i64 0, .int .i64 0], .int .i64 2]) ?_ rfl ⟨rfl, (B2.out.2.2.2.setCell hle _).setCell hle _⟩
    simp [results, Try.results22, go_sem, z0, z1]
  obtain ⟨a1, a2, b1, b2⟩ := ptB_bd h1
  obtain ⟨c1, c2, e1, e2⟩ := ptB_bd h2
  have k3 := inB_true.1 h3
  have k4 := inB_true.1 h4
  have kd := d2_bd ⟨a1, a2⟩ ⟨b1, b2⟩ ⟨c1, c2⟩ ⟨e1, e2⟩
  by_cases h5 : d2 a b c e = 0
  · rw [tp_3 h1 h2 h3 h4 h5]
    obtain ⟨rfl, rfl⟩ := d2_zero.1 h5
    go_enter Try.func22, Try.ntmps22
    go_wp2_with fail
    refine (ValidPointI_any _ _ _).mono ?_
    rw [h1]
    rintro x w' ⟨rfl, hb⟩
    have B1 := Lib.hid (B0.out.keep hb)
    clear hb 
    obtain ⟨x0, x1, x2⟩ := B1.out.1.c2
    obtain ⟨y0, y1, y2⟩ := B1.out.2.1.c2
    obtain ⟨z0, z1, z2⟩ := B1.out.2.2.1.c2
    obtain ⟨z3, z4⟩ := B1.out.2.2.1.f2
    go_wp2_with fail
    refine (ValidPointI_any _ _ _).mono ?_
    rw [h2]
    rintro x w' ⟨rfl, hb⟩
    have B2 := Lib.hid (B1.out.keep hb)
    clear hb x0 x1 x2 y0 y1 y2 z0 z1 z2 z3 z4
    obtain ⟨x0, x1, x2⟩ := B2.out.1.c2
    obtain ⟨y0, y1, y2⟩ := B2.out.2.1.c2
    obtain ⟨z0, z1, z2⟩ := B2.out.2.2.1.c2
    obtain ⟨z3, z4⟩ := B2.out.2.2.1.f2
    go_wp2_with fail
    refine (isBetween_any _ _ _ _).mono ?_
    rw [h3]
    rintro x w' ⟨rfl, rfl⟩
    go_wp2_with fail
    refine (isBetween_any _ _ _ _).mono ?_
    rw [h4]
    rintro x w' ⟨rfl, rfl⟩
    go_wp2_with fail
    refine bodyPost_ret (v := .tuple #[.agg #[.int .i64 0, .int .i64 0], .int .i64 6]) ?_ rfl ⟨rfl, (B2.out.2.2.2.setCell hle _).setCell hle _⟩
    simp [results, Try.results22, go_sem, z0, z1]
  have h5' : ¬ (a = c ∧ b = e) := fun h => h5 (d2_zero.2 h)
  have h5b : (a == c && b == e) = false := by
    rw [Bool.and_eq_false_iff]
    by_cases ha : a = c
    · right; simpa using fun hb => h5' ⟨ha, hb⟩
    · left; simpa using ha
  go_enter Try.func22, Try.ntmps22
  go_wp2_with fail
  refine (ValidPointI_any _ _ _).mono ?_
  rw [h1]
  rintro x w' ⟨rfl, hb⟩
  have B1 := Lib.hid (B0.out.keep hb)
  clear hb 
  obtain ⟨x0, x1, x2⟩ := B1.out.1.c2
  obtain ⟨y0, y1, y2⟩ := B1.out.2.1.c2
  obtain ⟨z0, z1, z2⟩ := B1.out.2.2.1.c2
  obtain ⟨z3, z4⟩ := B1.out.2.2.1.f2
  go_wp2_with fail
  refine (ValidPointI_any _ _ _).mono ?_
  rw [h2]
  rintro x w2 ⟨rfl, hb⟩
  have B2 := Lib.hid (B1.out.keep hb)
  clear hb x0 x1 x2 y0 y1 y2 z0 z1 z2 z3 z4
  obtain ⟨x0, x1, x2⟩ := B2.out.1.c2
  obtain ⟨y0, y1, y2⟩ := B2.out.2.1.c2
  obtain ⟨z0, z1, z2⟩ := B2.out.2.2.1.c2
  obtain ⟨z3, z4⟩ := B2.out.2.2.1.f2
  go_wp2_with fail
  refine (isBetween_any _ _ _ _).mono ?_
  rw [h3]
  rintro x w' ⟨rfl, rfl⟩
  go_wp2_with fail
  refine (isBetween_any _ _ _ _).mono ?_
  rw [h4]
  rintro x w' ⟨rfl, rfl⟩
  go_upto_region 5 with fail
  go_cut [40] (fun s wx => s = .bool false ∧ wx = w2)
  case first =>
    by_cases ha : a = c
    · have hb' : ¬ b = e := fun hb => h5' ⟨ha, hb⟩
      subst ha
      clear h5b h5' h5
      go_wp2_with fail
      go_meet
      exact ⟨rfl, rfl⟩
    · clear h5b h5' h5
      go_wp2_with fail
      go_meet
      exact ⟨rfl, rfl⟩
  case rest =>
    obtain ⟨rfl, rfl⟩ := hcut
    generalize wc = w3 at *
    have HK := Lib.hid (fun (w' : World) (hb : Below w3.heap.size w3 w') => TpK2.of B2.out hb)
    go_upto_region 7 with fail
    clear h5b
    go_cut [12, 13] (fun sp sd wx => ∃ kk : Nat, sp = .pointer (some ⟨kk, 0, none⟩) ∧ sd = .int .i64 (d2 a b c e) ∧ wx.cell? ⟨kk, 0, none⟩ = some (.int .i64 (c - a)) ∧ wx.cell? ⟨kk, 1, none⟩ = some (.int .i64 (e - b)) ∧ kk < wx.heap.size ∧ Below w3.heap.size w3 wx)
    case first =>
      go_region_held3 (fun w' => w'.cell? ⟨w.heap.size, 0, none⟩ = some (.int .i64 a) ∧ w'.cell? ⟨w.heap.size, 1, none⟩ = some (.int .i64 b) ∧ w'.cell? ⟨w.heap.size + 1, 0, none⟩ = some (.int .i64 c) ∧ w'.cell? ⟨w.heap.size + 1, 1, none⟩ = some (.int .i64 e) ∧ Below w3.heap.size w3 w') (first | exact HK.out _ (bR _).drew | assumption | exact HK.out _ (bT (TpK2.bel (w := w) (a := a) (b := b) (c := c) (e := e) (by assumption)) hb) | exact HK.out _ (bA (TpK2.bel (w := w) (a := a) (b := b) (c := c) (e := e) (by assumption)) _) | exact HK.out _ (bA (Hid.out (by assumption)) _) | ((refine HK.out _ (Below.setCell (Below.setCell (TpK2.bel (w := w) (a := a) (b := b) (c := c) (e := e) (by assumption)) ?_ _) ?_ _)) <;> (first | omega | (simp; omega) | (simp; done))))
        (first
          | (go_at_call 55; refine (minus_any _ _ _ _ _ ⟨c1, c2⟩ ⟨e1, e2⟩ ⟨a1, a2⟩ ⟨b1, b2⟩).mono ?_; rintro x x5 ⟨rfl, hb⟩; have hTw := Lib.hid (show Below w3.heap.size w3 x5 from bT (TpK2.bel (w := w) (a := a) (b := b) (c := c) (e := e) (by assumption)) hb); have hszw := hTw.out.size; first | (have ZB := Lib.hid (Box2.keep ZB.out hb); obtain ⟨o0, o1, o2, o3, o4⟩ := ZB.out) | (have ZB : Hid (Box2 x5 w3.heap.size 0 0) := Lib.hid (Box2.keep (Box2.new w3.drew 0 0 38) hb); obtain ⟨o0, o1, o2, o3, o4⟩ := ZB.out) | (have ZB := Lib.hid (Box2.keep (Box2.new _ 0 0 38) hb); obtain ⟨o0, o1, o2, o3, o4⟩ := ZB.out) | skip)
          | (go_at_call 56; refine (squaredTo_any _ _ _ _ _ ⟨a1, a2⟩ ⟨b1, b2⟩ ⟨c1, c2⟩ ⟨e1, e2⟩).mono ?_; rintro x x8 ⟨rfl, hb⟩; have hTw := Lib.hid (show Below w3.heap.size w3 x8 from bT (TpK2.bel (w := w) (a := a) (b := b) (c := c) (e := e) (by assumption)) hb); have hszw := hTw.out.size; first | (have ZB := Lib.hid (Box2.keep ZB.out hb); obtain ⟨o0, o1, o2, o3, o4⟩ := ZB.out) | (have ZB : Hid (Box2 x8 w3.heap.size 0 0) := Lib.hid (Box2.keep (Box2.new w3.drew 0 0 38) hb); obtain ⟨o0, o1, o2, o3, o4⟩ := ZB.out) | (have ZB := Lib.hid (Box2.keep (Box2.new _ 0 0 38) hb); obtain ⟨o0, o1, o2, o3, o4⟩ := ZB.out) | skip))
      all_goals (go_wp2_with fail; go_meet; refine ⟨_, rfl, rfl, ?_, ?_, ?_, ?_⟩)
      all_goals first | exact (Box2.new _ _ _ _).c0 | exact (Box2.new _ _ _ _).c1 | exact (Box2.new _ _ _ _).lt | exact bA hTw.out _ | exact (Box2.set ZB.out _ _).c0 | exact (Box2.set ZB.out _ _).c1 | exact (Box2.set ZB.out _ _).lt | exact bset (bset hTw.out (by omega)) (by omega) | ((try simp only [size_set]); first | assumption | (simp (config := { maxDischargeDepth := 8 }) [*, go_sem]; done) | (go_simp; done))
    case rest =>
      obtain ⟨kk, rfl, rfl, n0, n1, n2, hB⟩ := hcut
      generalize wc = w4 at *
      have B3 := Lib.hid (B2.out.keep hB)
      clear hB HK
      obtain ⟨q1, q2, q3, q4, q5, q6, q7⟩ := tp_bd k3 k4 kd
      have HF := Lib.hid (fun X Y => tp_5 (X := X) (Y := Y) (l := l) h1 h2 h3 h4 h5)
      obtain ⟨x0, x1, x2⟩ := B3.out.1.c2
      obtain ⟨y0, y1, y2⟩ := B3.out.2.1.c2
      obtain ⟨z0, z1, z2⟩ := B3.out.2.2.1.c2
      obtain ⟨z3, z4⟩ := B3.out.2.2.1.f2
      have HA := Lib.hid (show ra * ra - rb * rb + d2 a b c e = tpA ra rb (d2 a b c e) from rfl)
      have HS := Lib.hid (show 4 * d2 a b c e * ra * ra - tpA ra rb (d2 a b c e) * tpA ra rb (d2 a b c e) = tpS ra rb (d2 a b c e) from rfl)
      by_cases h6 : tpS ra rb (d2 a b c e) < 0
      · have H4 := Lib.hid (tp_4 (l := l) h1 h2 h3 h4 h5 h6)
        clear HF
        generalize tpF a b c e ra rb l = F at *
        generalize d2 a b c e = d at *
        have hA' := HA.out
        have hS' := HS.out
        generalize tpS ra rb d = S at *
        generalize tpA ra rb d = A at *
        go_wp2_with fail
        rw [H4.out]
        refine bodyPost_ret (v := .tuple #[.agg #[.int .i64 0, .int .i64 0], .int .i64 3]) ?_ rfl ⟨rfl, (B3.out.2.2.2.setCell hle _).setCell hle _⟩
        simp [results, Try.results22, go_sem, z0, z1]
      · have HR := Lib.hid (show tpR ra rb (d2 a b c e) l = if l then rt (tpS ra rb (d2 a b c e)) else -rt (tpS ra rb (d2 a b c e)) from rfl)
        have hR := tpR_bd (l := l) k3 k4 kd h6
        obtain ⟨r1, r2, r3, r4⟩ := tpP_bd (x := c - a) (y := e - b) ⟨q3.1, q3.2⟩ hR (by omega) (by omega)
        have HX := Lib.hid (show near (tpA ra rb (d2 a b c e) * (c - a) - tpR ra rb (d2 a b c e) l * (e - b)) (2 * d2 a b c e) = tpX (c - a) (e - b) (tpA ra rb (d2 a b c e)) (tpR ra rb (d2 a b c e) l) (d2 a b c e) from rfl)
        have HY := Lib.hid (show near (tpA ra rb (d2 a b c e) * (e - b) + tpR ra rb (d2 a b c e) l * (c - a)) (2 * d2 a b c e) = tpY (c - a) (e - b) (tpA ra rb (d2 a b c e)) (tpR ra rb (d2 a b c e) l) (d2 a b c e) from rfl)
        have hn1 := near_bd (n := tpA ra rb (d2 a b c e) * (c - a) - tpR ra rb (d2 a b c e) l * (e - b)) (d := 2 * d2 a b c e) (by omega) (by omega) (by omega) (by omega)
        have hn2 := near_bd (n := tpA ra rb (d2 a b c e) * (e - b) + tpR ra rb (d2 a b c e) l * (c - a)) (d := 2 * d2 a b c e) (by omega) (by omega) (by omega) (by omega)
        rw [HX.out] at hn1
        rw [HY.out] at hn2
        have HF' := Lib.hid (HF.out _ _ h6 rfl rfl)
        generalize tpX (c - a) (e - b) (tpA ra rb (d2 a b c e)) (tpR ra rb (d2 a b c e) l) (d2 a b c e) = X at *
        generalize tpY (c - a) (e - b) (tpA ra rb (d2 a b c e)) (tpR ra rb (d2 a b c e) l) (d2 a b c e) = Y at *
        generalize tpF a b c e ra rb l = F at *
        clear HF
        generalize d2 a b c e = d at *
        have hk0 := (rt_is (n := tpS ra rb d) (by omega)).1
        have hk1 := rt_le (n := tpS ra rb d) (m := 300000000) (by omega) (by omega) (by omega)
        have hA' := HA.out
        have hS' := HS.out
        generalize tpS ra rb d = S at *
        generalize tpA ra rb d = A at *
        go_wp2_with fail
        refine (rootOf_any S _ (by omega) (by omega)).mono ?_
        rintro x w' ⟨rfl, rfl⟩
        generalize rt S = Q at *
        cases l
        · have HR' := HR.out
          simp only [Bool.false_eq_true, if_false] at HR'
          rw [HR'] at r3 r4 HX HY
          clear HR HR'
          have gX := HX.out
          have gY := HY.out
          go_wp2_with fail
          refine (nearestOf_any _ _ _ (by omega) (by omega) (by omega) (by omega)).mono ?_
          rw [gX]
          rintro x w5 ⟨rfl, hb⟩
          have B5 := Lib.hid (B3.out.keep hb)
          have m0 := (hb.cell (p := ⟨kk, 0, none⟩) n2).trans n0
          have m1 := (hb.cell (p := ⟨kk, 1, none⟩) n2).trans n1
          have m2 := Nat.lt_of_lt_of_le n2 hb.size
          clear hb n0 n1 n2 x0 x1 x2 y0 y1 y2 z0 z1 z2 z3 z4
          go_wp2_with fail
          refine (nearestOf_any _ _ _ (by omega) (by omega) (by omega) (by omega)).mono ?_
          rw [gY]
          rintro x w6 ⟨rfl, hb⟩
          have B6 := Lib.hid (B5.out.keep hb)
          clear hb m0 m1 m2 gX gY HX HY r1 r2 r3 r4 hR q1 q2 q3 q4 q5 q6 q7
          obtain ⟨x0, x1, x2⟩ := B6.out.1.c2
          cases hv : ptB (a + X) (b + Y)
          · go_wp2_with fail
            refine (ValidPointI_any _ _ _).mono ?_
            rw [hv]
            rintro x w7 ⟨rfl, hb⟩
            have B7 := Lib.hid ((B6.out.keep (bA (bR w6) _)).keep hb)
            clear hb x0 x1 x2
            obtain ⟨z0, z1, z2⟩ := B7.out.2.2.1.c2
            obtain ⟨z3, z4⟩ := B7.out.2.2.1.f2
            go_wp2_with fail
            rw [HF'.out.1 hv]
            refine bodyPost_ret (v := .tuple #[.agg #[.int .i64 0, .int .i64 0], .int .i64 10]) ?_ rfl ⟨rfl, (B7.out.2.2.2.setCell hle _).setCell hle _⟩
            simp [results, Try.results22, go_sem, z0, z1]
          · have Z6 := Lib.hid (BoxL.new w6 [.int .i64 (a + X), .int .i64 (b + Y)] 38)
            go_wp2_with fail
            refine (ValidPointI_any _ _ _).mono ?_
            rw [hv]
            rintro x w7 ⟨rfl, hb⟩
            have B7 := Lib.hid ((B6.out.keep (bA (bR w6) _)).keep hb)
            obtain ⟨x0, x1, x2⟩ := (Z6.out.keep hb).c2
            clear hb
            obtain ⟨z0, z1, z2⟩ := B7.out.2.2.1.c2
            obtain ⟨z3, z4⟩ := B7.out.2.2.1.f2
            go_wp2_with fail
            rw [HF'.out.2 hv]
            refine bodyPost_ret (v := .tuple #[.agg #[.int .i64 (a + X), .int .i64 (b + Y)], .int .i64 0]) ?_ rfl ⟨rfl, (B7.out.2.2.2.setCell hle _).setCell hle _⟩
            simp [results, Try.results22, go_sem, z0, z1]
        · have HR' := HR.out
          simp only [if_true] at HR'
          rw [HR'] at r3 r4 HX HY
          clear HR HR'
          have gX := HX.out
          have gY := HY.out
          go_wp2_with fail
          refine (nearestOf_any _ _ _ (by omega) (by omega) (by omega) (by omega)).mono ?_
          rw [gX]
          rintro x w5 ⟨rfl, hb⟩
          have B5 := Lib.hid (B3.out.keep hb)
          have m0 := (hb.cell (p := ⟨kk, 0, none⟩) n2).trans n0
          have m1 := (hb.cell (p := ⟨kk, 1, none⟩) n2).trans n1
          have m2 := Nat.lt_of_lt_of_le n2 hb.size
          clear hb n0 n1 n2 x0 x1 x2 y0 y1 y2 z0 z1 z2 z3 z4
          go_wp2_with fail
          refine (nearestOf_any _ _ _ (by omega) (by omega) (by omega) (by omega)).mono ?_
          rw [gY]
          rintro x w6 ⟨rfl, hb⟩
          have B6 := Lib.hid (B5.out.keep hb)
          clear hb m0 m1 m2 gX gY HX HY r1 r2 r3 r4 hR q1 q2 q3 q4 q5 q6 q7
          obtain ⟨x0, x1, x2⟩ := B6.out.1.c2
          cases hv : ptB (a + X) (b + Y)
          · go_wp2_with fail
            refine (ValidPointI_any _ _ _).mono ?_
            rw [hv]
            rintro x w7 ⟨rfl, hb⟩
            have B7 := Lib.hid ((B6.out.keep (bA (bR w6) _)).keep hb)
            clear hb x0 x1 x2
            obtain ⟨z0, z1, z2⟩ := B7.out.2.2.1.c2
            obtain ⟨z3, z4⟩ := B7.out.2.2.1.f2
            go_wp2_with fail
            rw [HF'.out.1 hv]
            refine bodyPost_ret (v := .tuple #[.agg #[.int .i64 0, .int .i64 0], .int .i64 10]) ?_ rfl ⟨rfl, (B7.out.2.2.2.setCell hle _).setCell hle _⟩
            simp [results, Try.results22, go_sem, z0, z1]
          · have Z6 := Lib.hid (BoxL.new w6 [.int .i64 (a + X), .int .i64 (b + Y)] 38)
            go_wp2_with fail
            refine (ValidPointI_any _ _ _).mono ?_
            rw [hv]
            rintro x w7 ⟨rfl, hb⟩
            have B7 := Lib.hid ((B6.out.keep (bA (bR w6) _)).keep hb)
            obtain ⟨x0, x1, x2⟩ := (Z6.out.keep hb).c2
            clear hb
            obtain ⟨z0, z1, z2⟩ := B7.out.2.2.1.c2
            obtain ⟨z3, z4⟩ := B7.out.2.2.1.f2
            go_wp2_with fail
            rw [HF'.out.2 hv]
            refine bodyPost_ret (v := .tuple #[.agg #[.int .i64 (a + X), .int .i64 (b + Y)], .int .i64 0]) ?_ rfl ⟨rfl, (B7.out.2.2.2.setCell hle _).setCell hle _⟩
            simp [results, Try.results22, go_sem, z0, z1]
end Go.Proofs.Ytclefibjmnabbaa

/-
  The contract of spec.ThirdPoint.
-/
import Derived.Test.YtclefibjmnabbaaTpM
import Derived.Test.YtclefibjmnabbaaPtA
import Derived.Test.YtclefibjmnabbaaRtC
namespace Go.Proofs.Ytclefibjmnabbaa
open Go.RowKit

/-- Two points in the boxes of a call with a point as result. -/
def TpW (w : World) (a b c d : Int) (w' : World) : Prop := BoxL w' w.heap.size [.int .i64 a, .int .i64 b] ∧ BoxL w' (w.heap.size + 1) [.int .i64 c, .int .i64 d] ∧ BoxL w' (w.heap.size + 1 + 1) [.int .i64 0, .int .i64 0] ∧ Below w.heap.size w w'
theorem TpW.new (w : World) (a b c d : Int) (T U V : TypeId) : TpW w a b c d (((w.alloc (.cells #[.int .i64 a, .int .i64 b] T)).alloc (.cells #[.int .i64 c, .int .i64 d] U)).alloc (.cells #[.int .i64 0, .int .i64 0] V)) :=
  ⟨((BoxL.new w [.int .i64 a, .int .i64 b] T).alloc _).alloc _, (BoxL.at_ (vs := [.int .i64 c, .int .i64 d]) (by simp)).alloc _, BoxL.at_ (vs := [.int .i64 0, .int .i64 0]) (by simp), bA (bA (bA (bR _) _) _) _⟩
theorem TpW.keep {w : World} {a b c d : Int} {x y : World} (h : TpW w a b c d x) (hb : Below x.heap.size x y) : TpW w a b c d y := ⟨h.1.keep hb, h.2.1.keep hb, h.2.2.1.keep hb, bT h.2.2.2 hb⟩
def PtCBel (r : Int × Int × Int) (w : World) (e : Ending) (w' : World) : Prop := e = .returned (.tuple #[.agg #[.int .i64 r.1, .int .i64 r.2.1], .int .i64 r.2.2]) ∧ Below w.heap.size w w'
/-- What stands while the third point is made. -/
def TpK (W : World) (bx : Nat) (a b : Int) (w' : World) : Prop := w'.cell? ⟨bx, 0, none⟩ = some (.int .i64 a) ∧ w'.cell? ⟨bx, 1, none⟩ = some (.int .i64 b) ∧ Below W.heap.size W w'
theorem TpK.of {W : World} {bx : Nat} {a b : Int} {w' : World} (h : BoxL W bx [.int .i64 a, .int .i64 b]) (hb : Below W.heap.size W w') : TpK W bx a b w' := ⟨(h.keep hb).c2.1, (h.keep hb).c2.2.1, hb⟩
theorem TpK.bel {W : World} {bx : Nat} {a b : Int} {w' : World} (h : TpK W bx a b w') : Below W.heap.size W w' := h.2.2
set_option maxRecDepth 100000 in
set_option maxHeartbeats 8000000 in
theorem ThirdPointS_any (a b c e ra rb : Int) (l : Bool) (w : World) :
    Calls Try.prog 20 #[.agg #[.int .i64 a, .int .i64 b], .agg #[.int .i64 c, .int .i64 e], .int .i64 ra, .int .i64 rb, .bool l] w (PtCBel (tpF a b c e ra rb l) w) := by
  have B0 := Lib.hid (TpW.new w a b c e 38 38 38)
  have hle : w.heap.size ≤ w.heap.size + 1 + 1 := by omega
  cases h1 : ptB a b
  · rw [tp_1 (by simp [h1])]
    go_enter Try.func20, Try.ntmps20
    go_wp2_with fail
    refine (l09Point_any _ _ _).mono ?_
    rw [h1]
    rintro x w' ⟨rfl, hb⟩
    have B1 := Lib.hid (B0.out.keep hb)
    clear hb 
    obtain ⟨x0, x1, x2⟩ := B1.out.1.c2
    obtain ⟨y0, y1, y2⟩ := B1.out.2.1.c2
    obtain ⟨z0, z1, z2⟩ := B1.out.2.2.1.c2
    obtain ⟨z3, z4⟩ := B1.out.2.2.1.f2
    go_wp2_with fail
    refine bodyPost_ret (v := .tuple #[.agg #[.int .i64 0, .int .i64 0], .int .i64 1]) ?_ rfl ⟨rfl, (B1.out.2.2.2.setCell hle _).setCell hle _⟩
    simp [results, Try.results20, go_sem, z0, z1]
  cases h2 : ptB c e
  · rw [tp_1 (by simp [h2])]
    go_enter Try.func20, Try.ntmps20
    go_wp2_with fail
    refine (l09Point_any _ _ _).mono ?_
    rw [h1]
    rintro x w' ⟨rfl, hb⟩
    have B1 := Lib.hid (B0.out.keep hb)
    clear hb 
    obtain ⟨x0, x1, x2⟩ := B1.out.1.c2
    obtain ⟨y0, y1, y2⟩ := B1.out.2.1.c2
    obtain ⟨z0, z1, z2⟩ := B1.out.2.2.1.c2
    obtain ⟨z3, z4⟩ := B1.out.2.2.1.f2
    go_wp2_with fail
    refine (l09Point_any _ _ _).mono ?_
    rw [h2]
    rintro x w' ⟨rfl, hb⟩
    have B2 := Lib.hid (B1.out.keep hb)
    clear hb x0 x1 x2 y0 y1 y2 z0 z1 z2 z3 z4
    obtain ⟨x0, x1, x2⟩ := B2.out.1.c2
    obtain ⟨y0, y1, y2⟩ := B2.out.2.1.c2
    obtain ⟨z0, z1, z2⟩ := B2.out.2.2.1.c2
    obtain ⟨z3, z4⟩ := B2.out.2.2.1.f2
    go_wp2_with fail
    refine bodyPost_ret (v := .tuple #[.agg #[.int .i64 0, .int .i64 0], .int .i64 1]) ?_ rfl ⟨rfl, (B2.out.2.2.2.setCell hle _).setCell hle _⟩
    simp [results, Try.results20, go_sem, z0, z1]
  cases h3 : inB ra 0 10000
  · rw [tp_2 h1 h2 (by simp [h3])]
    go_enter Try.func20, Try.ntmps20
    go_wp2_with fail
    refine (l09Point_any _ _ _).mono ?_
    rw [h1]
    rintro x w' ⟨rfl, hb⟩
    have B1 := Lib.hid (B0.out.keep hb)
    clear hb 
    obtain ⟨x0, x1, x2⟩ := B1.out.1.c2
    obtain ⟨y0, y1, y2⟩ := B1.out.2.1.c2
    obtain ⟨z0, z1, z2⟩ := B1.out.2.2.1.c2
    obtain ⟨z3, z4⟩ := B1.out.2.2.1.f2
    go_wp2_with fail
    refine (l09Point_any _ _ _).mono ?_
    rw [h2]
    rintro x w' ⟨rfl, hb⟩
    have B2 := Lib.hid (B1.out.keep hb)
    clear hb x0 x1 x2 y0 y1 y2 z0 z1 z2 z3 z4
    obtain ⟨x0, x1, x2⟩ := B2.out.1.c2
    obtain ⟨y0, y1, y2⟩ := B2.out.2.1.c2
    obtain ⟨z0, z1, z2⟩ := B2.out.2.2.1.c2
    obtain ⟨z3, z4⟩ := B2.out.2.2.1.f2
    go_wp2_with fail
    refine (l00In_any _ _ _ _).mono ?_
    rw [h3]
    rintro x w' ⟨rfl, rfl⟩
    go_wp2_with fail
    refine bodyPost_ret (v := .tuple #[.agg #[.int .i64 0, .int .i64 0], .int .i64 2]) ?_ rfl ⟨rfl, (B2.out.2.2.2.setCell hle _).setCell hle _⟩
    simp [results, Try.results20, go_sem, z0, z1]
  cases h4 : inB rb 0 10000
  · rw [tp_2 h1 h2 (by simp [h4])]
    go_enter Try.func20, Try.ntmps20
    go_wp2_with fail
    refine (l09Point_any _ _ _).mono ?_
    rw [h1]
    rintro x w' ⟨rfl, hb⟩
    have B1 := Lib.hid (B0.out.keep hb)
    clear hb 
    obtain ⟨x0, x1, x2⟩ := B1.out.1.c2
    obtain ⟨y0, y1, y2⟩ := B1.out.2.1.c2
    obtain ⟨z0, z1, z2⟩ := B1.out.2.2.1.c2
    obtain ⟨z3, z4⟩ := B1.out.2.2.1.f2
    go_wp2_with fail
    refine (l09Point_any _ _ _).mono ?_
    rw [h2]
    rintro x w' ⟨rfl, hb⟩
    have B2 := Lib.hid (B1.out.keep hb)
    clear hb x0 x1 x2 y0 y1 y2 z0 z1 z2 z3 z4
    obtain ⟨x0, x1, x2⟩ := B2.out.1.c2
    obtain ⟨y0, y1, y2⟩ := B2.out.2.1.c2
    obtain ⟨z0, z1, z2⟩ := B2.out.2.2.1.c2
    obtain ⟨z3, z4⟩ := B2.out.2.2.1.f2
    go_wp2_with fail
    refine (l00In_any _ _ _ _).mono ?_
    rw [h3]
    rintro x w' ⟨rfl, rfl⟩
    go_wp2_with fail
    refine (l00In_any _ _ _ _).mono ?_
    rw [h4]
    rintro x w' ⟨rfl, rfl⟩
    go_wp2_with fail
    refine bodyPost_ret (v := .tuple #[.agg #[.int .i64 0, .int .i64 0], .int .i64 2]) ?_ rfl ⟨rfl, (B2.out.2.2.2.setCell hle _).setCell hle _⟩
    simp [results, Try.results20, go_sem, z0, z1]
  obtain ⟨a1, a2, b1, b2⟩ := ptB_bd h1
  obtain ⟨c1, c2, e1, e2⟩ := ptB_bd h2
  have k3 := inB_true.1 h3
  have k4 := inB_true.1 h4
  have kd := d2_bd ⟨a1, a2⟩ ⟨b1, b2⟩ ⟨c1, c2⟩ ⟨e1, e2⟩
  by_cases h5 : d2 a b c e = 0
  · rw [tp_3 h1 h2 h3 h4 h5]
    go_enter Try.func20, Try.ntmps20
    go_wp2_with fail
    refine (l09Point_any _ _ _).mono ?_
    rw [h1]
    rintro x w' ⟨rfl, hb⟩
    have B1 := Lib.hid (B0.out.keep hb)
    clear hb 
    obtain ⟨x0, x1, x2⟩ := B1.out.1.c2
    obtain ⟨y0, y1, y2⟩ := B1.out.2.1.c2
    obtain ⟨z0, z1, z2⟩ := B1.out.2.2.1.c2
    obtain ⟨z3, z4⟩ := B1.out.2.2.1.f2
    go_wp2_with fail
    refine (l09Point_any _ _ _).mono ?_
    rw [h2]
    rintro x w' ⟨rfl, hb⟩
    have B2 := Lib.hid (B1.out.keep hb)
    clear hb x0 x1 x2 y0 y1 y2 z0 z1 z2 z3 z4
    obtain ⟨x0, x1, x2⟩ := B2.out.1.c2
    obtain ⟨y0, y1, y2⟩ := B2.out.2.1.c2
    obtain ⟨z0, z1, z2⟩ := B2.out.2.2.1.c2
    obtain ⟨z3, z4⟩ := B2.out.2.2.1.f2
    go_wp2_with fail
    refine (l00In_any _ _ _ _).mono ?_
    rw [h3]
    rintro x w' ⟨rfl, rfl⟩
    go_wp2_with fail
    refine (l00In_any _ _ _ _).mono ?_
    rw [h4]
    rintro x w' ⟨rfl, rfl⟩
    go_wp2_with fail
    refine (l09Square_any _ _ _ _ _ ⟨a1, a2⟩ ⟨b1, b2⟩ ⟨c1, c2⟩ ⟨e1, e2⟩).mono ?_
    rw [h5]
    rintro x w3 ⟨rfl, hb⟩
    have B3 := Lib.hid (B2.out.keep hb)
    clear hb x0 x1 x2 y0 y1 y2 z0 z1 z2 z3 z4
    obtain ⟨x0, x1, x2⟩ := B3.out.1.c2
    obtain ⟨y0, y1, y2⟩ := B3.out.2.1.c2
    obtain ⟨z0, z1, z2⟩ := B3.out.2.2.1.c2
    obtain ⟨z3, z4⟩ := B3.out.2.2.1.f2
    go_wp2_with fail
    refine bodyPost_ret (v := .tuple #[.agg #[.int .i64 0, .int .i64 0], .int .i64 6]) ?_ rfl ⟨rfl, (B3.out.2.2.2.setCell hle _).setCell hle _⟩
    simp [results, Try.results20, go_sem, z0, z1]
  obtain ⟨q1, q2, q3, q4, q5, q6, q7⟩ := tp_bd k3 k4 kd
  have HF := Lib.hid (fun X Y => tp_5 (X := X) (Y := Y) (l := l) h1 h2 h3 h4 h5)
  by_cases h6 : tpS ra rb (d2 a b c e) < 0
  · rw [tp_4 h1 h2 h3 h4 h5 h6]
    have HA := Lib.hid (show ra * ra - rb * rb + d2 a b c e = tpA ra rb (d2 a b c e) from rfl)
    have HS := Lib.hid (show 4 * d2 a b c e * ra * ra - tpA ra rb (d2 a b c e) * tpA ra rb (d2 a b c e) = tpS ra rb (d2 a b c e) from rfl)
    have HD := Lib.hid (l09Square_any a b c e · ⟨a1, a2⟩ ⟨b1, b2⟩ ⟨c1, c2⟩ ⟨e1, e2⟩)
    clear HF
    generalize d2 a b c e = d at *
    go_enter Try.func20, Try.ntmps20
    go_wp2_with fail
    refine (l09Point_any _ _ _).mono ?_
    rw [h1]
    rintro x w' ⟨rfl, hb⟩
    have B1 := Lib.hid (B0.out.keep hb)
    clear hb 
    obtain ⟨x0, x1, x2⟩ := B1.out.1.c2
    obtain ⟨y0, y1, y2⟩ := B1.out.2.1.c2
    obtain ⟨z0, z1, z2⟩ := B1.out.2.2.1.c2
    obtain ⟨z3, z4⟩ := B1.out.2.2.1.f2
    go_wp2_with fail
    refine (l09Point_any _ _ _).mono ?_
    rw [h2]
    rintro x w' ⟨rfl, hb⟩
    have B2 := Lib.hid (B1.out.keep hb)
    clear hb x0 x1 x2 y0 y1 y2 z0 z1 z2 z3 z4
    obtain ⟨x0, x1, x2⟩ := B2.out.1.c2
    obtain ⟨y0, y1, y2⟩ := B2.out.2.1.c2
    obtain ⟨z0, z1, z2⟩ := B2.out.2.2.1.c2
    obtain ⟨z3, z4⟩ := B2.out.2.2.1.f2
    go_wp2_with fail
    refine (l00In_any _ _ _ _).mono ?_
    rw [h3]
    rintro x w' ⟨rfl, rfl⟩
    go_wp2_with fail
    refine (l00In_any _ _ _ _).mono ?_
    rw [h4]
    rintro x w' ⟨rfl, rfl⟩
    go_wp2_with fail
    refine (HD.out _).mono ?_
    rintro x w3 ⟨rfl, hb⟩
    have B3 := Lib.hid (B2.out.keep hb)
    clear hb x0 x1 x2 y0 y1 y2 z0 z1 z2 z3 z4
    obtain ⟨x0, x1, x2⟩ := B3.out.1.c2
    obtain ⟨y0, y1, y2⟩ := B3.out.2.1.c2
    obtain ⟨z0, z1, z2⟩ := B3.out.2.2.1.c2
    obtain ⟨z3, z4⟩ := B3.out.2.2.1.f2
    have hz : (d == 0) = false := by simpa using h5
    have hA' := HA.out
    have hS' := HS.out
    generalize tpS ra rb d = S at *
    generalize tpA ra rb d = A at *
    go_wp2_with fail
    refine bodyPost_ret (v := .tuple #[.agg #[.int .i64 0, .int .i64 0], .int .i64 3]) ?_ rfl ⟨rfl, (B3.out.2.2.2.setCell hle _).setCell hle _⟩
    simp [results, Try.results20, go_sem, z0, z1]
  have HA := Lib.hid (show ra * ra - rb * rb + d2 a b c e = tpA ra rb (d2 a b c e) from rfl)
  have HS := Lib.hid (show 4 * d2 a b c e * ra * ra - tpA ra rb (d2 a b c e) * tpA ra rb (d2 a b c e) = tpS ra rb (d2 a b c e) from rfl)
  have HD := Lib.hid (l09Square_any a b c e · ⟨a1, a2⟩ ⟨b1, b2⟩ ⟨c1, c2⟩ ⟨e1, e2⟩)
  have HR := Lib.hid (show tpR ra rb (d2 a b c e) l = if l then rt (tpS ra rb (d2 a b c e)) else -rt (tpS ra rb (d2 a b c e)) from rfl)
  have hR := tpR_bd (l := l) k3 k4 kd h6
  obtain ⟨r1, r2, r3, r4⟩ := tpP_bd (x := c - a) (y := e - b) ⟨q3.1, q3.2⟩ hR (by omega) (by omega)
  have HX := Lib.hid (show near (tpA ra rb (d2 a b c e) * (c - a) - tpR ra rb (d2 a b c e) l * (e - b)) (2 * d2 a b c e) = tpX (c - a) (e - b) (tpA ra rb (d2 a b c e)) (tpR ra rb (d2 a b c e) l) (d2 a b c e) from rfl)
  have HY := Lib.hid (show near (tpA ra rb (d2 a b c e) * (e - b) + tpR ra rb (d2 a b c e) l * (c - a)) (2 * d2 a b c e) = tpY (c - a) (e - b) (tpA ra rb (d2 a b c e)) (tpR ra rb (d2 a b c e) l) (d2 a b c e) from rfl)
  have hn1 := near_bd (n := tpA ra rb (d2 a b c e) * (c - a) - tpR ra rb (d2 a b c e) l * (e - b)) (d := 2 * d2 a b c e) (by omega) (by omega) (by omega) (by omega)
  have hn2 := near_bd (n := tpA ra rb (d2 a b c e) * (e - b) + tpR ra rb (d2 a b c e) l * (c - a)) (d := 2 * d2 a b c e) (by omega) (by omega) (by omega) (by omega)
  rw [HX.out] at hn1
  rw [HY.out] at hn2
  have HF' := Lib.hid (HF.out _ _ h6 rfl rfl)
  generalize tpX (c - a) (e - b) (tpA ra rb (d2 a b c e)) (tpR ra rb (d2 a b c e) l) (d2 a b c e) = X at *
  generalize tpY (c - a) (e - b) (tpA ra rb (d2 a b c e)) (tpR ra rb (d2 a b c e) l) (d2 a b c e) = Y at *
  generalize tpF a b c e ra rb l = F at *
  clear HF
  generalize d2 a b c e = d at *
  have hk0 := rt_is (n := tpS ra rb d) (by omega)
  have hk1 := rt_le (n := tpS ra rb d) (m := 300000000) (by omega) (by omega) (by omega)
  go_enter Try.func20, Try.ntmps20
  go_wp2_with fail
  refine (l09Point_any _ _ _).mono ?_
  rw [h1]
  rintro x w' ⟨rfl, hb⟩
  have B1 := Lib.hid (B0.out.keep hb)
  clear hb 
  obtain ⟨x0, x1, x2⟩ := B1.out.1.c2
  obtain ⟨y0, y1, y2⟩ := B1.out.2.1.c2
  obtain ⟨z0, z1, z2⟩ := B1.out.2.2.1.c2
  obtain ⟨z3, z4⟩ := B1.out.2.2.1.f2
  go_wp2_with fail
  refine (l09Point_any _ _ _).mono ?_
  rw [h2]
  rintro x w' ⟨rfl, hb⟩
  have B2 := Lib.hid (B1.out.keep hb)
  clear hb x0 x1 x2 y0 y1 y2 z0 z1 z2 z3 z4
  obtain ⟨x0, x1, x2⟩ := B2.out.1.c2
  obtain ⟨y0, y1, y2⟩ := B2.out.2.1.c2
  obtain ⟨z0, z1, z2⟩ := B2.out.2.2.1.c2
  obtain ⟨z3, z4⟩ := B2.out.2.2.1.f2
  go_wp2_with fail
  refine (l00In_any _ _ _ _).mono ?_
  rw [h3]
  rintro x w' ⟨rfl, rfl⟩
  go_wp2_with fail
  refine (l00In_any _ _ _ _).mono ?_
  rw [h4]
  rintro x w' ⟨rfl, rfl⟩
  go_wp2_with fail
  refine (HD.out _).mono ?_
  rintro x w3 ⟨rfl, hb⟩
  have B3 := Lib.hid (B2.out.keep hb)
  clear hb x0 x1 x2 y0 y1 y2 z0 z1 z2 z3 z4
  obtain ⟨x0, x1, x2⟩ := B3.out.1.c2
  obtain ⟨y0, y1, y2⟩ := B3.out.2.1.c2
  obtain ⟨z0, z1, z2⟩ := B3.out.2.2.1.c2
  obtain ⟨z3, z4⟩ := B3.out.2.2.1.f2
  have hz : (d == 0) = false := by simpa using h5
  have hA' := HA.out
  have hS' := HS.out
  generalize tpS ra rb d = S at *
  generalize tpA ra rb d = A at *
  go_wp2_with fail
  refine (l09Root_any S _ (by omega) (by omega)).mono ?_
  rintro x w' ⟨rfl, rfl⟩
  have hk0' := hk0.1
  clear hk0
  generalize rt S = Q at *
  have HK := Lib.hid (fun (w' : World) (hb : Below w3.heap.size w3 w') => TpK.of B3.out.1 hb)
  cases l
  · have HR' := HR.out
    simp only [Bool.false_eq_true, if_false] at HR'
    rw [HR'] at r3 r4 HX HY
    clear HR HR'
    have g1 : IntKind.i64.wrap (A * (c - a)) = A * (c - a) := IntWalk.i64_in _ (by omega)
    have g2 : IntKind.i64.wrap (-Q * (e - b)) = -Q * (e - b) := IntWalk.i64_in _ (by omega)
    have g3 : IntKind.i64.wrap (A * (c - a) - -Q * (e - b)) = A * (c - a) - -Q * (e - b) := IntWalk.i64_in _ (by omega)
    have g4 : IntKind.i64.wrap (2 * d) = 2 * d := IntWalk.i64_in _ (by omega)
    have g5 : IntKind.i64.wrap (A * (e - b)) = A * (e - b) := IntWalk.i64_in _ (by omega)
    have g6 : IntKind.i64.wrap (-Q * (c - a)) = -Q * (c - a) := IntWalk.i64_in _ (by omega)
    have g7 : IntKind.i64.wrap (A * (e - b) + -Q * (c - a)) = A * (e - b) + -Q * (c - a) := IntWalk.i64_in _ (by omega)
    have g8 : IntKind.i64.wrap (a + X) = a + X := IntWalk.i64_in _ (by omega)
    have g9 : IntKind.i64.wrap (b + Y) = b + Y := IntWalk.i64_in _ (by omega)
    have gX := HX.out
    have gY := HY.out
    go_upto_region 17 with fail
    go_cut [18] (fun sp wx => ∃ kk : Nat, sp = .pointer (some ⟨kk, 0, none⟩) ∧ wx.cell? ⟨kk, 0, none⟩ = some (.int .i64 (a + X)) ∧ wx.cell? ⟨kk, 1, none⟩ = some (.int .i64 (b + Y)) ∧ kk < wx.heap.size ∧ Below w3.heap.size w3 wx)
    case first =>
      go_region_held3 (fun w' => w'.cell? ⟨w.heap.size, 0, none⟩ = some (.int .i64 a) ∧ w'.cell? ⟨w.heap.size, 1, none⟩ = some (.int .i64 b) ∧ Below w3.heap.size w3 w') (first | exact HK.out _ (bR _).drew | assumption | exact HK.out _ (Below.drew (bA (bR _) _)) | exact HK.out _ (bA (TpK.bel (bx := w.heap.size) (a := a) (b := b) (by assumption)) _) | exact HK.out _ (bA (Hid.out (by assumption)) _))
        (first
          | (go_at_call 52; refine (l02Near_any _ _ _ (by omega) (by omega) (by omega) (by omega)).mono ?_; rintro x w' ⟨rfl, rfl⟩))
      all_goals (go_wp2_with fail; go_meet; refine ⟨_, rfl, ?_, ?_, ?_, ?_⟩)
      all_goals first | (simp [go_sem]; done) | exact Below.drew (bA (bR _) _) | exact bA (bR _).drew _
    case rest =>
      obtain ⟨kk, rfl, n0, n1, n2, hB⟩ := hcut
      have B4 := Lib.hid (B3.out.keep hB)
      clear hB HK HX HY gX gY g1 g2 g3 g4 g5 g6 g7 g8 g9 r1 r2 r3 r4 hR q1 q2 q3 q4 q5 q6 q7 x0 x1 x2 y0 y1 y2 z0 z1 z2 z3 z4
      obtain ⟨z0, z1, z2⟩ := B4.out.2.2.1.c2
      obtain ⟨z3, z4⟩ := B4.out.2.2.1.f2
      cases hv : ptB (a + X) (b + Y)
      · go_wp2_with fail
        refine (l09Point_any _ _ _).mono ?_
        rw [hv]
        rintro x w5 ⟨rfl, hb⟩
        have B5 := Lib.hid (B4.out.keep hb)
        clear hb n0 n1 n2 z0 z1 z2 z3 z4
        obtain ⟨z0, z1, z2⟩ := B5.out.2.2.1.c2
        obtain ⟨z3, z4⟩ := B5.out.2.2.1.f2
        go_wp2_with fail
        rw [HF'.out.1 hv]
        refine bodyPost_ret (v := .tuple #[.agg #[.int .i64 0, .int .i64 0], .int .i64 10]) ?_ rfl ⟨rfl, (B5.out.2.2.2.setCell hle _).setCell hle _⟩
        simp [results, Try.results20, go_sem, z0, z1]
      · go_wp2_with fail
        refine (l09Point_any _ _ _).mono ?_
        rw [hv]
        rintro x w5 ⟨rfl, hb⟩
        have B5 := Lib.hid (B4.out.keep hb)
        have n0' := (hb.cell (p := ⟨kk, 0, none⟩) n2).trans n0
        have n1' := (hb.cell (p := ⟨kk, 1, none⟩) n2).trans n1
        clear hb n0 n1 n2 z0 z1 z2 z3 z4
        obtain ⟨z0, z1, z2⟩ := B5.out.2.2.1.c2
        obtain ⟨z3, z4⟩ := B5.out.2.2.1.f2
        go_wp2_with fail
        rw [HF'.out.2 hv]
        refine bodyPost_ret (v := .tuple #[.agg #[.int .i64 (a + X), .int .i64 (b + Y)], .int .i64 0]) ?_ rfl ⟨rfl, (B5.out.2.2.2.setCell hle _).setCell hle _⟩
        simp [results, Try.results20, go_sem, z0, z1]
  · have HR' := HR.out
    simp only [if_true] at HR'
    rw [HR'] at r3 r4 HX HY
    clear HR HR'
    have g1 : IntKind.i64.wrap (A * (c - a)) = A * (c - a) := IntWalk.i64_in _ (by omega)
    have g2 : IntKind.i64.wrap (Q * (e - b)) = Q * (e - b) := IntWalk.i64_in _ (by omega)
    have g3 : IntKind.i64.wrap (A * (c - a) - Q * (e - b)) = A * (c - a) - Q * (e - b) := IntWalk.i64_in _ (by omega)
    have g4 : IntKind.i64.wrap (2 * d) = 2 * d := IntWalk.i64_in _ (by omega)
    have g5 : IntKind.i64.wrap (A * (e - b)) = A * (e - b) := IntWalk.i64_in _ (by omega)
    have g6 : IntKind.i64.wrap (Q * (c - a)) = Q * (c - a) := IntWalk.i64_in _ (by omega)
    have g7 : IntKind.i64.wrap (A * (e - b) + Q * (c - a)) = A * (e - b) + Q * (c - a) := IntWalk.i64_in _ (by omega)
    have g8 : IntKind.i64.wrap (a + X) = a + X := IntWalk.i64_in _ (by omega)
    have g9 : IntKind.i64.wrap (b + Y) = b + Y := IntWalk.i64_in _ (by omega)
    have gX := HX.out
    have gY := HY.out
    go_upto_region 17 with fail
    go_cut [18] (fun sp wx => ∃ kk : Nat, sp = .pointer (some ⟨kk, 0, none⟩) ∧ wx.cell? ⟨kk, 0, none⟩ = some (.int .i64 (a + X)) ∧ wx.cell? ⟨kk, 1, none⟩ = some (.int .i64 (b + Y)) ∧ kk < wx.heap.size ∧ Below w3.heap.size w3 wx)
    case first =>
      go_region_held3 (fun w' => w'.cell? ⟨w.heap.size, 0, none⟩ = some (.int .i64 a) ∧ w'.cell? ⟨w.heap.size, 1, none⟩ = some (.int .i64 b) ∧ Below w3.heap.size w3 w') (first | exact HK.out _ (bR _).drew | assumption | exact HK.out _ (Below.drew (bA (bR _) _)) | exact HK.out _ (bA (TpK.bel (bx := w.heap.size) (a := a) (b := b) (by assumption)) _) | exact HK.out _ (bA (Hid.out (by assumption)) _))
        (first
          | (go_at_call 52; refine (l02Near_any _ _ _ (by omega) (by omega) (by omega) (by omega)).mono ?_; rintro x w' ⟨rfl, rfl⟩))
      all_goals (go_wp2_with fail; go_meet; refine ⟨_, rfl, ?_, ?_, ?_, ?_⟩)
      all_goals first | (simp [go_sem]; done) | exact Below.drew (bA (bR _) _) | exact bA (bR _).drew _
    case rest =>
      obtain ⟨kk, rfl, n0, n1, n2, hB⟩ := hcut
      have B4 := Lib.hid (B3.out.keep hB)
      clear hB HK HX HY gX gY g1 g2 g3 g4 g5 g6 g7 g8 g9 r1 r2 r3 r4 hR q1 q2 q3 q4 q5 q6 q7 x0 x1 x2 y0 y1 y2 z0 z1 z2 z3 z4
      obtain ⟨z0, z1, z2⟩ := B4.out.2.2.1.c2
      obtain ⟨z3, z4⟩ := B4.out.2.2.1.f2
      cases hv : ptB (a + X) (b + Y)
      · go_wp2_with fail
        refine (l09Point_any _ _ _).mono ?_
        rw [hv]
        rintro x w5 ⟨rfl, hb⟩
        have B5 := Lib.hid (B4.out.keep hb)
        clear hb n0 n1 n2 z0 z1 z2 z3 z4
        obtain ⟨z0, z1, z2⟩ := B5.out.2.2.1.c2
        obtain ⟨z3, z4⟩ := B5.out.2.2.1.f2
        go_wp2_with fail
        rw [HF'.out.1 hv]
        refine bodyPost_ret (v := .tuple #[.agg #[.int .i64 0, .int .i64 0], .int .i64 10]) ?_ rfl ⟨rfl, (B5.out.2.2.2.setCell hle _).setCell hle _⟩
        simp [results, Try.results20, go_sem, z0, z1]
      · go_wp2_with fail
        refine (l09Point_any _ _ _).mono ?_
        rw [hv]
        rintro x w5 ⟨rfl, hb⟩
        have B5 := Lib.hid (B4.out.keep hb)
        have n0' := (hb.cell (p := ⟨kk, 0, none⟩) n2).trans n0
        have n1' := (hb.cell (p := ⟨kk, 1, none⟩) n2).trans n1
        clear hb n0 n1 n2 z0 z1 z2 z3 z4
        obtain ⟨z0, z1, z2⟩ := B5.out.2.2.1.c2
        obtain ⟨z3, z4⟩ := B5.out.2.2.1.f2
        go_wp2_with fail
        rw [HF'.out.2 hv]
        refine bodyPost_ret (v := .tuple #[.agg #[.int .i64 (a + X), .int .i64 (b + Y)], .int .i64 0]) ?_ rfl ⟨rfl, (B5.out.2.2.2.setCell hle _).setCell hle _⟩
        simp [results, Try.results20, go_sem, z0, z1]
end Go.Proofs.Ytclefibjmnabbaa

/-
  The walk of laws.FnExactThirdPoint.
-/
import Derived.Test.YtclefibjmnabbaaTpI
import Derived.Test.YtclefibjmnabbaaWPt
namespace Go.Proofs.Ytclefibjmnabbaa
open Go.RowKit

theorem TpK2.two {W w : World} {a b c e : Int} {w' : World} (h : TwoPt w a b c e W) (hb : Below W.heap.size W w') : TpK2 W w a b c e w' := ⟨(h.1.keep hb).c2.1, (h.1.keep hb).c2.2.1, (h.2.1.keep hb).c2.1, (h.2.1.keep hb).c2.2.1, hb⟩
set_option maxRecDepth 100000 in
set_option maxHeartbeats 4000000 in
theorem FnExactThirdPoint_walk (a b c e ra rb : Int) (l : Bool) (w : World) (_h1 : -9223372036854775808 ≤ ra ∧ ra ≤ 9223372036854775807) (_h2 : -9223372036854775808 ≤ rb ∧ rb ≤ 9223372036854775807) :
    Calls Try.prog 5 #[.agg #[.int .i64 a, .int .i64 b], .agg #[.int .i64 c, .int .i64 e], .int .i64 ra, .int .i64 rb, .bool l] w fun e w' => e = .returned (.bool true) ∧ Below w.heap.size w w' := by
  generalize hr : tpF a b c e ra rb l = r
  have HR := Lib.hid hr
  clear hr
  obtain ⟨p, q, s⟩ := r
  have n1 : (s != s) = false := by simp
  have T0 := Lib.hid (TwoPt.new w a b c e 37 37)
  go_enter Try.func5, Try.ntmps5
  go_upto_region 1 with fail
  generalize (w.alloc (.cells #[.int .i64 a, .int .i64 b] 37)).alloc (.cells #[.int .i64 c, .int .i64 e] 37) = W0 at *
  have HK := Lib.hid (fun (w' : World) (hb : Below W0.heap.size W0 w') => TpK2.two T0.out hb)
  obtain ⟨x0, x1, x2⟩ := T0.out.1.c2
  obtain ⟨y0, y1, y2⟩ := T0.out.2.1.c2
  go_cut [11, 12] (fun sp sd wx => ∃ kk : Nat, sp = .pointer (some ⟨kk, 0, none⟩) ∧ sd = .int .i64 s ∧ wx.cell? ⟨kk, 0, none⟩ = some (.int .i64 p) ∧ wx.cell? ⟨kk, 1, none⟩ = some (.int .i64 q) ∧ kk < wx.heap.size ∧ Below W0.heap.size W0 wx)
  case first =>
    go_region_held3 (fun w' => w'.cell? ⟨w.heap.size, 0, none⟩ = some (.int .i64 a) ∧ w'.cell? ⟨w.heap.size, 1, none⟩ = some (.int .i64 b) ∧ w'.cell? ⟨w.heap.size + 1, 0, none⟩ = some (.int .i64 c) ∧ w'.cell? ⟨w.heap.size + 1, 1, none⟩ = some (.int .i64 e) ∧ Below W0.heap.size W0 w') (first | exact HK.out _ (bR _).drew | assumption | exact HK.out _ (bT (TpK2.bel (w := w) (a := a) (b := b) (c := c) (e := e) (by assumption)) hb) | exact HK.out _ (bA (TpK2.bel (w := w) (a := a) (b := b) (c := c) (e := e) (by assumption)) _) | exact HK.out _ (bA (Hid.out (by assumption)) _) | ((refine HK.out _ (Below.setCell (Below.setCell (TpK2.bel (w := w) (a := a) (b := b) (c := c) (e := e) (by assumption)) ?_ _) ?_ _)) <;> (first | omega | (simp; omega) | (simp; done))))
      (first
        | (go_at_call 21; refine (toPoint_any _ _ _).mono ?_; rintro x x5 ⟨rfl, hb⟩; have hTw := Lib.hid (show Below W0.heap.size W0 x5 from bT (TpK2.bel (w := w) (a := a) (b := b) (c := c) (e := e) (by assumption)) hb); have hszw := hTw.out.size; first | (have ZB := Lib.hid (Box2.keep ZB.out hb); obtain ⟨o0, o1, o2, o3, o4⟩ := ZB.out) | (have ZB : Hid (Box2 x5 W0.heap.size 0 0) := Lib.hid (Box2.keep (Box2.new W0.drew 0 0 38) hb); obtain ⟨o0, o1, o2, o3, o4⟩ := ZB.out) | (have ZB := Lib.hid (Box2.keep (Box2.new _ 0 0 38) hb); obtain ⟨o0, o1, o2, o3, o4⟩ := ZB.out) | skip)
        | (go_at_call 20; refine (ThirdPointS_any _ _ _ _ _ _ _ _).mono ?_; rw [HR.out]; rintro x x8 ⟨rfl, hb⟩; have hTw := Lib.hid (show Below W0.heap.size W0 x8 from bT (TpK2.bel (w := w) (a := a) (b := b) (c := c) (e := e) (by assumption)) hb); have hszw := hTw.out.size; first | (have ZB := Lib.hid (Box2.keep ZB.out hb); obtain ⟨o0, o1, o2, o3, o4⟩ := ZB.out) | (have ZB : Hid (Box2 x8 W0.heap.size 0 0) := Lib.hid (Box2.keep (Box2.new W0.drew 0 0 38) hb); obtain ⟨o0, o1, o2, o3, o4⟩ := ZB.out) | (have ZB := Lib.hid (Box2.keep (Box2.new _ 0 0 38) hb); obtain ⟨o0, o1, o2, o3, o4⟩ := ZB.out) | skip))
    all_goals (go_wp2_with fail; go_meet; refine ⟨_, rfl, rfl, ?_, ?_, ?_, ?_⟩)
    all_goals first | exact (Box2.new _ _ _ _).c0 | exact (Box2.new _ _ _ _).c1 | exact (Box2.new _ _ _ _).lt | exact bA hTw.out _ | exact (Box2.set ZB.out _ _).c0 | exact (Box2.set ZB.out _ _).c1 | exact (Box2.set ZB.out _ _).lt | exact bset (bset hTw.out (by omega)) (by omega) | ((try simp only [size_set]); first | assumption | (simp (config := { maxDischargeDepth := 8 }) [*, go_sem]; done) | (go_simp; done))
  case rest =>
    obtain ⟨kk, rfl, rfl, n0, n1', n2, hB⟩ := hcut
    generalize wc = W1 at *
    have T1 := Lib.hid (T0.out.keep hB)
    clear hB HK x0 x1 x2 y0 y1 y2
    have HK := Lib.hid (fun (w' : World) (hb : Below W1.heap.size W1 w') => TpK2.two T1.out hb)
    obtain ⟨x0, x1, x2⟩ := T1.out.1.c2
    obtain ⟨y0, y1, y2⟩ := T1.out.2.1.c2
    go_upto_region 2 with fail
    go_cut [13, 14] (fun sp sd wx => ∃ kk : Nat, sp = .pointer (some ⟨kk, 0, none⟩) ∧ sd = .int .i64 s ∧ wx.cell? ⟨kk, 0, none⟩ = some (.int .i64 p) ∧ wx.cell? ⟨kk, 1, none⟩ = some (.int .i64 q) ∧ kk < wx.heap.size ∧ Below W1.heap.size W1 wx)
    case first =>
      go_region_held3 (fun w' => w'.cell? ⟨w.heap.size, 0, none⟩ = some (.int .i64 a) ∧ w'.cell? ⟨w.heap.size, 1, none⟩ = some (.int .i64 b) ∧ w'.cell? ⟨w.heap.size + 1, 0, none⟩ = some (.int .i64 c) ∧ w'.cell? ⟨w.heap.size + 1, 1, none⟩ = some (.int .i64 e) ∧ Below W1.heap.size W1 w') (first | exact HK.out _ (bR _).drew | assumption | exact HK.out _ (bT (TpK2.bel (w := w) (a := a) (b := b) (c := c) (e := e) (by assumption)) hb) | exact HK.out _ (bA (TpK2.bel (w := w) (a := a) (b := b) (c := c) (e := e) (by assumption)) _) | exact HK.out _ (bA (Hid.out (by assumption)) _) | ((refine HK.out _ (Below.setCell (Below.setCell (TpK2.bel (w := w) (a := a) (b := b) (c := c) (e := e) (by assumption)) ?_ _) ?_ _)) <;> (first | omega | (simp; omega) | (simp; done))))
        (first
          | (go_at_call 21; refine (toPoint_any _ _ _).mono ?_; rintro x x5 ⟨rfl, hb⟩; have hTw := Lib.hid (show Below W1.heap.size W1 x5 from bT (TpK2.bel (w := w) (a := a) (b := b) (c := c) (e := e) (by assumption)) hb); have hszw := hTw.out.size; first | (have ZB := Lib.hid (Box2.keep ZB.out hb); obtain ⟨o0, o1, o2, o3, o4⟩ := ZB.out) | (have ZB : Hid (Box2 x5 W1.heap.size 0 0) := Lib.hid (Box2.keep (Box2.new W1.drew 0 0 38) hb); obtain ⟨o0, o1, o2, o3, o4⟩ := ZB.out) | (have ZB := Lib.hid (Box2.keep (Box2.new _ 0 0 38) hb); obtain ⟨o0, o1, o2, o3, o4⟩ := ZB.out) | skip)
          | (go_at_call 22; refine (ThirdPointI_any _ _ _ _ _ _ _ _).mono ?_; rw [HR.out]; rintro x x8 ⟨rfl, hb⟩; have hTw := Lib.hid (show Below W1.heap.size W1 x8 from bT (TpK2.bel (w := w) (a := a) (b := b) (c := c) (e := e) (by assumption)) hb); have hszw := hTw.out.size; first | (have ZB := Lib.hid (Box2.keep ZB.out hb); obtain ⟨o0, o1, o2, o3, o4⟩ := ZB.out) | (have ZB : Hid (Box2 x8 W1.heap.size 0 0) := Lib.hid (Box2.keep (Box2.new W1.drew 0 0 38) hb); obtain ⟨o0, o1, o2, o3, o4⟩ := ZB.out) | (have ZB := Lib.hid (Box2.keep (Box2.new _ 0 0 38) hb); obtain ⟨o0, o1, o2, o3, o4⟩ := ZB.out) | skip))
      all_goals (go_wp2_with fail; go_meet; refine ⟨_, rfl, rfl, ?_, ?_, ?_, ?_⟩)
      all_goals first | exact (Box2.new _ _ _ _).c0 | exact (Box2.new _ _ _ _).c1 | exact (Box2.new _ _ _ _).lt | exact bA hTw.out _ | exact (Box2.set ZB.out _ _).c0 | exact (Box2.set ZB.out _ _).c1 | exact (Box2.set ZB.out _ _).lt | exact bset (bset hTw.out (by omega)) (by omega) | ((try simp only [size_set]); first | assumption | (simp (config := { maxDischargeDepth := 8 }) [*, go_sem]; done) | (go_simp; done))
    case rest =>
      obtain ⟨k2, rfl, rfl, m0, m1, m2, hB⟩ := hcut
      have o0 := (hB.cell (p := ⟨kk, 0, none⟩) n2).trans n0
      have o1 := (hB.cell (p := ⟨kk, 1, none⟩) n2).trans n1'
      have T2 := Lib.hid (T1.out.keep hB)
      clear hB n0 n1' HK x0 x1 x2 y0 y1 y2
      go_wp2_with fail
      refine (eqPoint_same _ _ _).mono ?_
      rintro x w3 ⟨rfl, hb3⟩
      go_wp2_with fail
      go_ret
      exact ⟨rfl, bT T2.out.2.2 hb3⟩
end Go.Proofs.Ytclefibjmnabbaa

/-
  Sums of readings together: both sides.
-/
import Derived.Test.YtmmmbchlkjljaaaRgV
import Derived.Test.YtmmmbchlkjljaaaRgF
namespace Go.Proofs.Ytmmmbchlkjljaaa
open Go.RowKit


/-- Two boxes of sums of a call and the result's. -/
def FtHH (w : World) (a b : Ft) (w' : World) : Prop := BoxL w' w.heap.size [.int .i64 a.n, .int .i64 a.x, .int .i64 a.y, .int .i64 a.xx, .int .i64 a.xy] ∧ BoxL w' (w.heap.size + 1) [.int .i64 b.n, .int .i64 b.x, .int .i64 b.y, .int .i64 b.xx, .int .i64 b.xy] ∧ BoxL w' (w.heap.size + 2) [.int .i64 0, .int .i64 0, .int .i64 0, .int .i64 0, .int .i64 0] ∧ Below w.heap.size w w'
theorem FtHH.new (w : World) (a b : Ft) (T : TypeId) : FtHH w a b (((w.alloc (.cells #[.int .i64 a.n, .int .i64 a.x, .int .i64 a.y, .int .i64 a.xx, .int .i64 a.xy] T)).alloc (.cells #[.int .i64 b.n, .int .i64 b.x, .int .i64 b.y, .int .i64 b.xx, .int .i64 b.xy] T)).alloc (.cells #[.int .i64 0, .int .i64 0, .int .i64 0, .int .i64 0, .int .i64 0] T)) := ⟨((BoxL.new w [.int .i64 a.n, .int .i64 a.x, .int .i64 a.y, .int .i64 a.xx, .int .i64 a.xy] T).alloc _).alloc _, (BoxL.at_ (vs := [.int .i64 b.n, .int .i64 b.x, .int .i64 b.y, .int .i64 b.xx, .int .i64 b.xy]) (by simp)).alloc _, BoxL.at_ (vs := [.int .i64 0, .int .i64 0, .int .i64 0, .int .i64 0, .int .i64 0]) (by simp), bA (bA (bA (bR _) _) _) _⟩
theorem FtHH.keep {w : World} {a b : Ft} {x y : World} (h : FtHH w a b x) (hb : Below x.heap.size x y) : FtHH w a b y := ⟨h.1.keep hb, h.2.1.keep hb, h.2.2.1.keep hb, bT h.2.2.2 hb⟩
set_option maxRecDepth 100000 in
set_option maxHeartbeats 4000000 in
theorem AddFitsI_any (a b : Ft) (w : World) :
    Calls Try.prog 33 #[.agg #[.int .i64 a.n, .int .i64 a.x, .int .i64 a.y, .int .i64 a.xx, .int .i64 a.xy], .agg #[.int .i64 b.n, .int .i64 b.x, .int .i64 b.y, .int .i64 b.xx, .int .i64 b.xy]] w (FtC (afE a b).1 (afE a b).2 w) := by
  have H0 := Lib.hid (FtHH.new w a b 41)
  have CA := Lib.hid (fun W => ValidFitI_any a.n a.x a.y a.xx a.xy W)
  have CB := Lib.hid (fun W => ValidFitI_any b.n b.x b.y b.xx b.xy W)
  cases h1 : okFt a
  · rw [afE_1 h1]
    rw [show okFt ⟨a.n, a.x, a.y, a.xx, a.xy⟩ = false from h1] at CA
    go_enter Try.func33, Try.ntmps33
    obtain ⟨c0, c1, c2, c3, c4, c5⟩ := H0.out.1.c5
    obtain ⟨d0, d1, d2, d3, d4, d5⟩ := H0.out.2.1.c5
    go_wp2_with fail
    refine (CA.out _).mono ?_
    rintro e w1 ⟨rfl, hb⟩
    have H1 := Lib.hid (H0.out.keep hb)
    clear hb H0 c0 c1 c2 c3 c4 c5 d0 d1 d2 d3 d4 d5
    obtain ⟨c0, c1, c2, c3, c4, c5⟩ := H1.out.1.c5
    obtain ⟨d0, d1, d2, d3, d4, d5⟩ := H1.out.2.1.c5
    obtain ⟨r0, r1, r2, r3, r4, r5⟩ := H1.out.2.2.1.c5
    obtain ⟨f0, f1, f2, f3, f4⟩ := H1.out.2.2.1.f5
    go_wp2_with fail
    exact bodyPost_ret (v := .tuple #[.agg #[.int .i64 0, .int .i64 0, .int .i64 0, .int .i64 0, .int .i64 0], .int .i64 1]) (by simp [results, Try.results33, go_sem, r0, r1, r2, r3, r4]) rfl ⟨rfl, bset5R H1.out.2.2.2 (by omega)⟩
  rw [show okFt ⟨a.n, a.x, a.y, a.xx, a.xy⟩ = true from h1] at CA
  cases h2 : okFt b
  · rw [afE_2 h2]
    rw [show okFt ⟨b.n, b.x, b.y, b.xx, b.xy⟩ = false from h2] at CB
    go_enter Try.func33, Try.ntmps33
    obtain ⟨c0, c1, c2, c3, c4, c5⟩ := H0.out.1.c5
    obtain ⟨d0, d1, d2, d3, d4, d5⟩ := H0.out.2.1.c5
    go_wp2_with fail
    refine (CA.out _).mono ?_
    rintro e w1 ⟨rfl, hb⟩
    have H1 := Lib.hid (H0.out.keep hb)
    clear hb H0 c0 c1 c2 c3 c4 c5 d0 d1 d2 d3 d4 d5
    obtain ⟨c0, c1, c2, c3, c4, c5⟩ := H1.out.1.c5
    obtain ⟨d0, d1, d2, d3, d4, d5⟩ := H1.out.2.1.c5
    go_wp2_with fail
    refine (CB.out _).mono ?_
    rintro e w2 ⟨rfl, hb⟩
    have H2 := Lib.hid (H1.out.keep hb)
    clear hb H1 c0 c1 c2 c3 c4 c5 d0 d1 d2 d3 d4 d5
    obtain ⟨c0, c1, c2, c3, c4, c5⟩ := H2.out.1.c5
    obtain ⟨d0, d1, d2, d3, d4, d5⟩ := H2.out.2.1.c5
    obtain ⟨r0, r1, r2, r3, r4, r5⟩ := H2.out.2.2.1.c5
    obtain ⟨f0, f1, f2, f3, f4⟩ := H2.out.2.2.1.f5
    go_wp2_with fail
    exact bodyPost_ret (v := .tuple #[.agg #[.int .i64 0, .int .i64 0, .int .i64 0, .int .i64 0, .int .i64 0], .int .i64 1]) (by simp [results, Try.results33, go_sem, r0, r1, r2, r3, r4]) rfl ⟨rfl, bset5R H2.out.2.2.2 (by omega)⟩
  rw [show okFt ⟨b.n, b.x, b.y, b.xx, b.xy⟩ = true from h2] at CB
  have ba := okFt_bd h1
  have bb := okFt_bd h2
  obtain ⟨a1, a2, a3, a4, a5, _, _⟩ := ba
  obtain ⟨b1, b2, b3, b4, b5, _, _⟩ := bb
  by_cases h3 : a.n + b.n ≤ 60
  · rw [afE_0 h1 h2 h3]
    have h3' : ¬ 60 < a.n + b.n := by omega
    have HF := Lib.hid (show adF a b = ⟨a.n + b.n, a.x + b.x, a.y + b.y, a.xx + b.xx, a.xy + b.xy⟩ from rfl)
    rw [HF.out]
    go_enter Try.func33, Try.ntmps33
    obtain ⟨c0, c1, c2, c3, c4, c5⟩ := H0.out.1.c5
    obtain ⟨d0, d1, d2, d3, d4, d5⟩ := H0.out.2.1.c5
    go_wp2_with fail
    refine (CA.out _).mono ?_
    rintro e w1 ⟨rfl, hb⟩
    have H1 := Lib.hid (H0.out.keep hb)
    clear hb H0 c0 c1 c2 c3 c4 c5 d0 d1 d2 d3 d4 d5
    obtain ⟨c0, c1, c2, c3, c4, c5⟩ := H1.out.1.c5
    obtain ⟨d0, d1, d2, d3, d4, d5⟩ := H1.out.2.1.c5
    go_wp2_with fail
    refine (CB.out _).mono ?_
    rintro e w2 ⟨rfl, hb⟩
    have H2 := Lib.hid (H1.out.keep hb)
    clear hb H1 c0 c1 c2 c3 c4 c5 d0 d1 d2 d3 d4 d5
    obtain ⟨c0, c1, c2, c3, c4, c5⟩ := H2.out.1.c5
    obtain ⟨d0, d1, d2, d3, d4, d5⟩ := H2.out.2.1.c5
    obtain ⟨r0, r1, r2, r3, r4, r5⟩ := H2.out.2.2.1.c5
    obtain ⟨f0, f1, f2, f3, f4⟩ := H2.out.2.2.1.f5
    go_wp2_with fail
    exact bodyPost_ret (v := .tuple #[.agg #[.int .i64 (a.n + b.n), .int .i64 (a.x + b.x), .int .i64 (a.y + b.y), .int .i64 (a.xx + b.xx), .int .i64 (a.xy + b.xy)], .int .i64 0]) (by simp [results, Try.results33, go_sem, r0, r1, r2, r3, r4]) rfl ⟨rfl, bset5R H2.out.2.2.2 (by omega)⟩
  · rw [afE_5 h1 h2 h3]
    have h3' : 60 < a.n + b.n := by omega
    go_enter Try.func33, Try.ntmps33
    obtain ⟨c0, c1, c2, c3, c4, c5⟩ := H0.out.1.c5
    obtain ⟨d0, d1, d2, d3, d4, d5⟩ := H0.out.2.1.c5
    go_wp2_with fail
    refine (CA.out _).mono ?_
    rintro e w1 ⟨rfl, hb⟩
    have H1 := Lib.hid (H0.out.keep hb)
    clear hb H0 c0 c1 c2 c3 c4 c5 d0 d1 d2 d3 d4 d5
    obtain ⟨c0, c1, c2, c3, c4, c5⟩ := H1.out.1.c5
    obtain ⟨d0, d1, d2, d3, d4, d5⟩ := H1.out.2.1.c5
    go_wp2_with fail
    refine (CB.out _).mono ?_
    rintro e w2 ⟨rfl, hb⟩
    have H2 := Lib.hid (H1.out.keep hb)
    clear hb H1 c0 c1 c2 c3 c4 c5 d0 d1 d2 d3 d4 d5
    obtain ⟨c0, c1, c2, c3, c4, c5⟩ := H2.out.1.c5
    obtain ⟨d0, d1, d2, d3, d4, d5⟩ := H2.out.2.1.c5
    obtain ⟨r0, r1, r2, r3, r4, r5⟩ := H2.out.2.2.1.c5
    obtain ⟨f0, f1, f2, f3, f4⟩ := H2.out.2.2.1.f5
    go_wp2_with fail
    exact bodyPost_ret (v := .tuple #[.agg #[.int .i64 0, .int .i64 0, .int .i64 0, .int .i64 0, .int .i64 0], .int .i64 5]) (by simp [results, Try.results33, go_sem, r0, r1, r2, r3, r4]) rfl ⟨rfl, bset5R H2.out.2.2.2 (by omega)⟩
end Go.Proofs.Ytmmmbchlkjljaaa

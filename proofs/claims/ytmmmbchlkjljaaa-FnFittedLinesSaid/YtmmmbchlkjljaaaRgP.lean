/-
  The fitted line, the program's side: the line, its value at an hour, daily rates, values.
-/
import Derived.Test.YtmmmbchlkjljaaaRgV
import Derived.Test.YtmmmbchlkjljaaaRgN
import Derived.Test.YtmmmbchlkjljaaaRgF
import Derived.Test.YtmmmbchlkjljaaaSclW
namespace Go.Proofs.Ytmmmbchlkjljaaa
open Go.RowKit

theorem ratePerDay_any (a b : Int) (w : World) (h1 : -172800000000000000 ≤ 24000 * a ∧ 24000 * a ≤ 172800000000000000) (h2 : 1 ≤ b) (h3 : b ≤ 1000000000000000000) :
    Calls Try.prog 71 #[.int .i64 a, .int .i64 b] w (OneN (near (24000 * a) b) w) := by
  have CN := Lib.hid (fun W => nearestw_any (24000 * a) b W h2 h3 (by omega) (by omega))
  go_enter Try.func71, Try.ntmps71
  go_wp2_with fail
  refine (CN.out _).mono ?_
  rintro e w1 ⟨rfl, hb⟩
  go_wp2_with fail
  go_ret
  exact ⟨rfl, hb⟩
def LnC (f : Ft) (c : Int) (w : World) (e : Ending) (w' : World) : Prop := e = .returned (.tuple #[.agg #[.int .i64 f.n, .int .i64 f.x, .int .i64 f.y, .int .i64 f.xx, .int .i64 f.xy, .int .i64 (nF f), .int .i64 (dF f)], .int .i64 c]) ∧ Below w.heap.size w w'
def LzC (c : Int) (w : World) (e : Ending) (w' : World) : Prop := e = .returned (.tuple #[.agg #[.int .i64 0, .int .i64 0, .int .i64 0, .int .i64 0, .int .i64 0, .int .i64 0, .int .i64 0], .int .i64 c]) ∧ Below w.heap.size w w'
def lnV (f : Ft) : Value := if okFt f = true then (if dF f = 0 then .agg #[.int .i64 0, .int .i64 0, .int .i64 0, .int .i64 0, .int .i64 0, .int .i64 0, .int .i64 0] else .agg #[.int .i64 f.n, .int .i64 f.x, .int .i64 f.y, .int .i64 f.xx, .int .i64 f.xy, .int .i64 (nF f), .int .i64 (dF f)]) else .agg #[.int .i64 0, .int .i64 0, .int .i64 0, .int .i64 0, .int .i64 0, .int .i64 0, .int .i64 0]
theorem spreadF (f : Ft) (hf : FtB f) (w : World) : Calls Try.prog 68 #[.agg #[.int .i64 f.n, .int .i64 f.x, .int .i64 f.y, .int .i64 f.xx, .int .i64 f.xy]] w (OneN (dF f) w) := by
  obtain ⟨h1, h2, h3, h4, h5, h6, h7⟩ := hf
  have p1 := mulB (a := f.n) (b := f.xx) (A := 60) (B := 6000000000) (by omega) (by omega) (by omega) (by omega)
  have p2 := mulB (a := f.x) (b := f.x) (A := 600000) (B := 600000) (by omega) (by omega) (by omega) (by omega)
  exact spread_any f.n f.x f.y f.xx f.xy w (by omega) (by omega) (by omega)

/-- The boxes of lineOf: the sums and the result. -/
def LnH (w : World) (f : Ft) (w' : World) : Prop := BoxL w' w.heap.size [.int .i64 f.n, .int .i64 f.x, .int .i64 f.y, .int .i64 f.xx, .int .i64 f.xy] ∧ BoxL w' (w.heap.size + 1) [.int .i64 0, .int .i64 0, .int .i64 0, .int .i64 0, .int .i64 0, .int .i64 0, .int .i64 0] ∧ Below w.heap.size w w'
theorem LnH.new (w : World) (f : Ft) (T U : TypeId) : LnH w f ((w.alloc (.cells #[.int .i64 f.n, .int .i64 f.x, .int .i64 f.y, .int .i64 f.xx, .int .i64 f.xy] T)).alloc (.cells #[.int .i64 0, .int .i64 0, .int .i64 0, .int .i64 0, .int .i64 0, .int .i64 0, .int .i64 0] U)) := ⟨(BoxL.new w [.int .i64 f.n, .int .i64 f.x, .int .i64 f.y, .int .i64 f.xx, .int .i64 f.xy] T).alloc _, BoxL.at_ (vs := [.int .i64 0, .int .i64 0, .int .i64 0, .int .i64 0, .int .i64 0, .int .i64 0, .int .i64 0]) (by simp), bA (bA (bR _) _) _⟩
theorem LnH.keep {w : World} {f : Ft} {x y : World} (h : LnH w f x) (hb : Below x.heap.size x y) : LnH w f y := ⟨h.1.keep hb, h.2.1.keep hb, bT h.2.2 hb⟩
theorem BoxL.c7 {w : World} {b : Nat} {u v x y z s t : Value} (h : BoxL w b [u, v, x, y, z, s, t]) : w.cell? ⟨b, 0, none⟩ = some u ∧ w.cell? ⟨b, 1, none⟩ = some v ∧ w.cell? ⟨b, 2, none⟩ = some x ∧ w.cell? ⟨b, 3, none⟩ = some y ∧ w.cell? ⟨b, 4, none⟩ = some z ∧ w.cell? ⟨b, 5, none⟩ = some s ∧ w.cell? ⟨b, 6, none⟩ = some t ∧ b < w.heap.size := ⟨h.c 0 _ rfl, h.c 1 _ rfl, h.c 2 _ rfl, h.c 3 _ rfl, h.c 4 _ rfl, h.c 5 _ rfl, h.c 6 _ rfl, h.lt⟩
theorem BoxL.f7 {w : World} {b : Nat} {u v x y z s t : Value} (h : BoxL w b [u, v, x, y, z, s, t]) : w.frozen? ⟨b, 0, none⟩ = false ∧ w.frozen? ⟨b, 1, none⟩ = false ∧ w.frozen? ⟨b, 2, none⟩ = false ∧ w.frozen? ⟨b, 3, none⟩ = false ∧ w.frozen? ⟨b, 4, none⟩ = false ∧ w.frozen? ⟨b, 5, none⟩ = false ∧ w.frozen? ⟨b, 6, none⟩ = false := ⟨h.f 0 _ rfl, h.f 1 _ rfl, h.f 2 _ rfl, h.f 3 _ rfl, h.f 4 _ rfl, h.f 5 _ rfl, h.f 6 _ rfl⟩
theorem bset7R {B : Nat} {w w' : World} {b : Nat} {v0 v1 v2 v3 v4 v5 v6 : Value} (h : Below B w w') (hn : B ≤ b) : Below B w (((((((w'.setCell ⟨b, 0, none⟩ (v0)).setCell ⟨b, 1, none⟩ (v1)).setCell ⟨b, 2, none⟩ (v2)).setCell ⟨b, 3, none⟩ (v3)).setCell ⟨b, 4, none⟩ (v4)).setCell ⟨b, 5, none⟩ (v5)).setCell ⟨b, 6, none⟩ (v6)) :=
  ((((((h.setCell (p := ⟨b, 0, none⟩) hn v0).setCell (p := ⟨b, 1, none⟩) hn v1).setCell (p := ⟨b, 2, none⟩) hn v2).setCell (p := ⟨b, 3, none⟩) hn v3).setCell (p := ⟨b, 4, none⟩) hn v4).setCell (p := ⟨b, 5, none⟩) hn v5).setCell (p := ⟨b, 6, none⟩) hn v6
/-- What a drawn region of lineOf keeps. -/
def FtK (w : World) (f : Ft) (w' : World) : Prop := w'.cell? ⟨w.heap.size, 0, none⟩ = some (.int .i64 f.n) ∧ w'.cell? ⟨w.heap.size, 1, none⟩ = some (.int .i64 f.x) ∧ w'.cell? ⟨w.heap.size, 2, none⟩ = some (.int .i64 f.y) ∧ w'.cell? ⟨w.heap.size, 3, none⟩ = some (.int .i64 f.xx) ∧ w'.cell? ⟨w.heap.size, 4, none⟩ = some (.int .i64 f.xy) ∧ w.heap.size < w'.heap.size ∧ Below w.heap.size w w'
theorem FtK.keep {w : World} {f : Ft} {w' x : World} (hb : Below w'.heap.size w' x) (H : FtK w f w') : FtK w f x := by
  obtain ⟨c0, c1, c2, c3, c4, c5, c6⟩ := H
  have e : ∀ o, x.cell? ⟨w.heap.size, o, none⟩ = w'.cell? ⟨w.heap.size, o, none⟩ := fun o => hb.cell (p := ⟨w.heap.size, o, none⟩) c5
  exact ⟨(e 0).trans c0, (e 1).trans c1, (e 2).trans c2, (e 3).trans c3, (e 4).trans c4, Nat.lt_of_lt_of_le c5 hb.size, bT c6 hb⟩
theorem FtK.drew {w : World} {f : Ft} {w' : World} (H : FtK w f w') : FtK w f w'.drew := H.keep (bR _).drew
theorem FtK.bel {w : World} {f : Ft} {w' : World} (H : FtK w f w') : Below w.heap.size w w' := H.2.2.2.2.2.2
theorem FtK.of {w : World} {f : Ft} {w' : World} (h : BoxL w' w.heap.size [.int .i64 f.n, .int .i64 f.x, .int .i64 f.y, .int .i64 f.xx, .int .i64 f.xy]) (hb : Below w.heap.size w w') : FtK w f w' := by
  obtain ⟨c0, c1, c2, c3, c4, c5⟩ := h.c5
  exact ⟨c0, c1, c2, c3, c4, c5, hb⟩
theorem FtK.set7 {w : World} {f : Ft} {w' : World} {b : Nat} {v0 v1 v2 v3 v4 v5 v6 : Value} (H : FtK w f w') (hn : w.heap.size ≠ b) (hl : w.heap.size ≤ b) : FtK w f (((((((w'.setCell ⟨b, 0, none⟩ (v0)).setCell ⟨b, 1, none⟩ (v1)).setCell ⟨b, 2, none⟩ (v2)).setCell ⟨b, 3, none⟩ (v3)).setCell ⟨b, 4, none⟩ (v4)).setCell ⟨b, 5, none⟩ (v5)).setCell ⟨b, 6, none⟩ (v6)) := by
  obtain ⟨c0, c1, c2, c3, c4, c5, c6⟩ := H
  have e : ∀ o, (((((((w'.setCell ⟨b, 0, none⟩ (v0)).setCell ⟨b, 1, none⟩ (v1)).setCell ⟨b, 2, none⟩ (v2)).setCell ⟨b, 3, none⟩ (v3)).setCell ⟨b, 4, none⟩ (v4)).setCell ⟨b, 5, none⟩ (v5)).setCell ⟨b, 6, none⟩ (v6)).cell? ⟨w.heap.size, o, none⟩ = w'.cell? ⟨w.heap.size, o, none⟩ := fun o => by
    have q : ∀ (W : World) (i : Nat) (v : Value), (W.setCell ⟨b, i, none⟩ v).cell? ⟨w.heap.size, o, none⟩ = W.cell? ⟨w.heap.size, o, none⟩ := fun W i v => World.cell?_of_block (Below.heap_setCell _ _ _ _ hn)
    rw [q, q, q, q, q, q, q]
  exact ⟨(e 0).trans c0, (e 1).trans c1, (e 2).trans c2, (e 3).trans c3, (e 4).trans c4, by simpa [World.setCell] using c5, bset7R c6 hl⟩
theorem BoxL.set7R {w : World} {b : Nat} {x0 x1 x2 x3 x4 x5 x6 v0 v1 v2 v3 v4 v5 v6 : Value} (h : BoxL w b [x0, x1, x2, x3, x4, x5, x6]) : BoxL (((((((w.setCell ⟨b, 0, none⟩ (v0)).setCell ⟨b, 1, none⟩ (v1)).setCell ⟨b, 2, none⟩ (v2)).setCell ⟨b, 3, none⟩ (v3)).setCell ⟨b, 4, none⟩ (v4)).setCell ⟨b, 5, none⟩ (v5)).setCell ⟨b, 6, none⟩ (v6)) b [v0, v1, v2, v3, v4, v5, v6] :=
  BoxL.setR (i := 6) (v := v6) (BoxL.setR (i := 5) (v := v5) (BoxL.setR (i := 4) (v := v4) (BoxL.setR (i := 3) (v := v3) (BoxL.setR (i := 2) (v := v2) (BoxL.setR (i := 1) (v := v1) (BoxL.setR (i := 0) (v := v0) h rfl) rfl) rfl) rfl) rfl) rfl) rfl
/-- The sums' box and a box with seven cells. -/
def LsK (w : World) (f : Ft) (b : Nat) (w' : World) : Prop := FtK w f w' ∧ ∃ u0 u1 u2 u3 u4 u5 u6, BoxL w' b [u0, u1, u2, u3, u4, u5, u6]
theorem LsK.keep {w : World} {f : Ft} {b : Nat} {w' x : World} (hb : Below w'.heap.size w' x) (H : LsK w f b w') : LsK w f b x := by
  obtain ⟨h1, u0, u1, u2, u3, u4, u5, u6, h2⟩ := H
  exact ⟨h1.keep hb, u0, u1, u2, u3, u4, u5, u6, h2.keep hb⟩
theorem LsK.set7 {w : World} {f : Ft} {w' : World} {b : Nat} {v0 v1 v2 v3 v4 v5 v6 : Value} (hn : w.heap.size ≠ b) (hl : w.heap.size ≤ b) (H : LsK w f b w') : LsK w f b (((((((w'.setCell ⟨b, 0, none⟩ (v0)).setCell ⟨b, 1, none⟩ (v1)).setCell ⟨b, 2, none⟩ (v2)).setCell ⟨b, 3, none⟩ (v3)).setCell ⟨b, 4, none⟩ (v4)).setCell ⟨b, 5, none⟩ (v5)).setCell ⟨b, 6, none⟩ (v6)) := by
  obtain ⟨h1, u0, u1, u2, u3, u4, u5, u6, h2⟩ := H
  exact ⟨h1.set7 hn hl, _, _, _, _, _, _, _, h2.set7R⟩
set_option maxRecDepth 100000 in
set_option maxHeartbeats 4000000 in
theorem lineOf_no (f : Ft) (w : World) (h1 : okFt f = false) :
    Calls Try.prog 69 #[.agg #[.int .i64 f.n, .int .i64 f.x, .int .i64 f.y, .int .i64 f.xx, .int .i64 f.xy]] w (LzC 1 w) := by
  have H0 := Lib.hid (LnH.new w f 41 83)
  have CO := Lib.hid (fun W => ValidFitI_any f.n f.x f.y f.xx f.xy W)
  rw [show okFt ⟨f.n, f.x, f.y, f.xx, f.xy⟩ = false from h1] at CO
  go_enter Try.func69, Try.ntmps69
  obtain ⟨c0, c1, c2, c3, c4, c5⟩ := H0.out.1.c5
  go_wp2_with fail
  refine (CO.out _).mono ?_
  rintro e w1 ⟨rfl, hb⟩
  have H1 := Lib.hid (H0.out.keep hb)
  clear hb H0 c0 c1 c2 c3 c4 c5
  obtain ⟨c0, c1, c2, c3, c4, c5⟩ := H1.out.1.c5
  obtain ⟨r0, r1, r2, r3, r4, r5, r6, r7⟩ := H1.out.2.1.c7
  obtain ⟨f0, f1, f2, f3, f4, f5, f6⟩ := H1.out.2.1.f7
  go_wp2_with fail
  exact bodyPost_ret (v := .tuple #[.agg #[.int .i64 0, .int .i64 0, .int .i64 0, .int .i64 0, .int .i64 0, .int .i64 0, .int .i64 0], .int .i64 1]) (by simp [results, Try.results69, go_sem, r0, r1, r2, r3, r4, r5, r6]) rfl ⟨rfl, bset7R H1.out.2.2 (Nat.le_succ _)⟩
set_option maxRecDepth 100000 in
set_option maxHeartbeats 4000000 in
theorem lineOf_flat (f : Ft) (w : World) (h1 : okFt f = true) (h2 : dF f = 0) :
    Calls Try.prog 69 #[.agg #[.int .i64 f.n, .int .i64 f.x, .int .i64 f.y, .int .i64 f.xx, .int .i64 f.xy]] w (LzC 6 w) := by
  have H0 := Lib.hid (LnH.new w f 41 83)
  have CO := Lib.hid (fun W => ValidFitI_any f.n f.x f.y f.xx f.xy W)
  rw [show okFt ⟨f.n, f.x, f.y, f.xx, f.xy⟩ = true from h1] at CO
  have CS := Lib.hid (fun W => spreadF f (okFt_bd h1) W)
  rw [h2] at CS
  go_enter Try.func69, Try.ntmps69
  obtain ⟨c0, c1, c2, c3, c4, c5⟩ := H0.out.1.c5
  go_wp2_with fail
  refine (CO.out _).mono ?_
  rintro e w1 ⟨rfl, hb⟩
  have H1 := Lib.hid (H0.out.keep hb)
  clear hb H0 c0 c1 c2 c3 c4 c5
  obtain ⟨c0, c1, c2, c3, c4, c5⟩ := H1.out.1.c5
  go_wp2_with fail
  refine (CS.out _).mono ?_
  rintro e w2 ⟨rfl, hb⟩
  have H2 := Lib.hid (H1.out.keep hb)
  clear hb H1 c0 c1 c2 c3 c4 c5
  obtain ⟨c0, c1, c2, c3, c4, c5⟩ := H2.out.1.c5
  obtain ⟨r0, r1, r2, r3, r4, r5, r6, r7⟩ := H2.out.2.1.c7
  obtain ⟨f0, f1, f2, f3, f4, f5, f6⟩ := H2.out.2.1.f7
  go_wp2_with fail
  exact bodyPost_ret (v := .tuple #[.agg #[.int .i64 0, .int .i64 0, .int .i64 0, .int .i64 0, .int .i64 0, .int .i64 0, .int .i64 0], .int .i64 6]) (by simp [results, Try.results69, go_sem, r0, r1, r2, r3, r4, r5, r6]) rfl ⟨rfl, bset7R H2.out.2.2 (Nat.le_succ _)⟩
set_option maxRecDepth 100000 in
set_option maxHeartbeats 4000000 in
theorem lineOf_yes (f : Ft) (w : World) (h1 : okFt f = true) (h2 : ¬ dF f = 0) :
    Calls Try.prog 69 #[.agg #[.int .i64 f.n, .int .i64 f.x, .int .i64 f.y, .int .i64 f.xx, .int .i64 f.xy]] w (LnC f 0 w) := by
  have H0 := Lib.hid (LnH.new w f 41 83)
  have CO := Lib.hid (fun W => ValidFitI_any f.n f.x f.y f.xx f.xy W)
  rw [show okFt ⟨f.n, f.x, f.y, f.xx, f.xy⟩ = true from h1] at CO
  have CS := Lib.hid (fun W => spreadF f (okFt_bd h1) W)
  obtain ⟨a1, a2, a3, a4, a5, a6, a7⟩ := okFt_bd h1
  have p1 := mulB (a := f.n) (b := f.xy) (A := 60) (B := 60000000000) (by omega) (by omega) (by omega) (by omega)
  have p2 := mulB (a := f.x) (b := f.y) (A := 600000) (B := 6000000) (by omega) (by omega) (by omega) (by omega)
  have hz : (dF f == 0) = false := by simpa using h2
  have g1 : IntKind.i64.wrap (f.n * f.xy) = f.n * f.xy := IntWalk.i64_in _ (by omega)
  have g2 : IntKind.i64.wrap (f.x * f.y) = f.x * f.y := IntWalk.i64_in _ (by omega)
  have g3 : IntKind.i64.wrap (f.n * f.xy - f.x * f.y) = nF f := IntWalk.i64_in _ (by omega)
  clear a1 a2 a3 a4 a5 a6 a7 p1 p2
  go_enter Try.func69, Try.ntmps69
  obtain ⟨c0, c1, c2, c3, c4, c5⟩ := H0.out.1.c5
  go_wp2_with fail
  refine (CO.out _).mono ?_
  rintro e w1 ⟨rfl, hb⟩
  have H1 := Lib.hid (H0.out.keep hb)
  clear hb H0 c0 c1 c2 c3 c4 c5
  obtain ⟨c0, c1, c2, c3, c4, c5⟩ := H1.out.1.c5
  go_wp2_with fail
  refine (CS.out _).mono ?_
  rintro e w2 ⟨rfl, hb⟩
  have H2 := Lib.hid (H1.out.keep hb)
  clear hb H1 c0 c1 c2 c3 c4 c5
  obtain ⟨c0, c1, c2, c3, c4, c5⟩ := H2.out.1.c5
  have HK := FtK.of H2.out.1 H2.out.2.2
  have HB := Lib.hid H2.out.2.1
  have hn : w.heap.size ≠ w.heap.size + 1 := by omega
  have hl : w.heap.size ≤ w.heap.size + 1 := by omega
  clear H2
  go_wp2_with fail
  generalize w.heap.size + 1 = b2 at *
  generalize w2 = W0 at *
  have HKd : W0.drew.cell? ⟨w.heap.size, 0, none⟩ = some (.int .i64 f.n) ∧ W0.drew.cell? ⟨w.heap.size, 1, none⟩ = some (.int .i64 f.x) ∧ W0.drew.cell? ⟨w.heap.size, 2, none⟩ = some (.int .i64 f.y) ∧ W0.drew.cell? ⟨w.heap.size, 3, none⟩ = some (.int .i64 f.xx) ∧ W0.drew.cell? ⟨w.heap.size, 4, none⟩ = some (.int .i64 f.xy) ∧ w.heap.size < W0.drew.heap.size ∧ Below w.heap.size w W0.drew := HK.drew
  clear HK
  refine wp_region_held_drew (S := LsK w f b2) (by kernel_rfl) ⟨HKd, _, _, _, _, _, _, _, HB.out.keep (bR _).drew⟩ (fun hHeld => ?_)
  clear HKd
  refine wpAnyH_take (i := 0) (oi := { dst := some 14, op := Op.load 41 (Operand.tmp 1), type := 41, pos := "l14_records.go:226", after := #[], guard := none }) (v := ?_) rfl (by kernel_rfl) (by kernel_rfl) (by kernel_rfl) (fun _ _ _ h => h) (Or.inl ⟨by rfl, ?_⟩) (by assumption) ?_
  rotate_left 1
  · ((intro w hSw; obtain ⟨⟨s1, s2, s3, s4, s5, s6, s7⟩, _⟩ := hSw; go_simp; try with_reducible rfl))
  (try simp only [Act.put, List.setIfInBounds_toArray, List.set_cons_zero, List.set_cons_succ])
  refine wpAnyH_take (i := 1) (oi := { dst := some 15, op := Op.fieldAddr 41 (Operand.tmp 1) 0, type := 0, pos := "l14_records.go:226", after := #[], guard := none }) (v := ?_) rfl (by kernel_rfl) (by kernel_rfl) (by kernel_rfl) (fun _ _ _ h => h) (Or.inl ⟨by rfl, ?_⟩) (by assumption) ?_
  rotate_left 1
  · ((intro w hSw; obtain ⟨⟨s1, s2, s3, s4, s5, s6, s7⟩, _⟩ := hSw; go_simp; try with_reducible rfl))
  (try simp only [Act.put, List.setIfInBounds_toArray, List.set_cons_zero, List.set_cons_succ])
  refine wpAnyH_take (i := 2) (oi := { dst := some 16, op := Op.load 2 (Operand.tmp 15), type := 2, pos := "l14_records.go:226", after := #[{ on := 1, ground := Ground.data }], guard := none }) (v := ?_) rfl (by kernel_rfl) (by kernel_rfl) (by kernel_rfl) (fun _ _ _ h => h) (Or.inl ⟨by rfl, ?_⟩) (by assumption) ?_
  rotate_left 1
  · ((intro w hSw; obtain ⟨⟨s1, s2, s3, s4, s5, s6, s7⟩, _⟩ := hSw; go_simp; try with_reducible rfl))
  (try simp only [Act.put, List.setIfInBounds_toArray, List.set_cons_zero, List.set_cons_succ])
  refine wpAnyH_take (i := 3) (oi := { dst := some 17, op := Op.fieldAddr 41 (Operand.tmp 1) 4, type := 0, pos := "l14_records.go:226", after := #[], guard := none }) (v := ?_) rfl (by kernel_rfl) (by kernel_rfl) (by kernel_rfl) (fun _ _ _ h => h) (Or.inl ⟨by rfl, ?_⟩) (by assumption) ?_
  rotate_left 1
  · ((intro w hSw; obtain ⟨⟨s1, s2, s3, s4, s5, s6, s7⟩, _⟩ := hSw; go_simp; try with_reducible rfl))
  (try simp only [Act.put, List.setIfInBounds_toArray, List.set_cons_zero, List.set_cons_succ])
  refine wpAnyH_take (i := 4) (oi := { dst := some 18, op := Op.load 2 (Operand.tmp 17), type := 2, pos := "l14_records.go:226", after := #[{ on := 3, ground := Ground.data }], guard := none }) (v := ?_) rfl (by kernel_rfl) (by kernel_rfl) (by kernel_rfl) (fun _ _ _ h => h) (Or.inl ⟨by rfl, ?_⟩) (by assumption) ?_
  rotate_left 1
  · ((intro w hSw; obtain ⟨⟨s1, s2, s3, s4, s5, s6, s7⟩, _⟩ := hSw; go_simp; try with_reducible rfl))
  (try simp only [Act.put, List.setIfInBounds_toArray, List.set_cons_zero, List.set_cons_succ])
  refine wpAnyH_take (i := 5) (oi := { dst := some 19, op := Op.binOp BinOp.mul 2 (Operand.tmp 16) (Operand.tmp 18) 2, type := 2, pos := "l14_records.go:226", after := #[{ on := 2, ground := Ground.data }, { on := 4, ground := Ground.data }], guard := none }) (v := ?_) rfl (by kernel_rfl) (by kernel_rfl) (by kernel_rfl) (fun _ _ _ h => h) (Or.inl ⟨by rfl, ?_⟩) (by assumption) ?_
  rotate_left 1
  · ((intro w hSw; obtain ⟨⟨s1, s2, s3, s4, s5, s6, s7⟩, _⟩ := hSw; go_simp; try with_reducible rfl))
  (try simp only [Act.put, List.setIfInBounds_toArray, List.set_cons_zero, List.set_cons_succ])
  refine wpAnyH_take (i := 6) (oi := { dst := some 20, op := Op.fieldAddr 41 (Operand.tmp 1) 1, type := 0, pos := "l14_records.go:226", after := #[], guard := none }) (v := ?_) rfl (by kernel_rfl) (by kernel_rfl) (by kernel_rfl) (fun _ _ _ h => h) (Or.inl ⟨by rfl, ?_⟩) (by assumption) ?_
  rotate_left 1
  · ((intro w hSw; obtain ⟨⟨s1, s2, s3, s4, s5, s6, s7⟩, _⟩ := hSw; go_simp; try with_reducible rfl))
  (try simp only [Act.put, List.setIfInBounds_toArray, List.set_cons_zero, List.set_cons_succ])
  refine wpAnyH_take (i := 7) (oi := { dst := some 21, op := Op.load 2 (Operand.tmp 20), type := 2, pos := "l14_records.go:226", after := #[{ on := 6, ground := Ground.data }], guard := none }) (v := ?_) rfl (by kernel_rfl) (by kernel_rfl) (by kernel_rfl) (fun _ _ _ h => h) (Or.inl ⟨by rfl, ?_⟩) (by assumption) ?_
  rotate_left 1
  · ((intro w hSw; obtain ⟨⟨s1, s2, s3, s4, s5, s6, s7⟩, _⟩ := hSw; go_simp; try with_reducible rfl))
  (try simp only [Act.put, List.setIfInBounds_toArray, List.set_cons_zero, List.set_cons_succ])
  refine wpAnyH_take (i := 8) (oi := { dst := some 22, op := Op.fieldAddr 41 (Operand.tmp 1) 2, type := 0, pos := "l14_records.go:226", after := #[], guard := none }) (v := ?_) rfl (by kernel_rfl) (by kernel_rfl) (by kernel_rfl) (fun _ _ _ h => h) (Or.inl ⟨by rfl, ?_⟩) (by assumption) ?_
  rotate_left 1
  · ((intro w hSw; obtain ⟨⟨s1, s2, s3, s4, s5, s6, s7⟩, _⟩ := hSw; go_simp; try with_reducible rfl))
  (try simp only [Act.put, List.setIfInBounds_toArray, List.set_cons_zero, List.set_cons_succ])
  refine wpAnyH_take (i := 9) (oi := { dst := some 23, op := Op.load 2 (Operand.tmp 22), type := 2, pos := "l14_records.go:226", after := #[{ on := 8, ground := Ground.data }], guard := none }) (v := ?_) rfl (by kernel_rfl) (by kernel_rfl) (by kernel_rfl) (fun _ _ _ h => h) (Or.inl ⟨by rfl, ?_⟩) (by assumption) ?_
  rotate_left 1
  · ((intro w hSw; obtain ⟨⟨s1, s2, s3, s4, s5, s6, s7⟩, _⟩ := hSw; go_simp; try with_reducible rfl))
  (try simp only [Act.put, List.setIfInBounds_toArray, List.set_cons_zero, List.set_cons_succ])
  refine wpAnyH_take (i := 10) (oi := { dst := some 24, op := Op.binOp BinOp.mul 2 (Operand.tmp 21) (Operand.tmp 23) 2, type := 2, pos := "l14_records.go:226", after := #[{ on := 7, ground := Ground.data }, { on := 9, ground := Ground.data }], guard := none }) (v := ?_) rfl (by kernel_rfl) (by kernel_rfl) (by kernel_rfl) (fun _ _ _ h => h) (Or.inl ⟨by rfl, ?_⟩) (by assumption) ?_
  rotate_left 1
  · ((intro w hSw; obtain ⟨⟨s1, s2, s3, s4, s5, s6, s7⟩, _⟩ := hSw; go_simp; try with_reducible rfl))
  (try simp only [Act.put, List.setIfInBounds_toArray, List.set_cons_zero, List.set_cons_succ])
  refine wpAnyH_take (i := 11) (oi := { dst := some 25, op := Op.binOp BinOp.sub 2 (Operand.tmp 19) (Operand.tmp 24) 2, type := 2, pos := "l14_records.go:226", after := #[{ on := 5, ground := Ground.data }, { on := 10, ground := Ground.data }], guard := none }) (v := ?_) rfl (by kernel_rfl) (by kernel_rfl) (by kernel_rfl) (fun _ _ _ h => h) (Or.inl ⟨by rfl, ?_⟩) (by assumption) ?_
  rotate_left 1
  · ((intro w hSw; obtain ⟨⟨s1, s2, s3, s4, s5, s6, s7⟩, _⟩ := hSw; go_simp; try with_reducible rfl))
  (try simp only [Act.put, List.setIfInBounds_toArray, List.set_cons_zero, List.set_cons_succ])
  refine wpAnyH_take (i := 12) (oi := { dst := some 26, op := Op.load 41 (Operand.tmp 1), type := 41, pos := "l14_records.go:226", after := #[], guard := none }) (v := ?_) rfl (by kernel_rfl) (by kernel_rfl) (by kernel_rfl) (fun _ _ _ h => h) (Or.inl ⟨by rfl, ?_⟩) (by assumption) ?_
  rotate_left 1
  · ((intro w hSw; obtain ⟨⟨s1, s2, s3, s4, s5, s6, s7⟩, _⟩ := hSw; go_simp; try with_reducible rfl))
  (try simp only [Act.put, List.setIfInBounds_toArray, List.set_cons_zero, List.set_cons_succ])
  refine wpAnyH_ready (rs := [13]) (by kernel_rfl) (by simp) ?_
  refine AllReadyH.cons (o := { dst := some 27, op := Op.call { callee := Callee.value (Operand.func 68), args := #[Operand.tmp 26], argTypes := #[41] }, type := 2, pos := "l14_records.go:226", after := #[{ on := 12, ground := Ground.data }], guard := none }) rfl (fun K hK => ?_) AllReadyH.nil
  go_simp
  go_at_call 68
  refine (CS.out _).mono ?_
  rintro e w' ⟨rfl, hb⟩
  refine hK.out _ _ (LsK.keep hb hHeld) (fun hHeld2 => ?_)
  clear hK K hHeld hb
  have hHeld := hHeld2
  clear hHeld2
  (try simp only [Act.put, List.setIfInBounds_toArray, List.set_cons_zero, List.set_cons_succ])
  refine wpAnyH_take (i := 14) (oi := { dst := some 28, op := Op.build 83 #[(0, Operand.tmp 14), (1, Operand.tmp 25), (2, Operand.tmp 27)], type := 83, pos := "l14_records.go:226", after := #[{ on := 0, ground := Ground.data }, { on := 11, ground := Ground.data }, { on := 13, ground := Ground.data }], guard := none }) (v := ?_) rfl (by kernel_rfl) (by kernel_rfl) (by kernel_rfl) (fun _ _ _ h => h) (Or.inl ⟨by rfl, ?_⟩) (by assumption) ?_
  rotate_left 1
  · ((intro w hSw; obtain ⟨⟨s1, s2, s3, s4, s5, s6, s7⟩, _⟩ := hSw; go_simp; try with_reducible rfl))
  (try simp only [Act.put, List.setIfInBounds_toArray, List.set_cons_zero, List.set_cons_succ])
  refine wpAnyH_ready (rs := [15]) (by kernel_rfl) (by simp) ?_
  refine AllReadyH.cons (o := { dst := none, op := Op.store 83 (Operand.tmp 2) (Operand.tmp 28), type := 0, pos := "l14_records.go:226", after := #[{ on := 14, ground := Ground.data }, { on := 13, ground := Ground.chain }, { on := 0, ground := Ground.phase }, { on := 1, ground := Ground.phase }, { on := 2, ground := Ground.phase }, { on := 3, ground := Ground.phase }, { on := 4, ground := Ground.phase }, { on := 5, ground := Ground.phase }, { on := 6, ground := Ground.phase }, { on := 7, ground := Ground.phase }, { on := 8, ground := Ground.phase }, { on := 9, ground := Ground.phase }, { on := 10, ground := Ground.phase }, { on := 11, ground := Ground.phase }, { on := 12, ground := Ground.phase }, { on := 13, ground := Ground.phase }, { on := 14, ground := Ground.phase }], guard := none }) rfl (fun K hK => ?_) AllReadyH.nil
  obtain ⟨u0, u1, u2, u3, u4, u5, u6, hbx⟩ := hHeld.2
  obtain ⟨r0, r1, r2, r3, r4, r5, r6, r7⟩ := hbx.c7
  obtain ⟨f0, f1, f2, f3, f4, f5, f6⟩ := hbx.f7
  go_simp
  refine hK.out _ _ (LsK.set7 hn hl hHeld) (fun hHeld2 => ?_)
  have ZF := BoxL.set7R (v0 := .int .i64 f.n) (v1 := .int .i64 f.x) (v2 := .int .i64 f.y) (v3 := .int .i64 f.xx) (v4 := .int .i64 f.xy) (v5 := .int .i64 (nF f)) (v6 := .int .i64 (dF f)) hbx
  clear hK K hHeld hbx
  have hHeld := hHeld2
  clear hHeld2 r0 r1 r2 r3 r4 r5 r6 r7 f0 f1 f2 f3 f4 f5 f6
  (try simp only [Act.put, List.setIfInBounds_toArray, List.set_cons_zero, List.set_cons_succ])
  refine wpAnyH_take (i := 16) (oi := { dst := some 3, op := Op.assign (Operand.const (Value.int IntKind.i64 0)), type := 2, pos := "l14_records.go:226", after := #[{ on := 15, ground := Ground.chain }, { on := 0, ground := Ground.phase }, { on := 1, ground := Ground.phase }, { on := 2, ground := Ground.phase }, { on := 3, ground := Ground.phase }, { on := 4, ground := Ground.phase }, { on := 5, ground := Ground.phase }, { on := 6, ground := Ground.phase }, { on := 7, ground := Ground.phase }, { on := 8, ground := Ground.phase }, { on := 9, ground := Ground.phase }, { on := 10, ground := Ground.phase }, { on := 11, ground := Ground.phase }, { on := 12, ground := Ground.phase }, { on := 13, ground := Ground.phase }, { on := 14, ground := Ground.phase }, { on := 15, ground := Ground.phase }], guard := none }) (v := ?_) rfl (by kernel_rfl) (by kernel_rfl) (by kernel_rfl) (fun _ _ _ h => h) (Or.inl ⟨by rfl, ?_⟩) (by assumption) ?_
  rotate_left 1
  · ((intro w hSw; obtain ⟨⟨s1, s2, s3, s4, s5, s6, s7⟩, _⟩ := hSw; go_simp; try with_reducible rfl))
  (try simp only [Act.put, List.setIfInBounds_toArray, List.set_cons_zero, List.set_cons_succ])
  refine wpAnyH_done (by kernel_rfl) ?_ _

  have L := Lib.hid (FtK.bel hHeld.1)
  obtain ⟨r0, r1, r2, r3, r4, r5, r6, r7⟩ := ZF.c7
  clear hHeld ZF
  go_wp2_with fail
  exact bodyPost_ret (v := .tuple #[.agg #[.int .i64 f.n, .int .i64 f.x, .int .i64 f.y, .int .i64 f.xx, .int .i64 f.xy, .int .i64 (nF f), .int .i64 (dF f)], .int .i64 0]) (by simp [results, Try.results69, go_sem, r0, r1, r2, r3, r4, r5, r6]) rfl ⟨rfl, L.out⟩
end Go.Proofs.Ytmmmbchlkjljaaa

/-
  Moved plates: the program's side: impl.Plate.move, movedPlate.
-/
import Derived.Test.YtmhheecjpalajaaPlT
import Derived.Test.YtmhheecjpalajaaPlY
import Derived.Test.YtmhheecjpalajaaPlJ
namespace Go.Proofs.Ytmhheecjpalajaa
open Go.RowKit Go.Joins

theorem mvL_all (W H m : Int) (ss : List Sit) : mvL W H m ss ss.length = ss.map (mvS W H m) := by simp [mvL]
theorem swS_map (W H : Int) (ss : List Sit) : (ss.map swS).map (mvS H W 1) = ss.map (mvS W H 2) := by
  rw [List.map_map]
  exact List.map_congr_left fun s _ => swS_mv W H s
theorem siAt_map {f : Sit → Sit} {ss : List Sit} {i : Nat} (hi : i < ss.length) : siAt (ss.map f) i = f (siAt ss i) := by
  unfold siAt
  rw [List.getElem?_map, List.getElem?_eq_getElem hi]; rfl
/-- What move leaves. -/
def MvPost (w : World) (B b : Nat) (W H M G : Int) (v : Value) (f : Sit → Sit) (ss : List Sit) (e : Ending) (w' : World) : Prop :=
  e = .returned (.tuple #[]) ∧ BoxL w' b [.int .i64 W, .int .i64 H, .int .i64 M, .int .i64 G, v] ∧ w'.ownsRow B 88 5 v ss.length (siC (ss.map f)) ∧ Below b w w' ∧ KeepB B b w w'
theorem move0_any (w : World) (B b : Nat) (W H M G : Int) (v : Value) (ss : List Sit) (hX : BoxL w b [.int .i64 W, .int .i64 H, .int .i64 M, .int .i64 G, v]) (hO : w.ownsRow B 88 5 v ss.length (siC ss)) (hB : B ≤ w.heap.size) (hb : b < B) (hl : ss.length ≤ 20) (hW : 1 ≤ W ∧ W ≤ 10000) (hs : ∀ i, i < ss.length → 0 ≤ (siAt ss i).x ∧ (siAt ss i).x ≤ W) :
    Calls Try.prog 51 #[.pointer (some ⟨b, 0, none⟩), .int .i64 0] w (MvPost w B b W H M G v (mvS W H 1) ss) := by
  have HC := Lib.hid (mirror_any w B b W H M G v ss hX hO hB hb hl hW hs)
  clear hX hO hs
  go_enter Try.func51, Try.ntmps51
  go_wp2_with fail
  refine HC.out.mono ?_
  rintro e w1 ⟨rfl, h1, h2, h3⟩
  have K := Lib.hid (And.intro h1 (And.intro h2 h3))
  clear h1 h2 h3
  go_wp2_with fail
  go_end0
  exact ⟨rfl, K.out.1, K.out.2.1, K.out.2.2.mono (by omega), fun k hk _ => K.out.2.2.block k hk⟩
theorem move1_any (w : World) (B b : Nat) (W H M G : Int) (v : Value) (ss : List Sit) (hX : BoxL w b [.int .i64 W, .int .i64 H, .int .i64 M, .int .i64 G, v]) (hO : w.ownsRow B 88 5 v ss.length (siC ss)) (hB : B ≤ w.heap.size) (hb : b < B) (hl : ss.length ≤ 20) (hH : 1 ≤ H ∧ H ≤ 10000) (hs : ∀ i, i < ss.length → 0 ≤ (siAt ss i).y ∧ (siAt ss i).y ≤ H) :
    Calls Try.prog 51 #[.pointer (some ⟨b, 0, none⟩), .int .i64 1] w (MvPost w B b H W M G v (mvS W H 2) ss) := by
  have HC := Lib.hid (exchange_any w B b W H M G v ss hX hO hB hb hl)
  have HS := Lib.hid hs
  clear hX hO hs
  go_enter Try.func51, Try.ntmps51
  go_wp2_with fail
  refine HC.out.mono ?_
  rintro e w1 ⟨rfl, h1, h2, h3, h4⟩
  have K1 := Lib.hid h4
  have hsz : B ≤ w1.heap.size := Nat.le_trans hB h3.size
  have HD := Lib.hid (mirror_any w1 B b H W M G v (ss.map swS) h1 (by rw [List.length_map]; exact h2) hsz hb (by rw [List.length_map]; exact hl) hH (fun i hi => by
    rw [List.length_map] at hi
    rw [siAt_map hi]
    exact HS.out i hi))
  have L1 := Lib.hid h3
  clear h1 h2 h3 h4 HC
  go_wp2_with fail
  refine HD.out.mono ?_
  rintro e w2 ⟨rfl, h1, h2, h3⟩
  rw [swS_map, List.length_map] at h2
  have K := Lib.hid (And.intro h1 (And.intro h2 h3))
  clear h1 h2 h3
  go_wp2_with fail
  go_end0
  exact ⟨rfl, K.out.1, K.out.2.1, L1.out.trans (K.out.2.2.mono (by omega)), fun k hk hn => (K.out.2.2.block k hk).trans (K1.out k hk hn)⟩
/-- The sites that lie in a block, as a source. -/
theorem sites_src {W : World} {g : Nat} {ss : List Sit} (h : SitesAt W g ss) : ∀ (j : Nat) (u : Value), (siC ss)[j]? = some u → W.cell? ((⟨g, 0, none⟩ : Addr).add j) = some u := by
  intro j u hj
  have hl : j < ss.length * 5 := by
    by_cases hl : j < ss.length * 5
    · exact hl
    · rw [List.getElem?_eq_none (by rw [siC_len]; omega)] at hj; cases hj
  obtain ⟨a0, a1, a2, a3, a4⟩ := siC_at ss (j / 5) (by omega)
  obtain ⟨c0, c1, c2, c3, c4, _⟩ := h (j / 5) (by omega)
  have : j = j / 5 * 5 ∨ j = j / 5 * 5 + 1 ∨ j = j / 5 * 5 + 2 ∨ j = j / 5 * 5 + 3 ∨ j = j / 5 * 5 + 4 := by omega
  have ea : (⟨g, 0, none⟩ : Addr).add j = ⟨g, j, none⟩ := by simp [Addr.add]; intro h; exact h.symm
  rw [ea]
  rcases this with e | e | e | e | e
  · rw [e] at hj ⊢; rw [a0] at hj; rw [c0]; exact hj
  · rw [e] at hj ⊢; rw [a1] at hj; rw [c1]; exact hj
  · rw [e] at hj ⊢; rw [a2] at hj; rw [c2]; exact hj
  · rw [e] at hj ⊢; rw [a3] at hj; rw [c3]; exact hj
  · rw [e] at hj ⊢; rw [a4] at hj; rw [c4]; exact hj
/-- A plate and a code are returned. -/
def MpRet (p : Pl4) (m : Int) (ss : List Sit) (w : World) (e : Ending) (w' : World) : Prop :=
  (okPl p.W p.H p.M p.G ss = true ∧ ∃ u, e = .returned (.tuple #[plV (mvP p m) u, .int .i64 0]) ∧ OwSi w.heap.size w' u (ss.map (mvS p.W p.H m)) ∧ Below w.heap.size w w') ∨
  (okPl p.W p.H p.M p.G ss = false ∧ e = .returned (.tuple #[plV ⟨0, 0, 0, 0⟩ (.slice none 0 0), .int .i64 1]) ∧ Below w.heap.size w w')
set_option maxRecDepth 100000 in
set_option maxHeartbeats 4000000 in
theorem movedPlate0_any (p : Pl4) (ss : List Sit) (g cap : Nat) (w : World) (ha : SlSi w (.slice (some ⟨g, 0, none⟩) ss.length cap) ss) (hg : g < w.heap.size) (hat : SitesAt w g ss) :
    Calls Try.prog 28 #[plV p (.slice (some ⟨g, 0, none⟩) ss.length cap), .int .i64 0] w (MpRet p 1 ss w) := by
  obtain ⟨W, H, M, G⟩ := p
  unfold plV
  obtain ⟨i0, hi, hz0, hz1, hz2⟩ := info_parts infoSit
  have VP := Lib.hid (fun W' (h : SlSi W' (.slice (some ⟨g, 0, none⟩) ss.length cap) ss) => ValidPlateI_any ⟨W, H, M, G⟩ ss (.slice (some ⟨g, 0, none⟩) ss.length cap) W' h)
  unfold plV at VP
  have hcap := ha.2
  have X0 := Lib.hid ((BoxL.new w [.int .i64 W, .int .i64 H, .int .i64 M, .int .i64 G, .slice (some ⟨g, 0, none⟩) ss.length cap] 28).alloc (.cells #[.int .i64 0, .int .i64 0, .int .i64 0, .int .i64 0, .slice none 0 0] 28))
  have R0 := Lib.hid (BoxL.at_ (w := w.alloc (.cells #[.int .i64 W, .int .i64 H, .int .i64 M, .int .i64 G, .slice (some ⟨g, 0, none⟩) ss.length cap] 28)) (b := w.heap.size + 1) (vs := [.int .i64 0, .int .i64 0, .int .i64 0, .int .i64 0, .slice none 0 0]) (T := 28) (by simp))
  have L0 := Lib.hid (bA (bA (bR w) (.cells #[.int .i64 W, .int .i64 H, .int .i64 M, .int .i64 G, .slice (some ⟨g, 0, none⟩) ss.length cap] 28)) (.cells #[.int .i64 0, .int .i64 0, .int .i64 0, .int .i64 0, .slice none 0 0] 28))
  have A0 := Lib.hid (ha.keep L0.out)
  have T0 := Lib.hid (hat.keep hg L0.out)
  have hnm : ∀ i, i < ss.length → (siAt ss i).nm.size ≤ maxLen := fun i hi' => (hat i hi').2.2.2.2.2
  have hl0 := ha.1
  have hW0 : ((w.alloc (.cells #[.int .i64 W, .int .i64 H, .int .i64 M, .int .i64 G, .slice (some ⟨g, 0, none⟩) ss.length cap] 28)).alloc (.cells #[.int .i64 0, .int .i64 0, .int .i64 0, .int .i64 0, .slice none 0 0] 28)).heap.size = w.heap.size + 1 + 1 := by simp
  clear ha hat
  cases ho : okPl W H M G ss
  · go_enter Try.func28, Try.ntmps28
    go_wp2_with fail
    generalize (w.alloc (.cells #[.int .i64 W, .int .i64 H, .int .i64 M, .int .i64 G, .slice (some ⟨g, 0, none⟩) ss.length cap] 28)).alloc (.cells #[.int .i64 0, .int .i64 0, .int .i64 0, .int .i64 0, .slice none 0 0] 28) = W0 at *
    refine (VP.out _ A0.out).mono ?_
    rw [ho]
    rintro e w1 ⟨rfl, hb⟩
    have L1 := Lib.hid (bT L0.out hb)
    obtain ⟨q0, q1, q2, q3, q4, q5⟩ := (R0.out.keep hb).c5
    obtain ⟨r0, r1, r2, r3, r4⟩ := (R0.out.keep hb).f5
    clear hb
    generalize hb4 : w.heap.size + 1 = b4 at *
    have hw4 : w.heap.size ≤ b4 := by omega
    go_wp2_with fail
    refine bodyPost_ret (v := .tuple #[.agg #[.int .i64 0, .int .i64 0, .int .i64 0, .int .i64 0, .slice none 0 0], .int .i64 1]) ?_ rfl (.inr ⟨ho, rfl, bsetB (bsetB (bsetB (bsetB (bsetB L1.out hw4) hw4) hw4) hw4) hw4⟩)
    simp [results, Try.results28, go_sem, q0, q1, q2, q3, q4]
  · obtain ⟨hWW, hHH, _, _, h20, hsite⟩ := okPl_parts ho
    have HB := Lib.hid (fun i (hi' : i < ss.length) => siB_bd (okPl_site ho hi'))
    have HOK := Lib.hid ho
    go_enter Try.func28, Try.ntmps28
    go_wp2_with fail
    generalize (w.alloc (.cells #[.int .i64 W, .int .i64 H, .int .i64 M, .int .i64 G, .slice (some ⟨g, 0, none⟩) ss.length cap] 28)).alloc (.cells #[.int .i64 0, .int .i64 0, .int .i64 0, .int .i64 0, .slice none 0 0] 28) = W0 at *
    refine (VP.out _ A0.out).mono ?_
    rw [ho]
    rintro e w1 ⟨rfl, hb⟩
    have L1 := Lib.hid (bT L0.out hb)
    have X1 := Lib.hid (X0.out.keep hb)
    have R1 := Lib.hid (R0.out.keep hb)
    have T1 := Lib.hid (T0.out.keep (by omega) hb)
    have hsz1 := hb.size
    clear hb ho X0 R0 A0 T0 L0
    obtain ⟨x0, x1, x2, x3, x4, x5⟩ := X1.out.c5
    go_wp2_with (at_builtin; refine wpList_append_own _ rfl _ _ 26 rfl w1.heap.size 88 i0 (.agg #[.string ByteArray.empty, .int .i64 0, .int .i64 0, .int .i64 0, .int .i64 0]) 5 48 Try.underlying26 hi hz0 hz1 hz2 rfl (by decide) _ 0 [] rfl (World.ownsRow_nil _ _ _ _) ⟨g, 0, none⟩ ss.length cap (siC ss) rfl ?d1 ?d2 ?d3 ?d4 ?d5 ?d6 ?_)
    case d1 => exact siC_len ss
    case d2 => exact sites_src T1.out
    case d3 =>
      intro u hu
      simp only [siC, List.mem_flatMap] at hu
      obtain ⟨s, _, hu⟩ := hu
      simp at hu
      rcases hu with rfl | rfl | rfl | rfl | rfl <;> rfl
    case d4 => unfold maxLen; omega
    case d5 => omega
    case d6 => exact Nat.le_refl _
    intro v' w2 ho2 hg2 _

    obtain ⟨ro, rc, rfl⟩ := own_slice ho2
    have X2 := Lib.hid (X1.out.grownQ hg2 (fun e => by cases e))
    have R2 := Lib.hid (R1.out.grownQ hg2 (fun e => by cases e))
    have L2 := Lib.hid (bel_grownS L1.out hg2 (fun r e => by cases e))
    have hs2 := hg2.size
    have hbB : w.heap.size < w1.heap.size := X1.out.lt
    have hr4 : w.heap.size + 1 < w1.heap.size := R1.out.lt
    have O2 := Lib.hid ho2
    clear ho2 hg2 X1 R1 L1 T1 x0 x1 x2 x3 x4 x5
    obtain ⟨x0, x1, x2, x3, x4, x5⟩ := X2.out.c5
    obtain ⟨f0, f1, f2, f3, f4⟩ := X2.out.f5
    have O3 := Lib.hid (ownsRow_setCell_other (a := ⟨w.heap.size, 4, none⟩) O2.out (fun e => by have := (own_blk O2.out _ e).1; simp at this; omega) (.slice ro ss.length rc))
    have X3 := Lib.hid (X2.out.set4 (x := .slice ro ss.length rc))
    have R3 := Lib.hid (R2.out.other (b' := w.heap.size) (o := 4) (x := .slice ro ss.length rc) (by omega))
    have L3 := Lib.hid (bsetB (o := 4) (v := .slice ro ss.length rc) L2.out (Nat.le_refl w.heap.size))
    have hs3 : (w2.setCell ⟨w.heap.size, 4, none⟩ (.slice ro ss.length rc)).heap.size = w2.heap.size := by simp [World.setCell]
    clear X2 R2 L2 O2
    go_wp2_with fail
    generalize w2.setCell ⟨w.heap.size, 4, none⟩ (.slice ro ss.length rc) = w3 at *
    refine (move0_any w3 w1.heap.size w.heap.size W H M G _ ss X3.out O3.out (by omega) hbB h20 hWW (fun i hi' => (HB.out i hi').2.1)).mono ?_
    rintro e w4 ⟨rfl, h1, h2, h3, h4⟩
    have X4 := Lib.hid h1
    have L4 := Lib.hid (L3.out.trans h3)
    have hke := h4 (w.heap.size + 1) hr4 (by omega)
    have R4 : BoxL w4 (w.heap.size + 1) [.int .i64 0, .int .i64 0, .int .i64 0, .int .i64 0, .slice none 0 0] := ⟨fun i u e => (World.cell?_of_block hke).trans (R3.out.c i u e), fun i u e => (World.frozen?_of_block hke).trans (R3.out.f i u e), Nat.lt_of_lt_of_le hr4 (by have := h3.size; omega)⟩
    have O4 : OwSi w1.heap.size w4 (.slice ro ss.length rc) (ss.map (mvS W H 1)) := ⟨by rw [List.length_map]; omega, fun i hi' => by
      rw [List.length_map] at hi'
      rw [siAt_map hi']
      have := hnm i hi'
      unfold mvS; split <;> exact this, by rw [List.length_map]; exact h2⟩
    clear h1 h2 h3 h4 hke x0 x1 x2 x3 x4 x5 f0 f1 f2 f3 f4 X3 O3 R3 L3
    obtain ⟨q0, q1, q2, q3, q4, q5⟩ := R4.c5
    obtain ⟨r0, r1, r2, r3, r4⟩ := R4.f5
    obtain ⟨x0, x1, x2, x3, x4, x5⟩ := X4.out.c5
    generalize hb4 : w.heap.size + 1 = b4 at *
    have hw4 : w.heap.size ≤ b4 := by omega
    have hn1 : ¬ w.heap.size = b4 := by omega
    have hn2 : ¬ b4 = w.heap.size := by omega
    have PF := Lib.hid ((((((O4.other (b := b4) (o := 0) (x := .int .i64 W) hr4).other (b := b4) (o := 1) (x := .int .i64 H) hr4).other (b := b4) (o := 2) (x := .int .i64 M) hr4).other (b := b4) (o := 3) (x := .int .i64 G) hr4).other (b := b4) (o := 4) (x := .slice ro ss.length rc) hr4).low (show w.heap.size ≤ w1.heap.size by omega))
    clear O4 R4
    go_wp2_with fail
    refine bodyPost_ret (v := .tuple #[.agg #[.int .i64 W, .int .i64 H, .int .i64 M, .int .i64 G, .slice ro ss.length rc], .int .i64 0]) ?_ rfl (.inl ⟨HOK.out, _, rfl, PF.out, bsetB (bsetB (bsetB (bsetB (bsetB L4.out hw4) hw4) hw4) hw4) hw4⟩)
    simp [results, Try.results28, go_sem, q0, q1, q2, q3, q4]
set_option maxRecDepth 100000 in
set_option maxHeartbeats 4000000 in
theorem movedPlate1_any (p : Pl4) (ss : List Sit) (g cap : Nat) (w : World) (ha : SlSi w (.slice (some ⟨g, 0, none⟩) ss.length cap) ss) (hg : g < w.heap.size) (hat : SitesAt w g ss) :
    Calls Try.prog 28 #[plV p (.slice (some ⟨g, 0, none⟩) ss.length cap), .int .i64 1] w (MpRet p 2 ss w) := by
  obtain ⟨W, H, M, G⟩ := p
  unfold plV
  obtain ⟨i0, hi, hz0, hz1, hz2⟩ := info_parts infoSit
  have VP := Lib.hid (fun W' (h : SlSi W' (.slice (some ⟨g, 0, none⟩) ss.length cap) ss) => ValidPlateI_any ⟨W, H, M, G⟩ ss (.slice (some ⟨g, 0, none⟩) ss.length cap) W' h)
  unfold plV at VP
  have hcap := ha.2
  have X0 := Lib.hid ((BoxL.new w [.int .i64 W, .int .i64 H, .int .i64 M, .int .i64 G, .slice (some ⟨g, 0, none⟩) ss.length cap] 28).alloc (.cells #[.int .i64 0, .int .i64 0, .int .i64 0, .int .i64 0, .slice none 0 0] 28))
  have R0 := Lib.hid (BoxL.at_ (w := w.alloc (.cells #[.int .i64 W, .int .i64 H, .int .i64 M, .int .i64 G, .slice (some ⟨g, 0, none⟩) ss.length cap] 28)) (b := w.heap.size + 1) (vs := [.int .i64 0, .int .i64 0, .int .i64 0, .int .i64 0, .slice none 0 0]) (T := 28) (by simp))
  have L0 := Lib.hid (bA (bA (bR w) (.cells #[.int .i64 W, .int .i64 H, .int .i64 M, .int .i64 G, .slice (some ⟨g, 0, none⟩) ss.length cap] 28)) (.cells #[.int .i64 0, .int .i64 0, .int .i64 0, .int .i64 0, .slice none 0 0] 28))
  have A0 := Lib.hid (ha.keep L0.out)
  have T0 := Lib.hid (hat.keep hg L0.out)
  have hnm : ∀ i, i < ss.length → (siAt ss i).nm.size ≤ maxLen := fun i hi' => (hat i hi').2.2.2.2.2
  have hl0 := ha.1
  have hW0 : ((w.alloc (.cells #[.int .i64 W, .int .i64 H, .int .i64 M, .int .i64 G, .slice (some ⟨g, 0, none⟩) ss.length cap] 28)).alloc (.cells #[.int .i64 0, .int .i64 0, .int .i64 0, .int .i64 0, .slice none 0 0] 28)).heap.size = w.heap.size + 1 + 1 := by simp
  clear ha hat
  cases ho : okPl W H M G ss
  · go_enter Try.func28, Try.ntmps28
    go_wp2_with fail
    generalize (w.alloc (.cells #[.int .i64 W, .int .i64 H, .int .i64 M, .int .i64 G, .slice (some ⟨g, 0, none⟩) ss.length cap] 28)).alloc (.cells #[.int .i64 0, .int .i64 0, .int .i64 0, .int .i64 0, .slice none 0 0] 28) = W0 at *
    refine (VP.out _ A0.out).mono ?_
    rw [ho]
    rintro e w1 ⟨rfl, hb⟩
    have L1 := Lib.hid (bT L0.out hb)
    obtain ⟨q0, q1, q2, q3, q4, q5⟩ := (R0.out.keep hb).c5
    obtain ⟨r0, r1, r2, r3, r4⟩ := (R0.out.keep hb).f5
    clear hb
    generalize hb4 : w.heap.size + 1 = b4 at *
    have hw4 : w.heap.size ≤ b4 := by omega
    go_wp2_with fail
    refine bodyPost_ret (v := .tuple #[.agg #[.int .i64 0, .int .i64 0, .int .i64 0, .int .i64 0, .slice none 0 0], .int .i64 1]) ?_ rfl (.inr ⟨ho, rfl, bsetB (bsetB (bsetB (bsetB (bsetB L1.out hw4) hw4) hw4) hw4) hw4⟩)
    simp [results, Try.results28, go_sem, q0, q1, q2, q3, q4]
  · obtain ⟨hWW, hHH, _, _, h20, hsite⟩ := okPl_parts ho
    have HB := Lib.hid (fun i (hi' : i < ss.length) => siB_bd (okPl_site ho hi'))
    have HOK := Lib.hid ho
    go_enter Try.func28, Try.ntmps28
    go_wp2_with fail
    generalize (w.alloc (.cells #[.int .i64 W, .int .i64 H, .int .i64 M, .int .i64 G, .slice (some ⟨g, 0, none⟩) ss.length cap] 28)).alloc (.cells #[.int .i64 0, .int .i64 0, .int .i64 0, .int .i64 0, .slice none 0 0] 28) = W0 at *
    refine (VP.out _ A0.out).mono ?_
    rw [ho]
    rintro e w1 ⟨rfl, hb⟩
    have L1 := Lib.hid (bT L0.out hb)
    have X1 := Lib.hid (X0.out.keep hb)
    have R1 := Lib.hid (R0.out.keep hb)
    have T1 := Lib.hid (T0.out.keep (by omega) hb)
    have hsz1 := hb.size
    clear hb ho X0 R0 A0 T0 L0
    obtain ⟨x0, x1, x2, x3, x4, x5⟩ := X1.out.c5
    go_wp2_with (at_builtin; refine wpList_append_own _ rfl _ _ 26 rfl w1.heap.size 88 i0 (.agg #[.string ByteArray.empty, .int .i64 0, .int .i64 0, .int .i64 0, .int .i64 0]) 5 48 Try.underlying26 hi hz0 hz1 hz2 rfl (by decide) _ 0 [] rfl (World.ownsRow_nil _ _ _ _) ⟨g, 0, none⟩ ss.length cap (siC ss) rfl ?d1 ?d2 ?d3 ?d4 ?d5 ?d6 ?_)
    case d1 => exact siC_len ss
    case d2 => exact sites_src T1.out
    case d3 =>
      intro u hu
      simp only [siC, List.mem_flatMap] at hu
      obtain ⟨s, _, hu⟩ := hu
      simp at hu
      rcases hu with rfl | rfl | rfl | rfl | rfl <;> rfl
    case d4 => unfold maxLen; omega
    case d5 => omega
    case d6 => exact Nat.le_refl _
    intro v' w2 ho2 hg2 _

    obtain ⟨ro, rc, rfl⟩ := own_slice ho2
    have X2 := Lib.hid (X1.out.grownQ hg2 (fun e => by cases e))
    have R2 := Lib.hid (R1.out.grownQ hg2 (fun e => by cases e))
    have L2 := Lib.hid (bel_grownS L1.out hg2 (fun r e => by cases e))
    have hs2 := hg2.size
    have hbB : w.heap.size < w1.heap.size := X1.out.lt
    have hr4 : w.heap.size + 1 < w1.heap.size := R1.out.lt
    have O2 := Lib.hid ho2
    clear ho2 hg2 X1 R1 L1 T1 x0 x1 x2 x3 x4 x5
    obtain ⟨x0, x1, x2, x3, x4, x5⟩ := X2.out.c5
    obtain ⟨f0, f1, f2, f3, f4⟩ := X2.out.f5
    have O3 := Lib.hid (ownsRow_setCell_other (a := ⟨w.heap.size, 4, none⟩) O2.out (fun e => by have := (own_blk O2.out _ e).1; simp at this; omega) (.slice ro ss.length rc))
    have X3 := Lib.hid (X2.out.set4 (x := .slice ro ss.length rc))
    have R3 := Lib.hid (R2.out.other (b' := w.heap.size) (o := 4) (x := .slice ro ss.length rc) (by omega))
    have L3 := Lib.hid (bsetB (o := 4) (v := .slice ro ss.length rc) L2.out (Nat.le_refl w.heap.size))
    have hs3 : (w2.setCell ⟨w.heap.size, 4, none⟩ (.slice ro ss.length rc)).heap.size = w2.heap.size := by simp [World.setCell]
    clear X2 R2 L2 O2
    go_wp2_with fail
    generalize w2.setCell ⟨w.heap.size, 4, none⟩ (.slice ro ss.length rc) = w3 at *
    refine (move1_any w3 w1.heap.size w.heap.size W H M G _ ss X3.out O3.out (by omega) hbB h20 hHH (fun i hi' => (HB.out i hi').2.2.1)).mono ?_
    rintro e w4 ⟨rfl, h1, h2, h3, h4⟩
    have X4 := Lib.hid h1
    have L4 := Lib.hid (L3.out.trans h3)
    have hke := h4 (w.heap.size + 1) hr4 (by omega)
    have R4 : BoxL w4 (w.heap.size + 1) [.int .i64 0, .int .i64 0, .int .i64 0, .int .i64 0, .slice none 0 0] := ⟨fun i u e => (World.cell?_of_block hke).trans (R3.out.c i u e), fun i u e => (World.frozen?_of_block hke).trans (R3.out.f i u e), Nat.lt_of_lt_of_le hr4 (by have := h3.size; omega)⟩
    have O4 : OwSi w1.heap.size w4 (.slice ro ss.length rc) (ss.map (mvS W H 2)) := ⟨by rw [List.length_map]; omega, fun i hi' => by
      rw [List.length_map] at hi'
      rw [siAt_map hi']
      have := hnm i hi'
      unfold mvS; split <;> exact this, by rw [List.length_map]; exact h2⟩
    clear h1 h2 h3 h4 hke x0 x1 x2 x3 x4 x5 f0 f1 f2 f3 f4 X3 O3 R3 L3
    obtain ⟨q0, q1, q2, q3, q4, q5⟩ := R4.c5
    obtain ⟨r0, r1, r2, r3, r4⟩ := R4.f5
    obtain ⟨x0, x1, x2, x3, x4, x5⟩ := X4.out.c5
    generalize hb4 : w.heap.size + 1 = b4 at *
    have hw4 : w.heap.size ≤ b4 := by omega
    have hn1 : ¬ w.heap.size = b4 := by omega
    have hn2 : ¬ b4 = w.heap.size := by omega
    have PF := Lib.hid ((((((O4.other (b := b4) (o := 0) (x := .int .i64 H) hr4).other (b := b4) (o := 1) (x := .int .i64 W) hr4).other (b := b4) (o := 2) (x := .int .i64 M) hr4).other (b := b4) (o := 3) (x := .int .i64 G) hr4).other (b := b4) (o := 4) (x := .slice ro ss.length rc) hr4).low (show w.heap.size ≤ w1.heap.size by omega))
    clear O4 R4
    go_wp2_with fail
    refine bodyPost_ret (v := .tuple #[.agg #[.int .i64 H, .int .i64 W, .int .i64 M, .int .i64 G, .slice ro ss.length rc], .int .i64 0]) ?_ rfl (.inl ⟨HOK.out, _, rfl, PF.out, bsetB (bsetB (bsetB (bsetB (bsetB L4.out hw4) hw4) hw4) hw4) hw4⟩)
    simp [results, Try.results28, go_sem, q0, q1, q2, q3, q4]
end Go.Proofs.Ytmhheecjpalajaa

/-
  Comparing trains: the contracts of spec.l06Compare and spec.CompareTrains.
-/
import Derived.Test.YtbfiacodglckiaaCtM
import Derived.Test.YtbfiacodglckiaaCmpS
import Derived.Deep.AppendLies
import Derived.Deep.RegionLaw
namespace Go.Proofs.Ytbfiacodglckiaa
open Go.RowKit

theorem whole_any (n : Int) (w : World) :
    Calls Try.prog 138 #[.int .i64 n] w fun e w' => e = .returned (.agg #[.int .i64 n, .int .i64 1]) ∧ Below w.heap.size w w' := by
  go_enter Try.func138, Try.ntmps138
  go_wp2_with fail
  exact bodyPost_ret (v := .agg #[.int .i64 n, .int .i64 1]) (by simp [results, Try.results138, go_sem]) rfl ⟨rfl, bA (bR _) _⟩
/-- A row of one number, just made. -/
theorem row1_new (w : World) (t : TypeId) (x : Value) : (w.alloc (.cells #[x] t)).ownsRow w.heap.size t 1 (.slice (some ⟨w.heap.size, 0, none⟩) 1 1) 1 [x] :=
  ⟨rfl, .inr ⟨w.heap.size, 1, #[x], rfl, Nat.le_refl _, (MapKept.heap_alloc w _).1, Nat.le_refl _, by decide, rfl, rfl⟩⟩
theorem own_heapI {W W' : World} {B : Nat} {t : TypeId} {sz n : Nat} {v : Value} {xs : List Value} (h : W.ownsRow B t sz v n xs) (e : W'.heap = W.heap) : W'.ownsRow B t sz v n xs := by
  unfold World.ownsRow at h ⊢; rw [e]; exact h
theorem two_newI (W : World) (n : Nat) (x y : Value) (t : TypeId) (h : W.heap.size = n) : ∀ (j : Nat) (u : Value), [x, y][j]? = some u → (W.alloc (.cells #[x, y] t)).cell? ((⟨n, 0, none⟩ : Addr).add j) = some u := by
  subst h
  intro j u hj
  match j with
  | 0 => simp at hj; subst hj; simp [go_sem, Addr.add]
  | 1 => simp at hj; subst hj; simp [go_sem, Addr.add]
  | j + 2 => simp at hj
theorem bel_grownI {a b c : World} {row : Option Nat} {B : Nat} (h : Below B a b) (g : b.grownBy c row) (hB : B ≤ b.heap.size) (hr : ∀ r, row = some r → B ≤ r) : Below B a c :=
  ⟨g.os.trans h.os, g.tape.trans h.tape, g.output.trans h.output, Nat.le_trans h.size g.size, fun k hk => (g.block k (Nat.lt_of_lt_of_le hk hB) (fun e => by have := hr k e.symm; omega)).trans (h.block k hk)⟩
theorem own_ints {W : World} {B : Nat} {t : TypeId} {g cap : Nat} {ts : List Int} (h : W.ownsRow B t 1 (.slice (some ⟨g, 0, none⟩) ts.length cap) ts.length (intC ts)) : IntsAt W g ts := by
  intro i hi
  have := (h.cellAt i (by simpa using hi))
  rw [this]
  unfold intC at0
  rw [List.getElem?_map, List.getElem?_eq_getElem hi]; rfl
/-- The numbers of the first k pairs, with the sum in front. -/
def fullK (ps : List (Int × Int)) (k : Nat) : List Int := tSum ps :: flatP (ps.take k)
theorem fullK_zero (ps : List (Int × Int)) : fullK ps 0 = [tSum ps] := by simp [fullK, flatP]
theorem fullK_succ {ps : List (Int × Int)} {k : Nat} (h : k < ps.length) : fullK ps (k + 1) = fullK ps k ++ [(pat ps k).1, (pat ps k).2] := by simp [fullK, flatP_take h]
theorem fullK_all (ps : List (Int × Int)) : fullK ps ps.length = fullP ps := by simp [fullK, fullP]
theorem fullK_len {ps : List (Int × Int)} {k : Nat} (h : k ≤ ps.length) : (fullK ps k).length = 2 * k + 1 := by
  simp [fullK, flatP_len]; omega
/-- A row under way: the first k pairs of ps have been taken; what lies below w stands, and so does the block gy of W2. -/
def FkRel (w : World) (B : Nat) (W2 : World) (gy : Nat) (ps : List (Int × Int)) (v i : Value) (wr : World) : Prop :=
  ∃ (k g cap : Nat), k ≤ ps.length ∧ i = .int .i64 k ∧ v = .slice (some ⟨g, 0, none⟩) (2 * k + 1) cap ∧ wr.ownsRow B 2 1 v (2 * k + 1) (intC (fullK ps k)) ∧ g ≠ gy ∧ gy < wr.heap.size ∧ wr.heap[gy]? = W2.heap[gy]? ∧ Below w.heap.size w wr
theorem fk_next {W : World} {B k : Nat} {v : Value} {ps : List (Int × Int)} {x y : Int} (h : fullK ps (k + 1) = fullK ps k ++ [x, y]) (ho : W.ownsRow B 2 1 v (2 * k + 1 + 2) (intC (fullK ps k) ++ [.int .i64 x, .int .i64 y])) :
    W.ownsRow B 2 1 v (2 * (k + 1) + 1) (intC (fullK ps (k + 1))) := by
  have e : 2 * (k + 1) + 1 = 2 * k + 1 + 2 := by omega
  have e2 : intC (fullK ps (k + 1)) = intC (fullK ps k) ++ [.int .i64 x, .int .i64 y] := by rw [h]; simp [intC]
  rw [e, e2]; exact ho
theorem own_atI {W W' : World} {B : Nat} {t : TypeId} {sz n l g cap : Nat} {xs : List Value} (h : W.ownsRow B t sz (.slice (some ⟨g, 0, none⟩) l cap) n xs) (e : W'.heap[g]? = W.heap[g]?) : W'.ownsRow B t sz (.slice (some ⟨g, 0, none⟩) l cap) n xs := by
  refine ⟨h.1, ?_⟩
  rcases h.2 with ⟨h0, _⟩ | ⟨g', cap', cur, h0, hB, hh, r⟩
  · cases h0
  · cases h0
    exact .inr ⟨g, cap, cur, rfl, hB, e.trans hh, r⟩
theorem IntsAt.block {W W' : World} {g : Nat} {ts : List Int} (h : IntsAt W g ts) (e : W'.heap[g]? = W.heap[g]?) : IntsAt W' g ts := fun i hi => (World.cell?_of_block e).trans (h i hi)
theorem full_at {W : World} {B g cap : Nat} {ps : List (Int × Int)} (h : W.ownsRow B 2 1 (.slice (some ⟨g, 0, none⟩) (2 * ps.length + 1) cap) (2 * ps.length + 1) (intC (fullK ps ps.length))) : IntsAt W g (fullP ps) ∧ g < W.heap.size ∧ B ≤ g := by
  have hl := fullP_len ps
  rw [fullK_all] at h
  rw [← hl] at h
  have hi := own_ints h
  rcases h.2 with ⟨h0, _⟩ | ⟨g', cap', cur, h0, hB, hh, _⟩
  · cases h0
  · cases h0
    exact ⟨hi, (Array.getElem?_eq_some_iff.1 hh).1, hB⟩
theorem cmpW (a b : Nat) : cmpV (a : Int) 1 (b : Int) 1 = cmpI a b := by
  unfold cmpI
  by_cases h : (a : Int) < b
  · rw [if_pos h]; exact (cmpV_lt (n := a) (d := 1) (p := b) (q := 1) (by omega)).symm
  · by_cases h2 : (b : Int) < a
    · rw [if_neg h, if_pos h2]; exact (cmpV_gt (n := a) (d := 1) (p := b) (q := 1) (by omega)).symm
    · rw [if_neg h, if_neg h2]; exact (cmpV_eq (n := a) (d := 1) (p := b) (q := 1) (by omega) (by omega)).symm
theorem okR_nat {m : Nat} (h : m ≤ 1000000000) : okR (m : Int) 1 = true := okR_true.2 ⟨by omega, by omega, by omega, by omega, by simp⟩
theorem fk_step {w W2 wr w5 W5 : World} {B gy k g g' cap' : Nat} {ps : List (Int × Int)} {x y : Int} (hk : k < ps.length) (hB : w.heap.size ≤ B) (HN : fullK ps (k + 1) = fullK ps k ++ [x, y])
    (N5 : w5.ownsRow B 2 1 (.slice (some ⟨g', 0, none⟩) (2 * k + 1 + 2) cap') (2 * k + 1 + 2) (intC (fullK ps k) ++ [.int .i64 x, .int .i64 y])) (G5 : W5.grownBy w5 (some g)) (hW5 : Below wr.heap.size wr W5)
    (hgn : g' = g ∨ g' = wr.heap.size + 1) (hne : g ≠ gy) (hgy : gy < wr.heap.size) (hb : wr.heap[gy]? = W2.heap[gy]?) (hbw : Below w.heap.size w wr) (hgB : B ≤ g) :
    FkRel w B W2 gy ps (.slice (some ⟨g', 0, none⟩) (2 * k + 1 + 2) cap') (.int .i64 ((k : Int) + 1)) w5 := by
  have hs := hW5.size
  have e : 2 * k + 1 + 2 = 2 * (k + 1) + 1 := by omega
  refine ⟨k + 1, g', cap', hk, by go_num, by rw [e], fk_next HN N5, by omega, by have := G5.size; omega, ?_, bel_grownI (bT hbw hW5) G5 (by have := hbw.size; omega) (fun r h => by cases h; omega)⟩
  rw [G5.block gy (by omega) (by intro h; cases h; omega), hW5.block gy hgy, hb]
/-- What the last loop keeps. -/
def CkK (xs ys : List Int) (k : Nat) : Prop := cmpL xs ys = cmpL (xs.drop k) (ys.drop k)
set_option maxRecDepth 100000 in
set_option maxHeartbeats 8000000 in
theorem l06Compare_any (ps qs : List (Int × Int)) (va vb : Value) (w : World) (ha : SlP w va ps) (hb : SlP w vb qs) (hp : okT ps = true) (hq : okT qs = true) :
    Calls Try.prog 93 #[va, vb] w fun e w' => e = .returned (.int .i64 (ctV ps qs)) ∧ Below w.heap.size w w' := by
  obtain ⟨i0, hi, hz0, hz1, hz2⟩ := info_parts infoI64
  have h5 := (okT_iff.1 hp).1
  have h6 := (okT_iff.1 hq).1
  have HR := Lib.hid (ct_full hp hq)
  have S1 := Lib.hid (l05Sum_any ps va w ha hp)
  have S2 := Lib.hid (fun W (h : SlP W vb qs) => l05Sum_any qs vb W h hq)
  have HV := Lib.hid ha
  have HU := Lib.hid hb
  obtain ⟨ao, cap, rfl, _⟩ := ha
  obtain ⟨bo, bcap, rfl, _⟩ := hb
  clear hp hq
  go_enter Try.func93, Try.ntmps93
  go_wp2_with fail
  refine S1.out.mono ?_
  rintro e w1 ⟨rfl, hb1⟩
  have U1 := Lib.hid ((HU.out.keep hb1).keep (bA (bR _) (.cells #[.int .i64 (tSum ps)] 2)))
  have X1 := Lib.hid (row1_new w1 2 (.int .i64 (tSum ps)))
  have hB1 := Lib.hid (bA hb1 (.cells #[.int .i64 (tSum ps)] 2))
  have hs1 := hb1.size
  clear hb1 S1
  go_wp2_with fail
  refine (S2.out _ U1.out).mono ?_
  rintro e w2 ⟨rfl, hb2⟩
  have hs2 : w1.heap.size < w2.heap.size := by have := hb2.size; simp at this; omega
  have X2 := Lib.hid (own_atI (W' := w2.alloc (.cells #[.int .i64 (tSum qs)] 2)) X1.out (((bA hb2 _).block w1.heap.size (by simp))))
  have Y2 := Lib.hid (row1_new w2 2 (.int .i64 (tSum qs)))
  have hB2 := Lib.hid (bA (bT hB1.out hb2) (.cells #[.int .i64 (tSum qs)] 2))
  clear hb2 X1 U1 S2
  have F2 := Lib.hid (show FkRel w w1.heap.size (w2.alloc (.cells #[.int .i64 (tSum qs)] 2)) w2.heap.size ps (.slice (some ⟨w1.heap.size, 0, none⟩) 1 1) (.int .i64 0) (w2.alloc (.cells #[.int .i64 (tSum qs)] 2)) from
    ⟨0, w1.heap.size, 1, by omega, rfl, rfl, by rw [fullK_zero]; exact X2.out, by omega, by simp, rfl, hB2.out⟩)
  go_wp2_with fail
  generalize w2.alloc (.cells #[.int .i64 (tSum qs)] 2) = W2 at *
  generalize w2.heap.size = gy at *
  generalize w1.heap.size = B at *
  have hwB := Lib.hid hs1
  go_loopw [5, 7] (fun v i wr => FkRel w B W2 gy ps v i wr) (fun _ i _ => ps.length - (intOf i).toNat)
  case atStart => exact F2.out
  case round =>
    obtain ⟨k, g, cap', hk, rfl, rfl, hown, hne, hgy, hgyb, hbw⟩ := hrel
    have HO := Lib.hid hown
    have HGY := Lib.hid hgyb
    have HBW := Lib.hid hbw
    have hws := hbw.size
    obtain ⟨hgB, hgs⟩ := own_blk hown g rfl
    clear hown hgyb hbw
    by_cases hlt : k < ps.length
    · obtain ⟨ao', cap'', e', ha'⟩ := HV.out
      injection e' with e1 e2 e3
      subst e1 e3
      obtain ⟨ga, rfl, hga, hc⟩ := ha' (by omega)
      obtain ⟨c1, c2⟩ := (hc.keep hga HBW.out) k hlt
      have HN := Lib.hid (fullK_succ hlt)
      have hgr : ga < wr.heap.size := by omega
      clear e2 ha' hc
      generalize (pat ps k).1 = x at *
      generalize (pat ps k).2 = y at *
      go_wp2_with fail
      go_region_law (refine step_append_lies _ (by rfl) _ _ 28 (by rfl) B 2 i0 (.int .i64 0) 1 8 Try.underlying28 hi hz0 hz1 hz2 (by rfl) (by decide) _ (2 * k + 1) (intC (fullK ps k)) (by rfl) ((own_heapI (W' := wr.drew) HO.out rfl |> fun h => own_keep h (bA (bR _) _))) ⟨wr.heap.size, 0, none⟩ 2 2 [.int .i64 x, .int .i64 y] (by rfl) (by rfl) (two_newI _ _ _ _ _ (by rfl)) (by intro u hu; simp at hu; rcases hu with rfl | rfl <;> rfl) (by omega) (by unfold maxLen; omega) (by omega) (by first | (simp; done) | (simp; omega)) _ (by rfl) ?_; intro g' cap' w5 hown5 hg5 hat5 hlt5; have N5 := Lib.hid hown5; have G5 := Lib.hid hg5; have hgn : g' = g ∨ g' = wr.heap.size + 1 := (by simpa [Value.ownBlock, eq_comm] using hat5); clear hown5 hg5 hat5)
      all_goals go_wp2_with fail
      all_goals exact ⟨fk_step hlt hwB.out HN.out N5.out G5.out (bA (bR wr) _).drew hgn hne hgy HGY.out HBW.out hgB, by simp [intOf]; omega⟩
    · obtain rfl : k = ps.length := by omega
      obtain ⟨W3, hW3⟩ : ∃ W3, W3 = wr := ⟨wr, rfl⟩
      subst hW3
      obtain ⟨hx1, hx2, hx3⟩ := full_at HO.out
      have HX := Lib.hid hx1
      have HY := Lib.hid (own_lower (own_atI (W' := W3) Y2.out HGY.out) (B' := B) (by omega))
      have F3 := Lib.hid (show FkRel w B W3 g qs (.slice (some ⟨gy, 0, none⟩) 1 1) (.int .i64 0) W3 from
        ⟨0, gy, 1, by omega, rfl, rfl, by rw [fullK_zero]; exact HY.out, by omega, hx2, rfl, HBW.out⟩)
      clear hx1 HO HGY
      go_wp2_with fail
      go_loopw [6, 8] (fun v i wr => FkRel w B W3 g qs v i wr) (fun _ i _ => qs.length - (intOf i).toNat)
      case atStart => exact F3.out
      case round =>
        obtain ⟨k, g2, cap2, hk2, rfl, rfl, hown2, hne2, hgx, hgxb, hbw2⟩ := hrel
        have HO := Lib.hid hown2
        have HGX := Lib.hid hgxb
        have HBW2 := Lib.hid hbw2
        have hws2 := hbw2.size
        obtain ⟨hgB2, hgs2⟩ := own_blk hown2 g2 rfl
        clear hown2 hgxb hbw2
        by_cases hlt : k < qs.length
        · obtain ⟨ao', cap'', e', ha'⟩ := HU.out
          injection e' with e1 e2 e3
          subst e1 e3
          obtain ⟨ga, rfl, hga, hc⟩ := ha' (by omega)
          obtain ⟨c1, c2⟩ := (hc.keep hga HBW2.out) k hlt
          have HN := Lib.hid (fullK_succ hlt)
          have hgr : ga < wr.heap.size := by omega
          clear e2 ha' hc
          generalize (pat qs k).1 = x at *
          generalize (pat qs k).2 = y at *
          go_wp2_with fail
          go_region_law (refine step_append_lies _ (by rfl) _ _ 28 (by rfl) B 2 i0 (.int .i64 0) 1 8 Try.underlying28 hi hz0 hz1 hz2 (by rfl) (by decide) _ (2 * k + 1) (intC (fullK qs k)) (by rfl) ((own_heapI (W' := wr.drew) HO.out rfl |> fun h => own_keep h (bA (bR _) _))) ⟨wr.heap.size, 0, none⟩ 2 2 [.int .i64 x, .int .i64 y] (by rfl) (by rfl) (two_newI _ _ _ _ _ (by rfl)) (by intro u hu; simp at hu; rcases hu with rfl | rfl <;> rfl) (by omega) (by unfold maxLen; omega) (by omega) (by first | (simp; done) | (simp; omega)) _ (by rfl) ?_; intro g' cap' w5 hown5 hg5 hat5 hlt5; have N5 := Lib.hid hown5; have G5 := Lib.hid hg5; have hgn : g' = g2 ∨ g' = wr.heap.size + 1 := (by simpa [Value.ownBlock, eq_comm] using hat5); clear hown5 hg5 hat5)
          all_goals go_wp2_with fail
          all_goals exact ⟨fk_step hlt hwB.out HN.out N5.out G5.out (bA (bR wr) _).drew hgn hne2 hgx HGX.out HBW2.out hgB2, by simp [intOf]; omega⟩
        · obtain rfl : k = qs.length := by omega
          obtain ⟨W4, hW4⟩ : ∃ W4, W4 = wr := ⟨wr, rfl⟩
          subst hW4
          obtain ⟨hy1, hy2, hy3⟩ := full_at HO.out
          have HY2 := Lib.hid hy1
          have HX2 := Lib.hid (HX.out.block HGX.out)
          have hxl := fullP_len ps
          have hyl := fullP_len qs
          have HR2 := Lib.hid (show ∀ k, CkK (fullP ps) (fullP qs) k → ctV ps qs = cmpL ((fullP ps).drop k) ((fullP qs).drop k) from fun k h => HR.out.trans h)
          clear hy1 HO HGX HX HY F3 HR
          generalize fullP ps = xs at *
          generalize fullP qs = ys at *
          generalize hm : 2 * ps.length + 1 = m at *
          generalize hn : 2 * qs.length + 1 = n at *
          have hm9 : m ≤ 1000 := by omega
          have hn9 : n ≤ 1000 := by omega
          clear hm hn
          go_wp2_with fail
          go_loopw [9] (fun i wr => ∃ k : Nat, k ≤ m ∧ k ≤ n ∧ i = .int .i64 k ∧ CkK xs ys k ∧ Below W4.heap.size W4 wr) (fun i _ => m - (intOf i).toNat)
          case atStart => exact ⟨0, by omega, by omega, rfl, rfl, bR _⟩
          case round =>
            obtain ⟨k, hkm, hkn, rfl, hck, hbz⟩ := hrel
            have HC := Lib.hid hck
            have HZ := Lib.hid hbz
            have hsz := hbz.size
            clear hck hbz
            by_cases hk1 : k < m
            · by_cases hk2 : k < n
              · have c1 := (HX2.out.keep (by omega) HZ.out) k (by omega)
                have c2 := (HY2.out.keep (by omega) HZ.out) k (by omega)
                have LT := Lib.hid (fun h => (HR2.out k HC.out).trans (cmpL_lt (xs := xs) (ys := ys) (k := k) (by omega) (by omega) h))
                have GT := Lib.hid (fun h => (HR2.out k HC.out).trans (cmpL_gt (xs := xs) (ys := ys) (k := k) (by omega) (by omega) h))
                have EQ := Lib.hid (fun h => Eq.trans HC.out (cmpL_next (xs := xs) (ys := ys) (k := k) (by omega) (by omega) h))
                clear hxl hyl
                generalize at0 xs k = x at *
                generalize at0 ys k = y at *
                by_cases hl1 : x < y
                · have H1 := Lib.hid (LT.out hl1)
                  go_wp2_with fail
                  go_quiet (fail)
                  go_wp2_with fail
                  go_ret
                  exact ⟨ret_int H1.out.symm, bD (bT HBW2.out HZ.out) _⟩
                · by_cases hl2 : y < x
                  · have H1 := Lib.hid (GT.out hl2)
                    go_wp2_with fail
                    go_quiet (fail)
                    go_wp2_with fail
                    go_quiet (fail)
                    go_wp2_with fail
                    go_ret
                    exact ⟨ret_int H1.out.symm, bD (bD (bT HBW2.out HZ.out) _) _⟩
                  · have H1 := Lib.hid (EQ.out (by omega))
                    go_wp2_with fail
                    go_quiet (fail)
                    go_wp2_with fail
                    go_quiet (fail)
                    go_wp2_with fail
                    go_roundw
                    case rel => exact ⟨k + 1, by omega, by omega, by go_num, H1.out, bD HZ.out _⟩
                    case measure => simp [intOf]; omega
              · have HE := Lib.hid ((HR2.out k HC.out).trans (cmpL_end (xs := xs) (ys := ys) (k := k) (by omega) (by omega) (by omega)))
                clear HX2 HY2
                go_wp2_with fail
                refine (whole_any _ _).mono ?_
                rintro e z1 ⟨rfl, hz1⟩
                have L1 := Lib.hid (bT HZ.out hz1)
                clear hz1
                go_wp2_with fail
                refine (whole_any _ _).mono ?_
                rintro e z2 ⟨rfl, hz2⟩
                have L2 := Lib.hid (bT L1.out hz2)
                clear hz2
                go_wp2_with fail
                refine (l02Compare_any _ _ _ _ _ (okR_nat (by omega)) (okR_nat (by omega))).mono ?_
                rintro e z3 ⟨rfl, hz3⟩
                have L3 := Lib.hid (bT HBW2.out (bT L2.out hz3))
                clear hz3
                go_wp2_with fail
                go_ret
                exact ⟨ret_int (by rw [HE.out, cmpW, hxl, hyl]), L3.out⟩
            · have HE := Lib.hid ((HR2.out k HC.out).trans (cmpL_end (xs := xs) (ys := ys) (k := k) (by omega) (by omega) (by omega)))
              clear HX2 HY2
              go_wp2_with fail
              refine (whole_any _ _).mono ?_
              rintro e z1 ⟨rfl, hz1⟩
              have L1 := Lib.hid (bT HZ.out hz1)
              clear hz1
              go_wp2_with fail
              refine (whole_any _ _).mono ?_
              rintro e z2 ⟨rfl, hz2⟩
              have L2 := Lib.hid (bT L1.out hz2)
              clear hz2
              go_wp2_with fail
              refine (l02Compare_any _ _ _ _ _ (okR_nat (by omega)) (okR_nat (by omega))).mono ?_
              rintro e z3 ⟨rfl, hz3⟩
              have L3 := Lib.hid (bT HBW2.out (bT L2.out hz3))
              clear hz3
              go_wp2_with fail
              go_ret
              exact ⟨ret_int (by rw [HE.out, cmpW, hxl, hyl]), L3.out⟩
set_option maxHeartbeats 2000000 in
theorem CompareTrainsS_any (ps qs : List (Int × Int)) (va vb : Value) (w : World) (ha : SlP w va ps) (hb : SlP w vb qs) (hmax : ps.length ≤ 1000000000000) (hmax2 : qs.length ≤ 1000000000000) :
    Calls Try.prog 48 #[va, vb] w fun e w' => e = .returned (.int .i64 (ctV ps qs)) ∧ Below w.heap.size w w' := by
  have HA := Lib.hid ha
  have HB := Lib.hid hb
  have T1 := Lib.hid (l05Ok_any ps va w ha hmax)
  have T2 := Lib.hid (fun W (h : SlP W vb qs) => l05Ok_any qs vb W h hmax2)
  clear ha hb
  cases h : okT ps
  · rw [ct_no1 h]
    rw [h] at T1
    clear h
    go_enter Try.func48, Try.ntmps48
    go_wp2_with fail
    refine T1.out.mono ?_
    rintro e w1 ⟨rfl, hb1⟩
    have L1 := Lib.hid hb1
    clear hb1
    go_wp2_with fail
    go_ret
    exact ⟨rfl, L1.out⟩
  · cases h2 : okT qs
    · rw [ct_no2 h2]
      rw [h] at T1
      rw [h2] at T2
      clear h h2
      go_enter Try.func48, Try.ntmps48
      go_wp2_with fail
      refine T1.out.mono ?_
      rintro e w1 ⟨rfl, hb1⟩
      have HB1 := Lib.hid (HB.out.keep hb1)
      have L1 := Lib.hid hb1
      clear hb1
      go_wp2_with fail
      refine (T2.out _ HB1.out).mono ?_
      rintro e w2 ⟨rfl, hb2⟩
      have L2 := Lib.hid (bT L1.out hb2)
      clear hb2
      go_wp2_with fail
      go_ret
      exact ⟨rfl, L2.out⟩
    · rw [h] at T1
      rw [h2] at T2
      have HC := Lib.hid (fun W (x : SlP W va ps) (y : SlP W vb qs) => l06Compare_any ps qs va vb W x y h h2)
      clear h h2
      go_enter Try.func48, Try.ntmps48
      go_wp2_with fail
      refine T1.out.mono ?_
      rintro e w1 ⟨rfl, hb1⟩
      have HA1 := Lib.hid (HA.out.keep hb1)
      have HB1 := Lib.hid (HB.out.keep hb1)
      have L1 := Lib.hid hb1
      clear hb1
      go_wp2_with fail
      refine (T2.out _ HB1.out).mono ?_
      rintro e w2 ⟨rfl, hb2⟩
      have HA2 := Lib.hid (HA1.out.keep hb2)
      have HB2 := Lib.hid (HB1.out.keep hb2)
      have L2 := Lib.hid (bT L1.out hb2)
      clear hb2
      go_wp2_with fail
      refine (HC.out _ HA2.out HB2.out).mono ?_
      rintro e w3 ⟨rfl, hb3⟩
      have L3 := Lib.hid (bT L2.out hb3)
      clear hb3
      go_wp2_with fail
      go_ret
      exact ⟨rfl, L3.out⟩
end Go.Proofs.Ytbfiacodglckiaa

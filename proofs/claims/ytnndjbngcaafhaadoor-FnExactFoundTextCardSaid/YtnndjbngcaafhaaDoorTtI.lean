/-
  The contracts of spec.TrainText and impl.TrainText; the walk of laws.FnExactTrainText.
-/
import Derived.Test.YtnndjbngcaafhaaDoorTt
import Derived.Test.YtnndjbngcaafhaaDoorBox
namespace Go.Proofs.YtnndjbngcaafhaaDoor
open Go.RowKit

theorem infoTx : (Tryd.prog.info? 9).map (fun i => (i.zero, i.size, i.bytes)) = some (some (.string ⟨#[]⟩), 1, 16) := by kernel_rfl
theorem txts_len (ps : List (Int × Int)) : (txts ps).length = ps.length := by simp [txts]
theorem txts_take {ps : List (Int × Int)} {k : Nat} (h : k < ps.length) : txts (ps.take (k + 1)) = txts (ps.take k) ++ [pT (pat ps k)] := by
  unfold txts; rw [pat_take h, List.map_append]; rfl
theorem jC_snoc (a : List ByteArray) (s : ByteArray) : jC (a ++ [s]) = jC a ++ [.string s] := by simp [jC]
/-- What stands in the region of a round: the words, the pair in its box, the table. -/
def TtS (w1 : World) (words : Value) (ss : List ByteArray) (n c : Nat) (x y : Int) (W : World) : Prop :=
  W.ownsRow w1.heap.size 9 1 words n (jC ss) ∧ Box2 W c x y ∧ Below w1.heap.size w1 W ∧ Pow10 W
theorem TtS.keep {w1 : World} {words : Value} {ss : List ByteArray} {n c : Nat} {x y : Int} {W W' : World} (hb : Below W.heap.size W W') (h : TtS w1 words ss n c x y W) : TtS w1 words ss n c x y W' :=
  ⟨own_keep h.1 hb, h.2.1.keep hb, bT h.2.2.1 hb, Pow10.keep hb h.2.2.2⟩
theorem TtS.drew {w1 : World} {words : Value} {ss : List ByteArray} {n c : Nat} {x y : Int} {W : World} (h : TtS w1 words ss n c x y W) : TtS w1 words ss n c x y W.drew :=
  TtS.keep (W := W) (W' := W.drew) ⟨rfl, rfl, rfl, Nat.le_refl _, fun _ _ => rfl⟩ h
def TwRel (w1 : World) (ps : List (Int × Int)) (words i : Value) (wr : World) : Prop :=
  ∃ k : Nat, k ≤ ps.length ∧ i = .int .i64 k ∧ wr.ownsRow w1.heap.size 9 1 words k (jC (txts (ps.take k))) ∧ Below w1.heap.size w1 wr
theorem src1 (W : World) (n : Nat) (x : Value) (t : TypeId) (h : W.heap.size = n) : ∀ (j : Nat) (u : Value), [x][j]? = some u → (W.alloc (.cells #[x] t)).cell? ((⟨n, 0, none⟩ : Addr).add j) = some u := by
  subst h
  intro j u hj
  match j, hj with
  | 0, hj => simp at hj; subst hj; simp [go_sem, Addr.add]
  | (j + 1), hj => simp at hj
theorem bel_grownT {a b c : World} {row : Option Nat} (h : Below a.heap.size a b) (g : b.grownBy c row) (hr : ∀ r, row = some r → a.heap.size ≤ r) : Below a.heap.size a c :=
  ⟨g.os.trans h.os, g.tape.trans h.tape, g.output.trans h.output, Nat.le_trans h.size g.size, fun k hk => (g.block k (Nat.lt_of_lt_of_le hk h.size) (fun e => by have := hr k e.symm; omega)).trans (h.block k hk)⟩
set_option maxRecDepth 100000 in
set_option maxHeartbeats 8000000 in
theorem TrainTextI_any (ps : List (Int × Int)) (v : Value) (w : World) (hp : Pow10 w) (ha : SlP w v ps) (hmax : ps.length ≤ 1000000000000) :
    Calls Tryd.prog 46 #[v] w fun e w' => e = .returned (.string (ttB ps)) ∧ Below w.heap.size w w' := by
  obtain ⟨i0, hi, hz0, hz1, hz2⟩ := info_parts infoTx
  cases h : okT ps
  · rw [tt_no h]
    go_enter Tryd.func46, Tryd.ntmps46
    go_wp2_with fail
    refine (isTrain_any ps _ _ ha hmax).mono ?_
    rw [h]
    rintro e w1 ⟨rfl, hb⟩
    go_wp2_with fail
    go_ret
    exact ⟨rfl, hb⟩
  · have h5 := (okT_iff.1 h).1
    have HOK := Lib.hid h
    have HV := Lib.hid ha
    have HPW := Lib.hid hp
    obtain ⟨ao, cap, rfl, _⟩ := ha
    clear hp
    by_cases h0 : ps.length = 0
    · have HR := Lib.hid (tt_nil h h0)
      have b0 : ((ps.length : Int) == 0) = true := by rw [h0]; rfl
      clear h0
      go_enter Tryd.func46, Tryd.ntmps46
      go_wp2_with fail
      refine (isTrain_any ps _ _ HV.out hmax).mono ?_
      rw [h]
      rintro e w1 ⟨rfl, hb⟩
      have HB := Lib.hid hb
      clear hb h
      go_wp2_with fail
      go_ret
      exact ⟨ret_txt HR.out.symm, HB.out⟩
    · have HR := Lib.hid (tt_some h h0)
      have b0 : ((ps.length : Int) == 0) = false := by rw [beq_eq_false_iff_ne]; omega
      clear h0
      go_enter Tryd.func46, Tryd.ntmps46
      go_wp2_with fail
      refine (isTrain_any ps _ _ HV.out hmax).mono ?_
      rw [h]
      rintro e w1 ⟨rfl, hb⟩
      have V := Lib.hid (HV.out.keep hb)
      have B := Lib.hid hb
      have P1 := Lib.hid (Pow10.keep hb HPW.out)
      clear hb h HV HPW
      have RS := Lib.hid (show TwRel w1 ps (.slice none 0 0) (.int .i64 0) w1 from ⟨0, Nat.zero_le _, rfl, World.ownsRow_nil _ _ _ _, bR _⟩)
      go_wp2_with fail
      go_loopw [3, 14] (fun words i wr => TwRel w1 ps words i wr) (fun _ i _ => ps.length - (intOf i).toNat)
      case atStart => exact RS.out
      case round =>
        obtain ⟨k, hk, rfl, hown, hbw⟩ := hrel
        have HO := Lib.hid hown
        have HB := Lib.hid hbw
        have HOB := Lib.hid (own_blk hown)
        have hsz := hbw.size
        clear hown hbw RS
        by_cases hlt : k < ps.length
        · obtain ⟨ao', cap', e', ha'⟩ := V.out
          injection e' with e1 e2 e3
          subst e1 e3
          obtain ⟨g, rfl, hg, hc⟩ := ha' (by omega)
          obtain ⟨c1, c2⟩ := (hc.keep hg HB.out) k hlt
          have hg' : g < wr.heap.size := Nat.lt_of_lt_of_le hg HB.out.size
          obtain ⟨a1, a2, a3, a4⟩ := okT_at HOK.out hlt
          have HTK := Lib.hid (show txts (ps.take (k + 1)) = txts (ps.take k) ++ [decT (pat ps k).1 ++ ⟨#[58]⟩ ++ decT (pat ps k).2] from txts_take hlt)
          clear hc hg ha' e2
          generalize (pat ps k).1 = x at *
          generalize (pat ps k).2 = y at *
          have z1 := decT_size (n := x) (by omega) (by omega)
          have z2 := decT_size (n := y) (by omega) (by omega)
          have zc : (⟨#[58]⟩ : ByteArray).size = 1 := rfl
          have q1 := strAdd (decT x) ⟨#[58]⟩ (by omega) (by omega)
          have q2 := strAdd (decT x ++ ⟨#[58]⟩) (decT y) (by rw [cat_size]; omega) (by omega)
          have T0 := Lib.hid (show TtS w1 _ (txts (ps.take k)) k wr.heap.size x y (wr.alloc (.cells #[.int .i64 x, .int .i64 y] 54)) from
            ⟨HO.out.alloc _, Box2.new wr x y 54, bA HB.out _, Pow10.keep (bA HB.out _) P1.out⟩)
          have hlW : w1.heap.size < (wr.alloc (.cells #[.int .i64 x, .int .i64 y] 54)).heap.size := by simp; omega
          obtain ⟨y0, y1, _, _, y4⟩ := T0.out.2.1
          clear z1 z2 zc HO
          go_wp2_with fail
          generalize wr.alloc (.cells #[.int .i64 x, .int .i64 y] 54) = W0 at *
          generalize wr.heap.size = c at *
          have T0d := Lib.hid T0.out.drew
          go_region_law (first
            | (refine step_append_lies _ (by rfl) _ _ 51 (by rfl) w1.heap.size 9 i0 (.string ⟨#[]⟩) 1 16 Tryd.underlying51 hi hz0 hz1 hz2 (by rfl) (by decide) _ k (jC (txts (ps.take k))) (by rfl) (T2.out.1.alloc _) ⟨_, 0, none⟩ 1 1 [.string (decT x ++ ⟨#[58]⟩ ++ decT y)] (by rfl) (by rfl) (src1 _ _ _ _ (by rfl)) (by intro u hu; simp at hu; subst hu; rfl) (by omega) (by unfold maxLen; omega) (by omega) (by have := T2.out.2.2.1.size; simp; omega) _ (by rfl) ?_; intro g' cap' w5 hown5 hg5 hat5 hlt5; have N5 := Lib.hid hown5; have G5 := Lib.hid hg5; clear hown5 hg5 hat5 hlt5)
            | (go_simp; go_at_call 71; refine (DecimalT _ _ T1.out.2.2.2 (by omega) (by omega)).mono ?_; rintro e w' ⟨rfl, hb⟩; have T2 := Lib.hid (TtS.keep hb T1.out); obtain ⟨u0, u1, _, _, u4⟩ := T2.out.2.1; clear hb)
            | (go_simp; go_at_call 71; refine (DecimalT _ _ T0d.out.2.2.2 (by omega) (by omega)).mono ?_; rintro e w' ⟨rfl, hb⟩; have T1 := Lib.hid (TtS.keep hb T0d.out); obtain ⟨v0, v1, _, _, v4⟩ := T1.out.2.1; clear hb))
          all_goals go_wp2_with fail
          all_goals exact ⟨⟨k + 1, hlt, by go_num, by rw [HTK.out, jC_snoc]; exact N5.out, bel_grownT (bA T2.out.2.2.1 _) G5.out (fun r e => (HOB.out r e).1)⟩, by simp [intOf]; omega⟩
        · obtain rfl : k = ps.length := by omega
          have SL := Lib.hid (show SlT wr _ (txts ps) from slT_of (by have h3 := HO.out; rw [List.take_length] at h3; rw [txts_len]; exact h3))
          have JJ := Lib.hid (Join_any (txts ps) _ wr SL.out (by rw [txts_len]; omega) (fun s hs => by
            obtain ⟨p, hp, rfl⟩ := List.mem_map.1 hs
            have := pT_size ((okT_iff.1 HOK.out).2 p hp)
            omega))
          clear HO
          go_wp2_with fail
          refine JJ.out.mono ?_
          rintro e w2 ⟨rfl, hb2⟩
          have HB2 := Lib.hid (bT B.out (bT HB.out hb2))
          clear hb2
          go_wp2_with fail
          go_ret
          exact ⟨ret_txt HR.out.symm, HB2.out⟩
end Go.Proofs.YtnndjbngcaafhaaDoor

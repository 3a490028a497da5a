/-
  The text of a found train: the plain words, and the contracts of impl.FoundText and spec.FoundText.
-/
import Derived.Test.YtnndjbngcaafhaaDoorFd
import Derived.Test.YtnndjbngcaafhaaDoorTtI
import Derived.Test.YtnndjbngcaafhaaDoorWText
import Derived.Test.YtnndjbngcaafhaaDoorEqP
namespace Go.Proofs.YtnndjbngcaafhaaDoor
open Go.RowKit

/-- What FoundText returns. -/
def ftB (ps : List (Int × Int)) (n d : Int) : ByteArray := if okT ps && okR n d then ttB ps ++ ⟨#[32]⟩ ++ txtV n d else ⟨#[]⟩
theorem ft_no1 {ps : List (Int × Int)} {n d : Int} (h : okT ps = false) : ftB ps n d = ⟨#[]⟩ := by simp [ftB, h]
theorem ft_no2 {ps : List (Int × Int)} {n d : Int} (h : okR n d = false) : ftB ps n d = ⟨#[]⟩ := by simp [ftB, h]
theorem ft_yes {ps : List (Int × Int)} {n d : Int} (h : okT ps = true) (h1 : okR n d = true) : ftB ps n d = ttB ps ++ ⟨#[32]⟩ ++ txtV n d := by simp [ftB, h, h1]
theorem tt_size {ps : List (Int × Int)} (h : okT ps = true) : (ttB ps).size ≤ 220 := by
  by_cases h0 : ps.length = 0
  · rw [tt_nil h h0]; decide
  · rw [tt_some h h0, ← outK_all]
    have := outK_size h ps.length (Nat.le_refl _)
    have := (okT_iff.1 h).1
    omega
theorem txtV_size {n d : Int} (h : okR n d = true) : (txtV n d).size ≤ 43 := by
  obtain ⟨b1, b2, b3, b4⟩ := okR_bd h
  have z1 := decT_size (n := n) (by omega) (by omega)
  have z2 := decT_size (n := d) (by omega) (by omega)
  have z3 : (⟨#[47]⟩ : ByteArray).size = 1 := rfl
  unfold txtV
  split
  · omega
  · rw [cat_size, cat_size]; omega
/-- What stands while the text is joined. -/
def FtS (w : World) (b : Nat) (v : Value) (ps : List (Int × Int)) (n d : Int) (W : World) : Prop := BoxF W b v n d ∧ SlP W v ps ∧ Below w.heap.size w W
theorem FtS.keep {w W W' : World} {b : Nat} {v : Value} {ps : List (Int × Int)} {n d : Int} (hb : Below W.heap.size W W') (h : FtS w b v ps n d W) : FtS w b v ps n d W' := ⟨h.1.keep hb, h.2.1.keep hb, bT h.2.2 hb⟩
theorem FtS.drew {w W : World} {b : Nat} {v : Value} {ps : List (Int × Int)} {n d : Int} (h : FtS w b v ps n d W) : FtS w b v ps n d W.drew := FtS.keep (W := W) (W' := W.drew) ⟨rfl, rfl, rfl, Nat.le_refl _, fun _ _ => rfl⟩ h
set_option maxRecDepth 100000 in
set_option maxHeartbeats 4000000 in
theorem FoundTextS_any (ps : List (Int × Int)) (n d : Int) (v : Value) (w : World) (ha : SlP w v ps) (hmax : ps.length ≤ 1000000000000) :
    Calls Tryd.prog 21 #[.agg #[v, .int .i64 n, .int .i64 d]] w fun e w' => e = .returned (.string (ftB ps n d)) ∧ Below w.heap.size w w' := by
  have B0 := Lib.hid (BoxF.new w v n d 47)
  have L0 := Lib.hid (bA (bR w) (.cells #[v, .int .i64 n, .int .i64 d] 47))
  have V0 := Lib.hid (ha.keep L0.out)
  have OK := Lib.hid (l05Ok_any ps v _ V0.out hmax)
  clear ha
  cases h : okT ps
  · rw [ft_no1 h]
    rw [h] at OK
    clear h
    go_enter Tryd.func21, Tryd.ntmps21
    go_wp2_with fail
    refine OK.out.mono ?_
    rintro e w1 ⟨rfl, hb⟩
    have L1 := Lib.hid (bT L0.out hb)
    obtain ⟨r0, r1, r2, _, _, _, r6⟩ := B0.out.keep hb
    clear hb
    go_wp2_with fail
    go_ret
    exact ⟨rfl, L1.out⟩
  · rw [h] at OK
    have OR := Lib.hid (fun W => l02Ok_any n d W)
    cases h1 : okR n d
    · rw [ft_no2 h1]
      rw [h1] at OR
      clear h h1
      go_enter Tryd.func21, Tryd.ntmps21
      go_wp2_with fail
      refine OK.out.mono ?_
      rintro e w1 ⟨rfl, hb⟩
      have L1 := Lib.hid (bT L0.out hb)
      obtain ⟨r0, r1, r2, _, _, _, r6⟩ := B0.out.keep hb
      clear hb
      go_wp2_with fail
      refine (OR.out _).mono ?_
      rintro e w2 ⟨rfl, hb⟩
      have L2 := Lib.hid (bT L1.out hb)
      clear hb
      go_wp2_with fail
      go_ret
      exact ⟨rfl, L2.out⟩
    · rw [h1] at OR
      rw [ft_yes h h1]
      have z1 := tt_size h
      have z2 := txtV_size h1
      have z3 : (⟨#[32]⟩ : ByteArray).size = 1 := rfl
      have q1 := strAdd (ttB ps) ⟨#[32]⟩ (by omega) (by omega)
      have q2 := strAdd (ttB ps ++ ⟨#[32]⟩) (txtV n d) (by rw [cat_size]; omega) (by omega)
      have TX := Lib.hid (fun W (hv : SlP W v ps) => l05Text_any ps v W hv h)
      have RX := Lib.hid (fun W => l02Text_any n d W h1)
      clear h h1 z1 z2 z3
      generalize ttB ps = tA at *
      generalize txtV n d = tB at *
      go_enter Tryd.func21, Tryd.ntmps21
      go_wp2_with fail
      refine OK.out.mono ?_
      rintro e w1 ⟨rfl, hb⟩
      have L1 := Lib.hid (bT L0.out hb)
      have V1 := Lib.hid (V0.out.keep hb)
      have B1 := Lib.hid (B0.out.keep hb)
      clear hb
      obtain ⟨r0, r1, r2, _, _, _, r6⟩ := B1.out
      go_wp2_with fail
      refine (OR.out _).mono ?_
      rintro e w2 ⟨rfl, hb⟩
      have ST := Lib.hid (show FtS w w.heap.size v ps n d w2.drew from FtS.drew ⟨B1.out.keep hb, V1.out.keep hb, bT L1.out hb⟩)
      obtain ⟨s0, s1, s2, _, _, _, s6⟩ := B1.out.keep hb
      clear hb r0 r1 r2 r6
      go_wp2_with fail
      go_region_with (first
        | (go_at_call 42; refine (TX.out _ ST.out.2.1).mono ?_; rintro e w' ⟨rfl, hb⟩; have ST := Lib.hid (FtS.keep hb ST.out); obtain ⟨u0, u1, u2, _, _, _, u6⟩ := ST.out.1)
        | (go_at_call 43; refine (RX.out _ ).mono ?_; rintro e w' ⟨rfl, hb⟩; have ST := Lib.hid (FtS.keep hb ST.out); obtain ⟨t0, t1, t2, _, _, _, t6⟩ := ST.out.1))
      all_goals go_wp2_with fail
      all_goals go_ret
      all_goals exact ⟨rfl, ST.out.2.2⟩
set_option maxRecDepth 100000 in
set_option maxHeartbeats 4000000 in
theorem FoundTextI_any (ps : List (Int × Int)) (n d : Int) (v : Value) (w : World) (hp : Pow10 w) (ha : SlP w v ps) (hmax : ps.length ≤ 1000000000000) :
    Calls Tryd.prog 23 #[.agg #[v, .int .i64 n, .int .i64 d]] w fun e w' => e = .returned (.string (ftB ps n d)) ∧ Below w.heap.size w w' := by
  have HP := Lib.hid hp
  clear hp
  have B0 := Lib.hid (BoxF.new w v n d 47)
  have L0 := Lib.hid (bA (bR w) (.cells #[v, .int .i64 n, .int .i64 d] 47))
  have V0 := Lib.hid (ha.keep L0.out)
  have OK := Lib.hid (isTrain_any ps v _ V0.out hmax)
  clear ha
  cases h : okT ps
  · rw [ft_no1 h]
    rw [h] at OK
    clear h
    go_enter Tryd.func23, Tryd.ntmps23
    go_wp2_with fail
    refine OK.out.mono ?_
    rintro e w1 ⟨rfl, hb⟩
    have L1 := Lib.hid (bT L0.out hb)
    obtain ⟨r0, r1, r2, _, _, _, r6⟩ := B0.out.keep hb
    clear hb
    go_wp2_with fail
    go_ret
    exact ⟨rfl, L1.out⟩
  · rw [h] at OK
    have OR := Lib.hid (fun W => valid_any n d W)
    cases h1 : okR n d
    · rw [ft_no2 h1]
      rw [h1] at OR
      clear h h1
      go_enter Tryd.func23, Tryd.ntmps23
      go_wp2_with fail
      refine OK.out.mono ?_
      rintro e w1 ⟨rfl, hb⟩
      have L1 := Lib.hid (bT L0.out hb)
      obtain ⟨r0, r1, r2, _, _, _, r6⟩ := B0.out.keep hb
      clear hb
      go_wp2_with fail
      refine (OR.out _).mono ?_
      rintro e w2 ⟨rfl, hb⟩
      have L2 := Lib.hid (bT L1.out hb)
      clear hb
      go_wp2_with fail
      go_ret
      exact ⟨rfl, L2.out⟩
    · rw [h1] at OR
      rw [ft_yes h h1]
      have z1 := tt_size h
      have z2 := txtV_size h1
      have z3 : (⟨#[32]⟩ : ByteArray).size = 1 := rfl
      have q1 := strAdd (ttB ps) ⟨#[32]⟩ (by omega) (by omega)
      have q2 := strAdd (ttB ps ++ ⟨#[32]⟩) (txtV n d) (by rw [cat_size]; omega) (by omega)
      have TX := Lib.hid (fun W (hp : Pow10 W) (hv : SlP W v ps) => TrainTextI_any ps v W hp hv hmax)
      have RX := Lib.hid (fun W (hp : Pow10 W) => RatioTextI_any n d W hp)
      rw [← txtR_yes h1] at RX
      clear h h1 z1 z2 z3
      generalize ttB ps = tA at *
      generalize txtV n d = tB at *
      go_enter Tryd.func23, Tryd.ntmps23
      go_wp2_with fail
      refine OK.out.mono ?_
      rintro e w1 ⟨rfl, hb⟩
      have L1 := Lib.hid (bT L0.out hb)
      have V1 := Lib.hid (V0.out.keep hb)
      have B1 := Lib.hid (B0.out.keep hb)
      clear hb
      obtain ⟨r0, r1, r2, _, _, _, r6⟩ := B1.out
      go_wp2_with fail
      refine (OR.out _).mono ?_
      rintro e w2 ⟨rfl, hb⟩
      have ST := Lib.hid (show FtS w w.heap.size v ps n d w2.drew from FtS.drew ⟨B1.out.keep hb, V1.out.keep hb, bT L1.out hb⟩)
      obtain ⟨s0, s1, s2, _, _, _, s6⟩ := B1.out.keep hb
      clear hb r0 r1 r2 r6
      go_wp2_with fail
      go_region_with (first
        | (go_at_call 46; refine (TX.out _ (HP.out.keep ST.out.2.2) ST.out.2.1).mono ?_; rintro e w' ⟨rfl, hb⟩; have ST := Lib.hid (FtS.keep hb ST.out); obtain ⟨u0, u1, u2, _, _, _, u6⟩ := ST.out.1)
        | (go_at_call 47; refine (RX.out _ (HP.out.keep ST.out.2.2)).mono ?_; rintro e w' ⟨rfl, hb⟩; have ST := Lib.hid (FtS.keep hb ST.out); obtain ⟨t0, t1, t2, _, _, _, t6⟩ := ST.out.1))
      all_goals go_wp2_with fail
      all_goals go_ret
      all_goals exact ⟨rfl, ST.out.2.2⟩
end Go.Proofs.YtnndjbngcaafhaaDoor

/-
  Torque along a train, and least torques: codes; PullAlong both sides; LeastPull, the document's side.
-/
import Derived.Test.YtclefibjmnabbaaPwA
import Derived.Test.YtclefibjmnabbaaRaO
namespace Go.Proofs.Ytclefibjmnabbaa
open Go.RowKit

theorem pullCode_any (ps : List (Int × Int)) (q l : Int) (v : Value) (w : World) (ha : SlP w v ps) (hmax : ps.length ≤ 1000000000000) :
    Calls Try.prog 44 #[v, .int .i64 q, .int .i64 l] w (OneN (paC ps q l) w) := by
  have CT := Lib.hid (fun W h => ValidTrainI_any ps v W h hmax)
  cases h1 : okT ps
  · rw [paC_1 h1]
    rw [h1] at CT
    go_enter Try.func44, Try.ntmps44
    go_wp2_with fail
    refine (CT.out _ ha).mono ?_
    rintro e w1 ⟨rfl, hb⟩
    go_wp2_with fail
    go_ret
    exact ⟨rfl, hb⟩
  rw [h1] at CT
  cases h2 : inB q 0 1000000
  · rw [paC_2 h1 h2]
    go_enter Try.func44, Try.ntmps44
    go_wp2_with fail
    refine (CT.out _ ha).mono ?_
    rintro e w1 ⟨rfl, hb⟩
    have L := Lib.hid hb
    clear hb ha
    go_wp2_with (go_at_call 54; refine (isBetween_any _ _ _ _).mono ?_; rintro e w1 ⟨rfl, rfl⟩)
    go_ret
    exact ⟨rfl, L.out⟩
  cases h3 : inB l 0 1000
  · rw [paC_3 h1 h2 h3]
    go_enter Try.func44, Try.ntmps44
    go_wp2_with fail
    refine (CT.out _ ha).mono ?_
    rintro e w1 ⟨rfl, hb⟩
    have L := Lib.hid hb
    clear hb ha
    go_wp2_with (go_at_call 54; refine (isBetween_any _ _ _ _).mono ?_; rintro e w1 ⟨rfl, rfl⟩)
    go_ret
    exact ⟨rfl, L.out⟩
  rw [paC_0 h1 h2 h3]
  go_enter Try.func44, Try.ntmps44
  go_wp2_with fail
  refine (CT.out _ ha).mono ?_
  rintro e w1 ⟨rfl, hb⟩
  have L := Lib.hid hb
  clear hb ha
  go_wp2_with (go_at_call 54; refine (isBetween_any _ _ _ _).mono ?_; rintro e w1 ⟨rfl, rfl⟩)
  go_ret
  exact ⟨rfl, L.out⟩
set_option maxHeartbeats 2000000 in
theorem PullAlongI_any (ps : List (Int × Int)) (q l : Int) (v : Value) (w : World) (ha : SlP w v ps) (hmax : ps.length ≤ 1000000000000) :
    Calls Try.prog 12 #[v, .int .i64 q, .int .i64 l] w (SlC (paL ps q l) (paC ps q l) w) := by
  have CC := Lib.hid (pullCode_any ps q l v w ha hmax)
  have HA := Lib.hid ha
  rcases paC_cases ps q l with ⟨h0, h1, h2, h3⟩ | ⟨h0, _⟩
  · rw [paL_yes h0, h0]
    rw [h0] at CC
    have CA := Lib.hid (fun W (h : SlP W v ps) => pullsAlong_any l q ps v W h h1 (inB_true.1 h3) (inB_true.1 h2))
    clear ha h0 h1 h2 h3
    go_enter Try.func12, Try.ntmps12
    go_wp2_with fail
    refine CC.out.mono ?_
    rintro e w1 ⟨rfl, hb⟩
    have L1 := Lib.hid hb
    clear hb
    go_wp2_with fail
    refine (CA.out _ (HA.out.keep L1.out)).mono ?_
    rintro e w2 ⟨vr, rfl, hr, hb⟩
    have R := Lib.hid (own_lower hr L1.out.size)
    have L2 := Lib.hid (bT L1.out hb)
    clear hr hb
    go_wp2_with fail
    go_ret2
    exact ⟨_, rfl, R.out, L2.out⟩
  · rw [paL_no h0]
    have hcb : (paC ps q l != 0) = true := by simpa using h0
    clear h0
    generalize paC ps q l = c at *
    go_enter Try.func12, Try.ntmps12
    go_wp2_with fail
    refine CC.out.mono ?_
    rintro e w1 ⟨rfl, hb⟩
    have L1 := Lib.hid hb
    clear hb
    go_wp2_with fail
    go_ret2
    exact ⟨_, rfl, World.ownsRow_nil _ _ _ _, L1.out⟩
set_option maxHeartbeats 2000000 in
theorem PullAlongS_any (ps : List (Int × Int)) (q l : Int) (v : Value) (w : World) (ha : SlP w v ps) (hmax : ps.length ≤ 1000000000000) :
    Calls Try.prog 10 #[v, .int .i64 q, .int .i64 l] w (SlC (paL ps q l) (paC ps q l) w) := by
  have CT := Lib.hid (fun W h => l05Ok_any ps v W h hmax)
  cases h1 : okT ps
  · rw [paL_no (by rw [paC_1 h1]; decide), paC_1 h1]
    rw [h1] at CT
    go_enter Try.func10, Try.ntmps10
    go_wp2_with fail
    refine (CT.out _ ha).mono ?_
    rintro e w1 ⟨rfl, hb⟩
    go_wp2_with fail
    go_ret2
    exact ⟨_, rfl, World.ownsRow_nil _ _ _ _, hb⟩
  rw [h1] at CT
  cases h2 : inB q 0 1000000
  · rw [paL_no (by rw [paC_2 h1 h2]; decide), paC_2 h1 h2]
    go_enter Try.func10, Try.ntmps10
    go_wp2_with fail
    refine (CT.out _ ha).mono ?_
    rintro e w1 ⟨rfl, hb⟩
    have L := Lib.hid hb
    clear hb ha
    go_wp2_with (go_at_call 41; refine (l00In_any _ _ _ _).mono ?_; rintro e w1 ⟨rfl, rfl⟩)
    go_ret2
    exact ⟨_, rfl, World.ownsRow_nil _ _ _ _, L.out⟩
  cases h3 : inB l 0 1000
  · rw [paL_no (by rw [paC_3 h1 h2 h3]; decide), paC_3 h1 h2 h3]
    go_enter Try.func10, Try.ntmps10
    go_wp2_with fail
    refine (CT.out _ ha).mono ?_
    rintro e w1 ⟨rfl, hb⟩
    have L := Lib.hid hb
    clear hb ha
    go_wp2_with (go_at_call 41; refine (l00In_any _ _ _ _).mono ?_; rintro e w1 ⟨rfl, rfl⟩)
    go_ret2
    exact ⟨_, rfl, World.ownsRow_nil _ _ _ _, L.out⟩
  rw [paL_yes (paC_0 h1 h2 h3), paC_0 h1 h2 h3]
  have CA := Lib.hid (fun W (h : SlP W v ps) => l13Along_any l q ps v W h h1 (inB_true.1 h3) (inB_true.1 h2))
  go_enter Try.func10, Try.ntmps10
  go_wp2_with fail
  refine (CT.out _ ha).mono ?_
  rintro e w1 ⟨rfl, hb⟩
  have L := Lib.hid hb
  have A1 := Lib.hid (ha.keep hb)
  clear hb ha
  go_wp2_with (go_at_call 41; refine (l00In_any _ _ _ _).mono ?_; rintro e w1 ⟨rfl, rfl⟩)
  refine (CA.out _ A1.out).mono ?_
  rintro e w2 ⟨vr, rfl, hr, hb⟩
  have R := Lib.hid (own_lower hr L.out.size)
  have L2 := Lib.hid (bT L.out hb)
  clear hr hb
  go_wp2_with fail
  go_ret2
  exact ⟨_, rfl, R.out, L2.out⟩
/-- The torque of the last arbor, read from the list. -/
theorem last_pa (l q : Int) (ps : List (Int × Int)) : at0 (paK l q ps ps.length) ps.length = paV l q ps := by
  rw [paK_at (Nat.le_refl _), List.take_of_length_le (Nat.le_refl _)]
set_option maxRecDepth 100000 in
set_option maxHeartbeats 8000000 in
theorem LeastPullS_any (ps : List (Int × Int)) (q l : Int) (v : Value) (w : World) (ha : SlP w v ps) (hmax : ps.length ≤ 1000000000000) :
    Calls Try.prog 18 #[v, .int .i64 q, .int .i64 l] w (TwoN (leE ps q l).1 (leE ps q l).2 w) := by
  have CT := Lib.hid (fun W h => l05Ok_any ps v W h hmax)
  cases h1 : okT ps
  · rw [leE_1 (by rw [paC_1 h1]; decide), paC_1 h1]
    rw [h1] at CT
    go_enter Try.func18, Try.ntmps18
    go_wp2_with fail
    refine (CT.out _ ha).mono ?_
    rintro e w1 ⟨rfl, hb⟩
    go_wp2_with fail
    go_ret2
    exact ⟨rfl, hb⟩
  rw [h1] at CT
  cases h2 : inB q 0 1000000
  · rw [leE_1 (by rw [paC_2 h1 h2]; decide), paC_2 h1 h2]
    go_enter Try.func18, Try.ntmps18
    go_wp2_with fail
    refine (CT.out _ ha).mono ?_
    rintro e w1 ⟨rfl, hb⟩
    have L := Lib.hid hb
    clear hb ha
    go_wp2_with (go_at_call 41; refine (l00In_any _ _ _ _).mono ?_; rintro e w1 ⟨rfl, rfl⟩)
    go_ret2
    exact ⟨rfl, L.out⟩
  cases h3 : inB l 0 1000
  · rw [leE_1 (by rw [paC_3 h1 h2 h3]; decide), paC_3 h1 h2 h3]
    go_enter Try.func18, Try.ntmps18
    go_wp2_with fail
    refine (CT.out _ ha).mono ?_
    rintro e w1 ⟨rfl, hb⟩
    have L := Lib.hid hb
    clear hb ha
    go_wp2_with (go_at_call 41; refine (l00In_any _ _ _ _).mono ?_; rintro e w1 ⟨rfl, rfl⟩)
    go_ret2
    exact ⟨rfl, L.out⟩
  have h0 := paC_0 h1 h2 h3
  have hl := inB_true.1 h3
  have CA := Lib.hid (fun (x : Nat) W (hx : x ≤ 1000000) (h : SlP W v ps) => l13Along_any l x ps v W h h1 hl (by omega))
  have HB := Lib.hid (fun (x : Nat) (hx : x ≤ 1000000) => paV_end (l := l) (q := (x : Int)) h1 hl (by omega) (k := ps.length) (Nat.le_refl _))
  have HLast := Lib.hid (fun (x : Nat) => last_pa l x ps)
  have HLen := Lib.hid (fun (x : Nat) => paK_len l x ps ps.length)
  have MO := Lib.hid (fun x y => enQ_mono (n := q) h1 hl (x := x) (y := y))
  have HQ := Lib.hid (fun (x : Nat) => show enQ ps q l x = decide (q ≤ paV l x ps) from rfl)
  rw [leE_0 h0]
  have hlen := (okT_iff.1 h1).1
  have hqq := inB_true.1 h2
  -- one look at the last arbor
  have LK := Lib.hid (show ∀ (x : Nat) (W : World), x ≤ 1000000 → SlP W v ps → Calls Try.prog 42 #[v, .int .i64 x, .int .i64 l] W (fun e w' => ∃ g cap, e = .returned (.slice (some ⟨g, 0, none⟩) (ps.length + 1) cap) ∧ w'.cell? ⟨g, ps.length, none⟩ = some (.int .i64 (paV l x ps)) ∧ Below W.heap.size W w') from fun x W hx hW =>
    (CA.out x W hx hW).mono (by
      rintro e w' ⟨vr, rfl, hr, hb⟩
      obtain ⟨ao2, cap2, rfl, hrd⟩ := sl64_of hr
      obtain ⟨g, rfl, hg, hc⟩ := hrd (by rw [HLen.out]; omega)
      have hcc := hc ps.length (by rw [HLen.out]; omega)
      rw [HLast.out] at hcc
      exact ⟨g, cap2, by rw [HLen.out], hcc, hb⟩))
  obtain ⟨ao, cap, rfl, _⟩ := id ha
  clear h0 h1 hl CA HLast HLen
  have hQ0 := HQ.out 1000000
  have hB0 := HB.out 1000000 (by omega)
  have LK0 := Lib.hid (fun W h => LK.out 1000000 W (by omega) h)
  have MN := Lib.hid (lstU_nil (p := enQ ps q l) (M := 1000000) MO.out)
  have HL3 := Lib.hid (luP_3 (p := enQ ps q l) (n := 1000000))
  have HL0 := Lib.hid (luP_0 (p := enQ ps q l) (n := 1000000))
  generalize luP (enQ ps q l) 1000000 = r at *
  generalize enQ ps q l = p at *
  cases hp : p 1000000
  · have HR := Lib.hid (HL3.out (MN.out hp))
    rw [hp] at hQ0
    have hlt : paV l (1000000 : Int) ps < q := by have := of_decide_eq_false hQ0.symm; simp at this; omega
    clear hQ0 hB0 MN HL3 HL0 MO HQ HB LK
    have LK0' := LK0
    simp only [Int.cast_ofNat_Int] at LK0'
    generalize paV l (1000000 : Int) ps = z at *
    go_enter Try.func18, Try.ntmps18
    go_wp2_with fail
    refine (CT.out _ ha).mono ?_
    rintro e w1 ⟨rfl, hb⟩
    have L := Lib.hid hb
    have A1 := Lib.hid (ha.keep hb)
    clear hb ha
    go_wp2_with (go_at_call 41; refine (l00In_any _ _ _ _).mono ?_; rintro e w1 ⟨rfl, rfl⟩)
    refine (LK0'.out _ A1.out).mono ?_
    rintro e w2 ⟨g, cap2, rfl, c0, hb⟩
    have L2 := Lib.hid (bT L.out hb)
    clear hb
    go_wp2_with fail
    go_ret2
    exact ⟨by rw [HR.out]; rfl, L2.out⟩
  · have RS := Lib.hid (show BsP p 1000001 0 1000000 from ⟨by omega, by omega, (fun j hj => by omega), hp⟩)
    rw [hp] at hQ0
    have hge : q ≤ paV l (1000000 : Int) ps := by have := of_decide_eq_true hQ0.symm; simpa using this
    have hge' : ¬ paV l (1000000 : Int) ps < q := by omega
    clear hQ0 hB0 MN HL3 hp
    have LK0' := LK0
    simp only [Int.cast_ofNat_Int] at LK0'
    generalize paV l (1000000 : Int) ps = z at *
    go_enter Try.func18, Try.ntmps18
    go_wp2_with fail
    refine (CT.out _ ha).mono ?_
    rintro e w1 ⟨rfl, hb⟩
    have L := Lib.hid hb
    have A1 := Lib.hid (ha.keep hb)
    clear hb ha
    go_wp2_with (go_at_call 41; refine (l00In_any _ _ _ _).mono ?_; rintro e w1 ⟨rfl, rfl⟩)
    refine (LK0'.out _ A1.out).mono ?_
    rintro e w2 ⟨g, cap2, rfl, c0, hb⟩
    have L2 := Lib.hid (bT L.out hb)
    have A2 := Lib.hid (A1.out.keep hb)
    clear hb LK0 LK0' A1 L
    go_wp2_with fail
    clear c0 hge hge'
    go_loopw [8, 9] (fun v8 v9 wr => ∃ lo hi : Nat, v8 = .int .i64 lo ∧ v9 = .int .i64 hi ∧ BsP p 1000001 lo hi ∧ Below w2.heap.size w2 wr) (fun v8 v9 _ => (intOf v9).toNat - (intOf v8).toNat)
    case atStart => exact ⟨0, 1000000, rfl, rfl, RS.out, bR _⟩
    case round =>
      obtain ⟨lo, hi, rfl, rfl, hs, hb⟩ := hrel
      have A3 := Lib.hid (A2.out.keep hb)
      have B3 := Lib.hid hb
      have L3 := Lib.hid (bT L2.out hb)
      have HS := Lib.hid hs
      have hi1 := hs.2.1
      have hle := hs.1
      clear hb hs RS
      by_cases hlt : lo < hi
      · obtain ⟨mid, hmid⟩ : ∃ mid, (lo + hi) / 2 = mid := ⟨_, rfl⟩
        have ec : ((lo : Int) + (hi : Int)) / 2 = (mid : Int) := by omega
        have hm1 : lo ≤ mid := by omega
        have hm2 : mid < hi := by omega
        have LM := Lib.hid (fun W h => LK.out mid W (by omega) h)
        have hQm := HQ.out mid
        clear hmid LK HQ HB HL0
        generalize paV l (mid : Int) ps = z at *
        go_wp2_with fail
        rw [ec]
        refine (LM.out _ A3.out).mono ?_
        rintro en w3 ⟨g, cap3, rfl, c0, hb⟩
        have L4 := Lib.hid (bT B3.out hb)
        clear hb
        cases hp : p mid
        · have HN := Lib.hid (HS.out.up MO.out hp hm2)
          rw [hp] at hQm
          have hz : ¬ q ≤ z := of_decide_eq_false hQm.symm
          clear hQm
          go_wp2_with fail
          go_roundw
          case rel => exact ⟨mid + 1, hi, by first | rfl | go_num, rfl, HN.out, L4.out⟩
          case measure => simp [intOf]; omega
        · have HN := Lib.hid (HS.out.down hp hm1 hm2)
          rw [hp] at hQm
          have hz : q ≤ z := of_decide_eq_true hQm.symm
          clear hQm
          go_wp2_with fail
          go_roundw
          case rel => exact ⟨lo, mid, rfl, by first | rfl | go_num, HN.out, L4.out⟩
          case measure => simp [intOf]; omega
      · obtain rfl : hi = lo := by omega
        have hv := HS.out.done MO.out
        have HR := Lib.hid (HL0.out (by rw [show (1000000 : Nat) + 1 = 1000001 from rfl, hv]; omega))
        have HV := Lib.hid (show (hi : Int) = ((lstU p (1000000 + 1) : Nat) : Int) from congrArg Nat.cast hv.symm)
        clear hv HL0 LK HQ HB
        go_wp2_with fail
        go_ret2
        exact ⟨by rw [HR.out]; exact ret_two HV.out rfl, L3.out⟩
end Go.Proofs.Ytclefibjmnabbaa

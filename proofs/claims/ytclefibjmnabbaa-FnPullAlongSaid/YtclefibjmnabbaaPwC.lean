/-
  Least torques along a train, the program's side: sort.Search with a function that holds three boxes.
-/
import Derived.Test.YtclefibjmnabbaaPwB
import Derived.Test.YtclefibjmnabbaaBs
namespace Go.Proofs.Ytclefibjmnabbaa
open Go.RowKit

/-- What a function value answers, from world w on: p at each number up to n. -/
def AnsrP (p : Nat → Bool) (n : Nat) (b1 b2 b3 : Nat) (w : World) : Prop :=
  ∀ (j : Nat) (W : World), j < n → Below w.heap.size w W → Calls Try.prog 48 #[.int .i64 j, .pointer (some ⟨b1, 0, none⟩), .pointer (some ⟨b2, 0, none⟩), .pointer (some ⟨b3, 0, none⟩)] W (BoolBel (p j) W)
set_option maxRecDepth 100000 in
set_option maxHeartbeats 2000000 in
theorem least1_anyP (p : Nat → Bool) (n b j : Nat) (b1 b2 b3 : Nat) (w W : World) (hf : AnsrP p n b1 b2 b3 w) (hj : j < n) (hW : Below w.heap.size w W) (hc : W.cell? ⟨b, 0, none⟩ = some (.func (.func 48) #[] #[.pointer (some ⟨b1, 0, none⟩), .pointer (some ⟨b2, 0, none⟩), .pointer (some ⟨b3, 0, none⟩)])) :
    Calls Try.prog 77 #[.int .i64 j, .pointer (some ⟨b, 0, none⟩)] W (BoolBel (p j) W) := by
  have HC := Lib.hid (hf j W hj hW)
  clear hf hj hW
  go_enter Try.func77, Try.ntmps77
  go_wp2_with fail
  refine HC.out.mono ?_
  rintro en w1 ⟨rfl, hb⟩
  go_wp2_with fail
  go_ret
  exact ⟨rfl, hb⟩
set_option maxRecDepth 100000 in
set_option maxHeartbeats 4000000 in
theorem search_anyP (p : Nat → Bool) (n b : Nat) (b1 b2 b3 : Nat) (w : World) (hn : n ≤ 10000000) (hf : AnsrP p n b1 b2 b3 w) (hm : ∀ x y, x ≤ y → p x = true → p y = true) (hb : b < w.heap.size) (hc : w.cell? ⟨b, 0, none⟩ = some (.func (.func 48) #[] #[.pointer (some ⟨b1, 0, none⟩), .pointer (some ⟨b2, 0, none⟩), .pointer (some ⟨b3, 0, none⟩)])) :
    Calls Try.prog 76 #[.int .i64 n, .func (.func 77) #[] #[.pointer (some ⟨b, 0, none⟩)]] w (OneN (lstU p n) w) := by
  have CL := Lib.hid (fun (j : Nat) (W : World) (hj : j < n) (hW : Below w.heap.size w W) => least1_anyP p n b j b1 b2 b3 w W hf hj hW ((hW.cell (p := ⟨b, 0, none⟩) hb).trans hc))
  have MO := Lib.hid hm
  clear hf hc hb hm
  go_enter Try.func76, Try.ntmps76
  go_wp2_with fail
  go_loopw [5, 6] (fun v5 v6 wr => ∃ lo hi : Nat, v5 = .int .i64 lo ∧ v6 = .int .i64 hi ∧ lo ≤ hi ∧ hi ≤ n ∧ ((∀ j, j < lo → p j = false) ∧ (∀ j, hi ≤ j → j < n → p j = true)) ∧ Below w.heap.size w wr) (fun v5 v6 _ => (intOf v6).toNat - (intOf v5).toNat)
  case atStart => exact ⟨0, n, rfl, rfl, Nat.zero_le _, Nat.le_refl _, ⟨fun j h => absurd h (Nat.not_lt_zero _), fun j h1 h2 => absurd h2 (by omega)⟩, bR _⟩
  case round =>
    obtain ⟨lo, hi, rfl, rfl, hle, hin, hs, hb⟩ := hrel
    have HB := Lib.hid hb
    have HS := Lib.hid hs
    clear hb hs
    by_cases hlt : lo < hi
    · obtain ⟨mid, hmid⟩ : ∃ mid, (lo + hi) / 2 = mid := ⟨_, rfl⟩
      have ec : ((lo : Int) + (hi : Int)) / 2 = (mid : Int) := by omega
      have hm1 : lo ≤ mid := by omega
      have hm2 : mid < hi := by omega
      have A2 := Lib.hid (CL.out mid wr (by omega) HB.out)
      clear hmid
      go_wp2_with fail
      refine A2.out.mono ?_
      rintro en w3 ⟨rfl, hb⟩
      have L := Lib.hid (bT HB.out hb)
      clear hb
      cases hp : p mid
      · have HN := Lib.hid (show ∀ j, j < mid + 1 → p j = false from fun j hj => by
          cases e : p j
          · rfl
          · rw [MO.out j mid (by omega) e] at hp; cases hp)
        go_wp2_with fail
        go_roundw
        case rel => exact ⟨mid + 1, hi, by first | rfl | go_num, rfl, by omega, hin, ⟨HN.out, HS.out.2⟩, L.out⟩
        case measure => simp [intOf]; omega
      · have HN := Lib.hid (show ∀ j, mid ≤ j → j < n → p j = true from fun j hj _ => MO.out mid j hj hp)
        go_wp2_with fail
        go_roundw
        case rel => exact ⟨lo, mid, rfl, by first | rfl | go_num, by omega, by omega, ⟨HS.out.1, HN.out⟩, L.out⟩
        case measure => simp [intOf]; omega
    · obtain rfl : hi = lo := by omega
      have HV := Lib.hid (show (hi : Int) = ((lstU p n : Nat) : Int) by rw [lstU_only hin HS.out.1 HS.out.2])
      go_wp2_with fail
      go_ret
      exact ⟨by rw [← HV.out]; rfl, HB.out⟩
set_option maxRecDepth 100000 in
set_option maxHeartbeats 2000000 in
theorem leastUpTo_anyP (p : Nat → Bool) (n : Nat) (b1 b2 b3 : Nat) (w : World) (hn : n ≤ 1000000) (hf : AnsrP p (n + 1) b1 b2 b3 w) (hm : ∀ x y, x ≤ y → p x = true → p y = true) :
    Calls Try.prog 47 #[.int .i64 n, .func (.func 48) #[] #[.pointer (some ⟨b1, 0, none⟩), .pointer (some ⟨b2, 0, none⟩), .pointer (some ⟨b3, 0, none⟩)]] w (TwoN (luP p n).1 (luP p n).2 w) := by
  have SE := Lib.hid (fun (T : TypeId) => search_anyP p (n + 1) w.heap.size b1 b2 b3 (w.alloc (.cells #[.func (.func 48) #[] #[.pointer (some ⟨b1, 0, none⟩), .pointer (some ⟨b2, 0, none⟩), .pointer (some ⟨b3, 0, none⟩)]] T)) (by omega) (fun j W hj hW => hf j W hj ((bA (bR w) _).trans (hW.mono (by simp)))) hm (by simp) (by simp [go_sem]))
  have hle := lstU_le (p := p) (n + 1)
  have h3 := Lib.hid (luP_3 (p := p) (n := n))
  have h0 := Lib.hid (luP_0 (p := p) (n := n))
  clear hf hm
  generalize lstU p (n + 1) = r at *
  have en : ((n + 1 : Nat) : Int) = (n : Int) + 1 := by omega
  rw [en] at SE
  go_enter Try.func47, Try.ntmps47
  go_wp2_with fail
  refine (SE.out _).mono ?_
  rintro e w1 ⟨rfl, hb⟩
  have L := Lib.hid (bT (bA (bR w) _) hb)
  clear hb
  by_cases hr : r = n + 1
  · have HR := Lib.hid (h3.out hr)
    have hgt : (n : Int) < (r : Int) := by omega
    go_wp2_with fail
    go_ret2
    exact ⟨by rw [HR.out]; rfl, L.out⟩
  · have HR := Lib.hid (h0.out hr)
    have hgt : ¬ (n : Int) < (r : Int) := by omega
    go_wp2_with fail
    go_ret2
    exact ⟨by rw [HR.out]; rfl, L.out⟩
/-- What stands while a torque is tried. -/
def LpC (W : World) (b1 b2 b3 : Nat) (v : Value) (l n : Int) (w' : World) : Prop := w'.cell? ⟨b1, 0, none⟩ = some v ∧ w'.cell? ⟨b2, 0, none⟩ = some (.int .i64 l) ∧ w'.cell? ⟨b3, 0, none⟩ = some (.int .i64 n) ∧ Below W.heap.size W w'
theorem LpC.of {W : World} {b1 b2 b3 : Nat} {v : Value} {l n : Int} {w' : World} (h1 : BoxL W b1 [v]) (h2 : BoxL W b2 [.int .i64 l]) (h3 : BoxL W b3 [.int .i64 n]) (hb : Below W.heap.size W w') : LpC W b1 b2 b3 v l n w' := ⟨(h1.keep hb).c 0 _ rfl, (h2.keep hb).c 0 _ rfl, (h3.keep hb).c 0 _ rfl, hb⟩
theorem LpC.bel {W : World} {b1 b2 b3 : Nat} {v : Value} {l n : Int} {w' : World} (h : LpC W b1 b2 b3 v l n w') : Below W.heap.size W w' := h.2.2.2
set_option maxRecDepth 100000 in
set_option maxHeartbeats 4000000 in
theorem lpC_any (ps : List (Int × Int)) (n l : Int) (v : Value) (x b1 b2 b3 : Nat) (W : World) (ha : SlP W v ps) (hp : okT ps = true) (hl : 0 ≤ l ∧ l ≤ 1000) (hx : x ≤ 1000000) (h1 : BoxL W b1 [v]) (h2 : BoxL W b2 [.int .i64 l]) (h3 : BoxL W b3 [.int .i64 n]) :
    Calls Try.prog 48 #[.int .i64 x, .pointer (some ⟨b1, 0, none⟩), .pointer (some ⟨b2, 0, none⟩), .pointer (some ⟨b3, 0, none⟩)] W (BoolBel (enQ ps n l x) W) := by
  have CA := Lib.hid (fun W (h : SlP W v ps) => pullsAlong_any l x ps v W h hp hl (by omega))
  have HLast := Lib.hid (last_pa l x ps)
  have HLen := Lib.hid (paK_len l x ps ps.length)
  have HQ := Lib.hid (show enQ ps n l x = decide (n ≤ paV l x ps) from rfl)
  have HK := Lib.hid (fun (w' : World) (hb : Below W.heap.size W w') => LpC.of h1 h2 h3 hb)
  have A0 := Lib.hid ha
  have hlen := (okT_iff.1 hp).1
  obtain ⟨ao, cap, rfl, _⟩ := ha
  have g0 := h1.c 0 _ rfl
  have g1 := h2.c 0 _ rfl
  have g2 := h3.c 0 _ rfl
  have hlt1 := h1.lt
  have hlt2 := h2.lt
  have hlt3 := h3.lt
  have LK := Lib.hid (show ∀ (W2 : World), SlP W2 (.slice ao ps.length cap) ps → Calls Try.prog 45 #[.slice ao ps.length cap, .int .i64 x, .int .i64 l] W2 (fun e w' => ∃ g cap2, e = .returned (.slice (some ⟨g, 0, none⟩) (ps.length + 1) cap2) ∧ w'.cell? ⟨g, ps.length, none⟩ = some (.int .i64 (paV l x ps)) ∧ g < w'.heap.size ∧ Below W2.heap.size W2 w') from fun W2 hW =>
    (CA.out W2 hW).mono (by
      rintro e w' ⟨vr, rfl, hr, hb⟩
      obtain ⟨ao2, cap2, rfl, hrd⟩ := sl64_of hr
      obtain ⟨g, rfl, hg, hc⟩ := hrd (by rw [HLen.out]; omega)
      have hcc := hc ps.length (by rw [HLen.out]; omega)
      rw [HLast.out] at hcc
      exact ⟨g, cap2, by rw [HLen.out], hcc, hg, hb⟩))
  rw [HQ.out]
  clear h1 h2 h3 CA HLast HLen HQ hp hl hx
  generalize paV l x ps = z at *
  have hi0 : (ps.length : Int) < (ps.length : Int) + 1 := by omega
  have hi1 : ps.length < ps.length + 1 := by omega
  have hi2 : (0 : Int) ≤ (ps.length : Int) := by omega
  go_enter Try.func48, Try.ntmps48
  go_wp2_with fail
  go_cut [5] (fun s5 wx => s5 = .bool (decide (n ≤ z)) ∧ Below W.heap.size W wx)
  case first =>
    go_region_with (go_at_call 45; refine (LK.out _ (A0.out.keep (bR _).drew)).mono ?_; rintro en w1 ⟨g, cap2, rfl, c0, hg, hb⟩; have HB := Lib.hid (show Below W.heap.size W w1 from ⟨hb.os, hb.tape, hb.output, hb.size, hb.block⟩); obtain ⟨m1, m2, m3, _⟩ := HK.out _ HB.out)
    all_goals (clear LK HK A0 m1 m2 m3 c0 hg hb g0 g1 g2 hi0 hi1 hi2; go_wp2_with fail; go_meet; exact ⟨rfl, HB.out⟩)
  case rest =>
    obtain ⟨rfl, hB⟩ := hcut
    go_wp2_with fail
    go_ret
    exact ⟨rfl, hB⟩
set_option maxRecDepth 100000 in
set_option maxHeartbeats 4000000 in
theorem LeastPullI_any (ps : List (Int × Int)) (q l : Int) (v : Value) (w : World) (ha : SlP w v ps) (hmax : ps.length ≤ 1000000000000) :
    Calls Try.prog 19 #[v, .int .i64 q, .int .i64 l] w (TwoN (leE ps q l).1 (leE ps q l).2 w) := by
  have CC := Lib.hid (fun W (h : SlP W v ps) => pullCode_any ps q l v W h hmax)
  have B1 := Lib.hid (((BoxL.new w [v] 27).alloc (.cells #[.int .i64 q] 2)).alloc (.cells #[.int .i64 l] 2))
  have B2 := Lib.hid ((BoxL.at_ (w := w.alloc (.cells #[v] 27)) (b := w.heap.size + 1) (vs := [.int .i64 q]) (T := 2) (by simp)).alloc (.cells #[.int .i64 l] 2))
  have B3 := Lib.hid (BoxL.at_ (w := (w.alloc (.cells #[v] 27)).alloc (.cells #[.int .i64 q] 2)) (b := w.heap.size + 1 + 1) (vs := [.int .i64 l]) (T := 2) (by simp))
  have L0 := Lib.hid (bA (bA (bA (bR w) (.cells #[v] 27)) (.cells #[.int .i64 q] 2)) (.cells #[.int .i64 l] 2))
  have A0 := Lib.hid (ha.keep L0.out)
  obtain ⟨ao, cap, rfl, _⟩ := ha
  rcases paC_cases ps q l with ⟨h0, h1, h2, h3⟩ | ⟨h0, _⟩
  · rw [leE_0 h0]
    rw [h0] at CC
    have hl := inB_true.1 h3
    obtain ⟨M, hM1, hM2⟩ : ∃ M : Nat, M = 1000000 ∧ (M : Int) = 1000000 := ⟨1000000, rfl, by omega⟩
    rw [← hM1]
    have CL := Lib.hid (fun (x b1 b2 b3 : Nat) W (hx : x ≤ 1000000) (hA : SlP W (.slice ao ps.length cap) ps) => lpC_any ps q l (.slice ao ps.length cap) x b1 b2 b3 W hA h1 hl hx)
    have MO := Lib.hid (fun x y => enQ_mono (n := q) h1 hl (x := x) (y := y))
    clear h0 h1 h2 h3 hl
    generalize enQ ps q l = p at *
    go_enter Try.func19, Try.ntmps19
    go_wp2_with fail
    refine (CC.out _ A0.out).mono ?_
    rintro en w1 ⟨rfl, hb⟩
    have L := Lib.hid (bT L0.out hb)
    have X1 := Lib.hid (B1.out.keep hb)
    have X2 := Lib.hid (B2.out.keep hb)
    have X3 := Lib.hid (B3.out.keep hb)
    have A1 := Lib.hid (A0.out.keep hb)
    clear hb B1 B2 B3 L0 A0 CC
    have LU := Lib.hid (leastUpTo_anyP p M w.heap.size (w.heap.size + 1 + 1) (w.heap.size + 1) w1 (by omega) (fun j W hj hW => CL.out j _ _ _ W (by omega) (A1.out.keep hW) (X1.out.keep hW) (X3.out.keep hW) (X2.out.keep hW)) MO.out)
    rw [hM2] at LU
    clear hM1 hM2
    generalize luP p M = r at *
    go_wp2_with fail
    refine LU.out.mono ?_
    rintro en w2 ⟨rfl, hb⟩
    have L2 := Lib.hid (bT L.out hb)
    clear hb
    go_wp2_with fail
    go_ret2
    exact ⟨rfl, L2.out⟩
  · rw [leE_1 h0]
    have hcb : (paC ps q l != 0) = true := by simpa using h0
    clear h0
    generalize paC ps q l = c at *
    go_enter Try.func19, Try.ntmps19
    go_wp2_with fail
    refine (CC.out _ A0.out).mono ?_
    rintro e w1 ⟨rfl, hb⟩
    have L1 := Lib.hid (bT L0.out hb)
    clear hb B1 B2 B3 L0 A0 CC
    go_wp2_with fail
    go_ret2
    exact ⟨rfl, L1.out⟩
end Go.Proofs.Ytclefibjmnabbaa

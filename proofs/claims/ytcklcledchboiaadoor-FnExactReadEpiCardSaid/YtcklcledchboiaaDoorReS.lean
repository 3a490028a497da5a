/-
  Reading planetary gears in the model: the contracts of spec.ReadEpi and laws.eqEpi; the walk of laws.FnExactReadEpi.
-/
import Derived.Test.YtcklcledchboiaaDoorReI
namespace Go.Proofs.YtcklcledchboiaaDoor
open Go.RowKit

theorem txt_row {W : World} {B g cap n : Nat} {t : TypeId} {ws : List ByteArray} (h : W.ownsRow B t 1 (.slice (some ⟨g, 0, none⟩) n cap) n (strC ws)) (hn : ws.length = n) : TextsAt W g ws := by
  subst hn
  exact own_texts h
/-- The parts that l01Split gives. -/
def SpTexts (w : World) (s : ByteArray) (e : Ending) (w' : World) : Prop :=
  ∃ (ws : List ByteArray) (m g cap : Nat), ws.length = m + 1 ∧ e = .returned (.slice (some ⟨g, 0, none⟩) (m + 1) cap) ∧ g < w'.heap.size ∧ TextsAt w' g ws ∧ ws.map (·.data.toList) = splL 32 s.data.toList ∧ Below w.heap.size w w'
theorem l01Split_texts (s : ByteArray) (w : World) (hs : s.size ≤ 1048576) : Calls Tryd.prog 87 #[.string s, .int .u8 32] w (SpTexts w s) := by
  refine (l01Split_any s 32 w hs).mono ?_
  rintro e w' ⟨⟨ps, last, g, cap, rfl, ho, h1, h2, h3⟩, hb⟩
  have e1 : strC ps ++ [.string last] = strC (ps ++ [last]) := by simp [strC]
  rw [e1] at ho
  refine ⟨ps ++ [last], ps.length, g, cap, by simp, rfl, (own_blk ho g rfl).2, txt_row ho (by simp), ?_, hb⟩
  rw [← h3, splL_parts h2 ps h1]
  simp
set_option maxRecDepth 100000 in
set_option maxHeartbeats 8000000 in
theorem ReadEpiS_any (s : ByteArray) (w : World) (hs : s.size ≤ 1048576) :
    Calls Tryd.prog 49 #[.string s] w (RePost w (re5 s.data.toList)) := by
  have B0 := Lib.hid (Box4F.new w 0 0 0 0 25)
  have L0 := Lib.hid (bA (bR w) (.cells #[.int .i64 0, .int .i64 0, .int .i64 0, .int .i64 0] 25))
  have SW := Lib.hid (fun W => l01Split_texts s W hs)
  have HS := Lib.hid hs
  clear hs
  go_enter Tryd.func49, Tryd.ntmps49
  go_wp2_with fail
  generalize w.alloc (.cells #[.int .i64 0, .int .i64 0, .int .i64 0, .int .i64 0] 25) = W0 at *
  generalize hk : w.heap.size = k at *
  have L0' := Lib.hid (show Below w.heap.size w W0 by rw [hk]; exact L0.out)
  clear L0
  have L0 := L0'
  clear L0'
  refine (SW.out _).mono ?_
  rintro e w1 ⟨ws, m, g, cap, hm, rfl, hg, ht, hw, hb⟩
  have L1 := Lib.hid (bT L0.out hb)
  have B1 := Lib.hid (B0.out.keep hb)
  clear hb SW B0 L0
  by_cases h3 : m = 2
  · subst h3
    obtain ⟨x, y, z, rfl⟩ := three_of hm
    have hwl : ∀ p ∈ [x, y, z], p.size ≤ 1048576 := by
      intro p hp
      have hm2 : p.data.toList ∈ splL 32 s.data.toList := by rw [← hw]; exact List.mem_map.2 ⟨_, hp, rfl⟩
      have := splL_shortE 32 _ _ hm2
      have e1 : p.data.toList.length = p.size := by simp
      have e2 : s.data.toList.length = s.size := by simp
      have := HS.out
      omega
    have ZZ0 := Lib.hid (hwl x (by simp))
    have ZZ1 := Lib.hid (hwl y (by simp))
    have ZZ2 := Lib.hid (hwl z (by simp))
    have HW := Lib.hid (show splL 32 s.data.toList = [x.data.toList, y.data.toList, z.data.toList] from hw.symm)
    have T1 := Lib.hid ht
    have g_lt1 := Lib.hid hg
    clear hwl hw ht hg hm HS
    have t0 : w1.cell? ⟨g, 0, none⟩ = some (.string x) := T1.out 0 (by simp)
    go_wp2_with fail
    refine (l01Number_any x _ ZZ0.out).mono ?_
    rintro e w2 ⟨⟨n0, o0, rfl, r0⟩, hb⟩
    have L2 := Lib.hid (bT L1.out hb)
    have B2 := Lib.hid (B1.out.keep hb)
    have T2 := Lib.hid (T1.out.keep g_lt1.out hb)
    have g_lt2 := Lib.hid (Nat.lt_of_lt_of_le g_lt1.out hb.size)
    have R0 := Lib.hid r0
    have d0 := rd_bd r0
    clear hb r0 t0
    have t1 : w2.cell? ⟨g, 1, none⟩ = some (.string y) := T2.out 1 (by simp)
    go_wp2_with fail
    refine (l01Number_any y _ ZZ1.out).mono ?_
    rintro e w3 ⟨⟨n1, o1, rfl, r1⟩, hb⟩
    have L3 := Lib.hid (bT L2.out hb)
    have B3 := Lib.hid (B2.out.keep hb)
    have T3 := Lib.hid (T2.out.keep g_lt2.out hb)
    have g_lt3 := Lib.hid (Nat.lt_of_lt_of_le g_lt2.out hb.size)
    have R1 := Lib.hid r1
    have d1 := rd_bd r1
    clear hb r1 t1
    have t2 : w3.cell? ⟨g, 2, none⟩ = some (.string z) := T3.out 2 (by simp)
    go_wp2_with fail
    refine (l01Number_any z _ ZZ2.out).mono ?_
    rintro e w4 ⟨⟨n2, o2, rfl, r2⟩, hb⟩
    have L4 := Lib.hid (bT L3.out hb)
    have B4 := Lib.hid (B3.out.keep hb)
    have T4 := Lib.hid (T3.out.keep g_lt3.out hb)
    have g_lt4 := Lib.hid (Nat.lt_of_lt_of_le g_lt3.out hb.size)
    have R2 := Lib.hid r2
    have d2 := rd_bd r2
    clear hb r2 t2
    have RI := Lib.hid (re_is HW.out R0.out R1.out R2.out)
    clear R0 R1 R2 B1 B2 B3 L1 L2 L3 T1 T2 T3 T4 g_lt1 g_lt2 g_lt3 g_lt4 HW ZZ0 ZZ1 ZZ2
    obtain ⟨z0, z1, z2, z3, f0, f1, f2, f3, z4⟩ := B4.out
    by_cases hok : o0 = true ∧ o1 = true ∧ o2 = true ∧ inB n0 6 240 = true ∧ inB n1 6 240 = true
    · obtain ⟨rfl, rfl, rfl, i0, i1⟩ := hok
      have b0 := inB_true.1 i0
      have b1 := inB_true.1 i1
      have M0 := Lib.hid (fun W => l05Teeth_any n0 W)
      have M1 := Lib.hid (fun W => l05Teeth_any n1 W)
      rw [i0] at M0
      rw [i1] at M1
      have q1 : IntKind.i64.wrap (2 * n1) = 2 * n1 := IntWalk.i64_in _ (by omega)
      have q2 : IntKind.i64.wrap (n0 + 2 * n1) = n0 + 2 * n1 := IntWalk.i64_in _ (by omega)
      have VE := Lib.hid (fun W => l07Ok_any n0 (n0 + 2 * n1) n1 n2 W)
      have G5 := Lib.hid (Box4.new w4 n0 (n0 + 2 * n1) n1 n2 25)
      have B5 := Lib.hid (B4.out.keep (bA (bR _) (.cells #[.int .i64 n0, .int .i64 (n0 + 2 * n1), .int .i64 n1, .int .i64 n2] 25)))
      have L5 := Lib.hid (bA L4.out (.cells #[.int .i64 n0, .int .i64 (n0 + 2 * n1), .int .i64 n1, .int .i64 n2] 25))
      clear i0 i1 z0 z1 z2 z3 f0 f1 f2 f3 z4
      go_wp2_with fail
      refine (M0.out _).mono ?_
      rintro e w9 ⟨rfl, rfl⟩
      go_wp2_with fail
      refine (M1.out _).mono ?_
      rintro e w9 ⟨rfl, rfl⟩
      go_upto_region 10 with fail
      generalize w4.alloc (.cells #[.int .i64 n0, .int .i64 (n0 + 2 * n1), .int .i64 n1, .int .i64 n2] 25) = W5 at *
      generalize w4.heap.size = kg at *
      cases hk : okE n0 (n0 + 2 * n1) n1 n2
      · have EQ := Lib.hid (re5_none (RI.out.trans (by rw [hk]; rfl)))
        rw [hk] at VE
        clear hk
        generalize n0 + 2 * n1 = mm at *
        obtain ⟨y0, y1, y2, y3, _⟩ := G5.out
        go_wp2_with fail
        refine (VE.out _).mono ?_
        rintro e w6 ⟨rfl, hb⟩
        have L6 := Lib.hid (bT L5.out hb)
        obtain ⟨z0, z1, z2, z3, f0, f1, f2, f3, z4⟩ := B5.out.keep hb
        clear hb y0 y1 y2 y3
        go_wp2_with fail
        rw [EQ.out]
        refine bodyPost_ret (v := .tuple #[.agg #[.int .i64 (0), .int .i64 (0), .int .i64 (0), .int .i64 (0)], .bool false]) ?_ rfl ⟨rfl, bset4 L6.out (by omega)⟩
        simp [results, Tryd.results49, go_sem, z0, z1, z2, z3]
      · have EQ := Lib.hid (re5_some (RI.out.trans (by rw [hk]; rfl)))
        rw [hk] at VE
        clear hk
        generalize n0 + 2 * n1 = mm at *
        obtain ⟨y0, y1, y2, y3, _⟩ := G5.out
        go_wp2_with fail
        refine (VE.out _).mono ?_
        rintro e w6 ⟨rfl, hb⟩
        have L6 := Lib.hid (bT L5.out hb)
        have G6 := Lib.hid (G5.out.keep hb)
        obtain ⟨z0, z1, z2, z3, f0, f1, f2, f3, z4⟩ := B5.out.keep hb
        clear hb y0 y1 y2 y3
        obtain ⟨y0, y1, y2, y3, _⟩ := G6.out
        go_wp2_with fail
        rw [EQ.out]
        refine bodyPost_ret (v := .tuple #[.agg #[.int .i64 (n0), .int .i64 (mm), .int .i64 (n1), .int .i64 (n2)], .bool true]) ?_ rfl ⟨rfl, bset4 L6.out (by omega)⟩
        simp [results, Tryd.results49, go_sem, z0, z1, z2, z3]
    · have hn : reE s.data.toList = none := by
        refine RI.out.trans (if_neg fun hc => hok ?_)
        simp only [Bool.and_eq_true] at hc
        obtain ⟨⟨⟨a0, a1⟩, a2⟩, a3⟩ := hc
        obtain ⟨b0, _, b1, _⟩ := okE_bd a3
        exact ⟨a0, a1, a2, inB_true.2 b0, inB_true.2 b1⟩
      have EQ := Lib.hid (re5_none hn)
      clear hn RI d0 d1 d2
      cases o0
      · clear hok
        go_wp2_with fail
        rw [EQ.out]
        refine bodyPost_ret (v := .tuple #[.agg #[.int .i64 (0), .int .i64 (0), .int .i64 (0), .int .i64 (0)], .bool false]) ?_ rfl ⟨rfl, bset4 L4.out (by omega)⟩
        simp [results, Tryd.results49, go_sem, z0, z1, z2, z3]
      · cases o1
        · clear hok
          go_wp2_with fail
          rw [EQ.out]
          refine bodyPost_ret (v := .tuple #[.agg #[.int .i64 (0), .int .i64 (0), .int .i64 (0), .int .i64 (0)], .bool false]) ?_ rfl ⟨rfl, bset4 L4.out (by omega)⟩
          simp [results, Tryd.results49, go_sem, z0, z1, z2, z3]
        · cases o2
          · clear hok
            go_wp2_with fail
            rw [EQ.out]
            refine bodyPost_ret (v := .tuple #[.agg #[.int .i64 (0), .int .i64 (0), .int .i64 (0), .int .i64 (0)], .bool false]) ?_ rfl ⟨rfl, bset4 L4.out (by omega)⟩
            simp [results, Tryd.results49, go_sem, z0, z1, z2, z3]
          · have M0 := Lib.hid (fun W => l05Teeth_any n0 W)
            have M1 := Lib.hid (fun W => l05Teeth_any n1 W)
            cases i0 : inB n0 6 240
            · rw [i0] at M0
              clear hok i0
              go_wp2_with fail
              refine (M0.out _).mono ?_
              rintro e w9 ⟨rfl, rfl⟩
              go_wp2_with fail
              rw [EQ.out]
              refine bodyPost_ret (v := .tuple #[.agg #[.int .i64 (0), .int .i64 (0), .int .i64 (0), .int .i64 (0)], .bool false]) ?_ rfl ⟨rfl, bset4 L4.out (by omega)⟩
              simp [results, Tryd.results49, go_sem, z0, z1, z2, z3]
            · have i1 : inB n1 6 240 = false := by
                cases i1 : inB n1 6 240
                · rfl
                · exact absurd ⟨rfl, rfl, rfl, i0, i1⟩ hok
              rw [i0] at M0
              rw [i1] at M1
              clear hok i0 i1
              go_wp2_with fail
              refine (M0.out _).mono ?_
              rintro e w9 ⟨rfl, rfl⟩
              go_wp2_with fail
              refine (M1.out _).mono ?_
              rintro e w9 ⟨rfl, rfl⟩
              go_wp2_with fail
              rw [EQ.out]
              refine bodyPost_ret (v := .tuple #[.agg #[.int .i64 (0), .int .i64 (0), .int .i64 (0), .int .i64 (0)], .bool false]) ?_ rfl ⟨rfl, bset4 L4.out (by omega)⟩
              simp [results, Tryd.results49, go_sem, z0, z1, z2, z3]
  · have hl : (splL 32 s.data.toList).length ≠ 3 := by rw [← hw, List.length_map, hm]; omega
    have EQ := Lib.hid (re5_none (re_len hl))
    have hne : (((m : Int) + 1) != 3) = true := by simp; omega
    have hn3 : ¬ ((m : Int) + 1 = 3) := by omega
    obtain ⟨z0, z1, z2, z3, f0, f1, f2, f3, z4⟩ := B1.out
    clear hl hw ht hm HS
    go_wp2_with fail
    rw [EQ.out]
    refine bodyPost_ret (v := .tuple #[.agg #[.int .i64 (0), .int .i64 (0), .int .i64 (0), .int .i64 (0)], .bool false]) ?_ rfl ⟨rfl, bset4 L1.out (by omega)⟩
    simp [results, Tryd.results49, go_sem, z0, z1, z2, z3]
set_option maxHeartbeats 1000000 in
theorem eqEpi_same (s r p c : Int) (w : World) :
    Calls Tryd.prog 51 #[.agg #[.int .i64 s, .int .i64 r, .int .i64 p, .int .i64 c], .agg #[.int .i64 s, .int .i64 r, .int .i64 p, .int .i64 c]] w fun e w' => e = .returned (.bool true) ∧ Below w.heap.size w w' := by
  have n0 : (s != s) = false := by simp
  have n1 : (r != r) = false := by simp
  have n2 : (p != p) = false := by simp
  have n3 : (c != c) = false := by simp
  go_enter Tryd.func51, Tryd.ntmps51
  go_wp2_with fail
  go_ret
  exact ⟨rfl, bA (bA (bR _) _) _⟩
set_option maxRecDepth 100000 in
set_option maxHeartbeats 4000000 in
theorem FnExactReadEpi_walk (s : ByteArray) (w : World) (hP : Pow10 w) (hE : ErrVars w) (hS : Sines w) (hlen : s.size ≤ maxLen) :
    Calls Tryd.prog 15 #[.string s] w fun e w' => e = .returned (.bool true) ∧ Below w.heap.size w w' := by
  unfold maxLen at hlen
  by_cases hlong : 1048576 < s.size
  · go_enter Tryd.func15, Tryd.ntmps15
    go_wp2_with fail
    go_ret
    exact ⟨rfl, bR _⟩
  · have P0 := Lib.hid hP
    have E0 := Lib.hid hE
    have S0 := Lib.hid hS
    have HS := Lib.hid (show s.size ≤ 1048576 by omega)
    obtain ⟨a, b, c, d, k, hr⟩ : ∃ a b c d k, re5 s.data.toList = (a, b, c, d, k) := ⟨_, _, _, _, _, rfl⟩
    have RS := Lib.hid (fun W => ReadEpiS_any s W HS.out)
    have RI := Lib.hid (fun W h1 h2 h3 => ReadEpiI_any s W HS.out h1 h2 h3)
    rw [hr] at RS RI
    clear hr hP hE hS
    go_enter Tryd.func15, Tryd.ntmps15
    go_wp2_with fail
    refine (RS.out _).mono ?_
    rintro e w1 ⟨rfl, hb⟩
    have L1 := Lib.hid (bA hb (.cells #[.int .i64 a, .int .i64 b, .int .i64 c, .int .i64 d] 25))
    have G1 := Lib.hid (Box4.new w1 a b c d 25)
    clear hb
    go_wp2_with fail
    generalize w1.alloc (.cells #[.int .i64 a, .int .i64 b, .int .i64 c, .int .i64 d] 25) = W1 at *
    generalize w1.heap.size = k1 at *
    refine (RI.out _ (Pow10.keep L1.out P0.out) (ErrVars.keep L1.out E0.out) (S0.out.keep L1.out)).mono ?_
    rintro e w2 ⟨rfl, hb⟩
    have L2 := Lib.hid (bT L1.out (bA hb (.cells #[.int .i64 a, .int .i64 b, .int .i64 c, .int .i64 d] 25)))
    have G2 := Lib.hid (G1.out.keep (bA hb (.cells #[.int .i64 a, .int .i64 b, .int .i64 c, .int .i64 d] 25)))
    have F2 := Lib.hid (Box4.new w2 a b c d 25)
    clear hb
    obtain ⟨y0, y1, y2, y3, _⟩ := G2.out
    obtain ⟨x0, x1, x2, x3, _⟩ := F2.out
    go_wp2_with fail
    refine (eqEpi_same _ _ _ _ _).mono ?_
    rintro e w3 ⟨rfl, hb⟩
    have L3 := Lib.hid (bT L2.out hb)
    clear hb
    cases k
    all_goals
      go_wp2_with fail
      go_ret
      exact ⟨rfl, L3.out⟩
end Go.Proofs.YtcklcledchboiaaDoor

/-
  Reading a train: spec.l05Read and spec.ReadTrain.
-/
import Derived.Test.YtnndjbngcaafhaaDoorRtT
import Derived.Test.YtnndjbngcaafhaaDoorSplit
namespace Go.Proofs.YtnndjbngcaafhaaDoor
open Go.RowKit

theorem wat_short {c : UInt8} {u : ByteArray} {P : List ByteArray} (h : P.map (·.data.toList) = splL c u.data.toList) {j : Nat} (hj : j < P.length) : (wat P j).size ≤ u.size := by
  have hm : (wat P j).data.toList ∈ splL c u.data.toList := by
    rw [← h]
    refine List.mem_map.2 ⟨wat P j, ?_, rfl⟩
    simp [wat, hj]
  have := splL_short c _ _ hm
  simpa using this
theorem wd_own {W : World} {B g cap n : Nat} {t : TypeId} {ws : List ByteArray} (h : W.ownsRow B t 1 (.slice (some ⟨g, 0, none⟩) n cap) n (strC ws)) (hn : ws.length = n) : WdAt W g ws := by
  intro i hi
  have := h.cellAt i (by simp; omega)
  rw [this]
  unfold strC wat
  rw [List.getElem?_map, List.getElem?_eq_getElem hi]
  simp [hi]
/-- The words that l01Split gives. -/
def SpWords (w : World) (c : UInt8) (s : ByteArray) (e : Ending) (w' : World) : Prop :=
  ∃ (ws : List ByteArray) (m g cap : Nat), ws.length = m + 1 ∧ e = .returned (.slice (some ⟨g, 0, none⟩) (m + 1) cap) ∧ w.heap.size ≤ g ∧ g < w'.heap.size ∧ WdAt w' g ws ∧ ws.map (·.data.toList) = splL c s.data.toList ∧ Below w.heap.size w w'
theorem l01Split_words (c : UInt8) (s : ByteArray) (w : World) (hs : s.size ≤ 1048576) : Calls Tryd.prog 48 #[.string s, .int .u8 (c.toNat : Int)] w (SpWords w c s) := by
  refine (l01Split_any s c w hs).mono ?_
  rintro e w' ⟨⟨ps, last, g, cap, rfl, ho, h1, h2, h3⟩, hb⟩
  have e1 : strC ps ++ [.string last] = strC (ps ++ [last]) := by simp [strC]
  rw [e1] at ho
  refine ⟨ps ++ [last], ps.length, g, cap, by simp, rfl, (own_blk ho g rfl).1, (own_blk ho g rfl).2, wd_own ho (by simp), ?_, hb⟩
  rw [← h3, splL_parts h2 ps h1]
  simp
theorem pr_none {u : ByteArray} {P : List ByteArray} (h : P.map (·.data.toList) = splL 58 u.data.toList) {m : Nat} (hm : P.length = m + 1) {a b : Int} {o1 o2 : Bool} (h1 : RdIs (wat P 0).data.toList a o1) (h2 : RdIs (wat P m).data.toList b o2) :
    prF u.data.toList = if o1 && o2 && (m == 1) then some (a, b) else none := by
  by_cases hk : m = 1
  · subst hk
    obtain ⟨p, q, rfl⟩ : ∃ p q, P = [p, q] := by
      match P, hm with
      | [p, q], _ => exact ⟨p, q, rfl⟩
    have e : splL 58 u.data.toList = [p.data.toList, q.data.toList] := by rw [← h]; rfl
    rw [prF_two e (a := a) (b := b) (o1 := o1) (o2 := o2) h1 h2]
    cases o1 <;> cases o2 <;> rfl
  · have e : (splL 58 u.data.toList).length ≠ 2 := by rw [← h]; simp; omega
    rw [prF_other e]
    have : (m == 1) = false := by rw [beq_eq_false_iff_ne]; exact hk
    rw [this]; simp
def LrRel (w : World) (B : Nat) (s : ByteArray) (v i : Value) (wr : World) : Prop :=
  ∃ (k : Nat) (qs : List (Int × Int)), i = .int .i64 k ∧ k ≤ (splL 32 s.data.toList).length ∧ qs.length = k ∧ allF ((splL 32 s.data.toList).take k) = some qs ∧ wr.ownsRow B 54 2 v k (pairC qs) ∧ Below w.heap.size w wr
theorem lr_next {w w' : World} {B : Nat} {s : ByteArray} {ws : List ByteArray} (hW : Words32 s ws) {k : Nat} (hk : k < ws.length) {qs : List (Int × Int)} {x y : Int} {v : Value} (hl : qs.length = k) (h : allF ((splL 32 s.data.toList).take k) = some qs)
    (hp : prF (wat ws k).data.toList = some (x, y)) (hown : w'.ownsRow B 54 2 v (k + 1) (pairC qs ++ [.int .i64 x, .int .i64 y])) (hb : Below w.heap.size w w') : LrRel w B s v (.int .i64 ((k : Int) + 1)) w' := by
  have hs := rt_step hW hk h
  rw [hp] at hs
  exact ⟨k + 1, qs ++ [(x, y)], by go_num, by rw [hW.len]; omega, by simp [hl], hs, by rw [pairC_snoc]; exact hown, hb⟩
def LrPost (w : World) (s : ByteArray) (e : Ending) (w' : World) : Prop :=
  ∃ v qs ok, e = .returned (.tuple #[v, .bool ok]) ∧ ((ok = true ∧ rtF s.data.toList = some qs ∧ w'.ownsRow w.heap.size 54 2 v qs.length (pairC qs)) ∨ (ok = false ∧ rtF s.data.toList = none)) ∧ Below w.heap.size w w'
theorem rowPR0 (w : World) (t : TypeId) : (w.alloc (.cells #[] t)).ownsRow w.heap.size t 2 (.slice (some ⟨w.heap.size, 0, none⟩) 0 0) 0 [] :=
  ⟨rfl, .inr ⟨w.heap.size, 0, #[], rfl, Nat.le_refl _, (MapKept.heap_alloc w _).1, Nat.le_refl _, Nat.zero_le _, rfl, rfl⟩⟩
theorem WdAt.of_block {W W' : World} {g : Nat} {ws : List ByteArray} (h : WdAt W g ws) (e : W'.heap[g]? = W.heap[g]?) : WdAt W' g ws := fun i hi => (World.cell?_of_block e).trans (h i hi)
/-- The words' row stands, and it is not the pairs' row. -/
def LrKeep (w1 : World) (g : Nat) (v : Value) (wr : World) : Prop := wr.heap[g]? = w1.heap[g]? ∧ g < wr.heap.size ∧ ∀ r, v.ownBlock = some r → r ≠ g
theorem lk_next {w1 wr wX w5 : World} {g : Nat} {v v' : Value} (h : LrKeep w1 g v wr) (hx : Below wr.heap.size wr wX) (hg : wX.grownBy w5 v.ownBlock) (hb : v'.ownBlock = v.ownBlock ∨ v'.ownBlock = some wX.heap.size) : LrKeep w1 g v' w5 := by
  obtain ⟨h1, h2, h3⟩ := h
  have hs := hx.size
  refine ⟨((hg.block g (by omega) (fun e => h3 g e.symm rfl)).trans (hx.block g h2)).trans h1, Nat.lt_of_lt_of_le h2 (Nat.le_trans hs hg.size), fun r hr => ?_⟩
  rcases hb with e | e
  · exact h3 r (e.symm.trans hr)
  · have : wX.heap.size = r := by rw [e] at hr; exact Option.some.inj hr
    omega
set_option maxRecDepth 100000 in
set_option maxHeartbeats 8000000 in
theorem l05Read_any (s : ByteArray) (w : World) (hs : s.size ≤ 1048576) :
    Calls Tryd.prog 25 #[.string s] w (LrPost w s) := by
  obtain ⟨i0, hi, hz0, hz1, hz2⟩ := info_parts infoPrR
  have O0 := Lib.hid (rowPR0 w 54)
  have L0 := Lib.hid (bA (bR w) (.cells #[] 54))
  by_cases hd : s.toList = [45]
  · have he : s.data.toList = [45] := by rw [← ByteArray.toList_eq]; exact hd
    have RN := Lib.hid (show LrPost w s (.returned (.tuple #[.slice (some ⟨w.heap.size, 0, none⟩) 0 0, .bool true])) (w.alloc (.cells #[] 54)) from ⟨_, [], true, rfl, .inl ⟨rfl, by rw [he]; exact rtF_dash, by simpa [pairC] using O0.out⟩, L0.out⟩)
    clear hs he
    go_enter Tryd.func25, Tryd.ntmps25
    go_wp2_with fail
    go_ret2
    exact RN.out
  · have hd1 : s.data.toList ≠ [45] := fun e => hd (by rw [ByteArray.toList_eq]; exact e)
    have hd2 : (s.toList == [45]) = false := by rw [beq_eq_false_iff_ne]; exact hd
    have HD := Lib.hid hd1
    have S1 := Lib.hid (fun W => l01Split_words 32 s W hs)
    rw [show (((32 : UInt8).toNat : Nat) : Int) = 32 from rfl] at S1
    clear hd hd1
    go_enter Tryd.func25, Tryd.ntmps25
    go_wp2_with fail
    refine (S1.out _).mono ?_
    rintro e w1 ⟨ws, n, g, cap, hn, rfl, hg1, hg2, hwd, heq, hb⟩
    have HW := Lib.hid (show Words32 s ws from ⟨heq⟩)
    have WD := Lib.hid hwd
    have L1 := Lib.hid (bT L0.out hb)
    have O1 := Lib.hid (own_keep O0.out hb)
    have hwl := HW.out.len
    have hw1 : w.heap.size < w1.heap.size := by have := hb.size; simp at this; omega
    have hgw : w.heap.size < g := by simp at hg1; omega
    clear hwd heq hb S1 O0 L0 hg1
    by_cases h5 : 5 < n + 1
    · have RN := Lib.hid (show LrPost w s (.returned (.tuple #[.slice none 0 0, .bool false])) w1 from ⟨_, [], false, rfl, .inr ⟨rfl, rtF_long HD.out (by omega)⟩, L1.out⟩)
      have h5' : (5 : Int) < (n : Int) + 1 := by omega
      clear HW WD
      go_wp2_with fail
      go_ret2
      exact RN.out
    · have h5' : ¬ (5 : Int) < (n : Int) + 1 := by omega
      go_wp2_with fail
      have hn5 : n + 1 ≤ 5 := by omega
      go_loopw [4, 6] (fun v i wr => LrRel w w.heap.size s v i wr ∧ LrKeep w1 g v wr) (fun _ i _ => ws.length - (intOf i).toNat)
      case atStart => exact ⟨⟨0, [], rfl, by omega, rfl, by simp [allF], by simpa [pairC] using O1.out, L1.out⟩, rfl, hg2, fun r hr => by have : w.heap.size = r := Option.some.inj hr; omega⟩
      case round =>
        obtain ⟨⟨k, qs, rfl, hk, hql, hal, hown, hbw⟩, hkp⟩ := hrel
        have HA := Lib.hid hal
        have HO := Lib.hid hown
        have HB := Lib.hid hbw
        have HK := Lib.hid hkp
        have HOB := Lib.hid (own_blk hown)
        have hws := hbw.size
        have hgr := hkp.2.1
        clear hal hown hbw hkp
        by_cases hlt : k < n + 1
        · have c0 := (WD.out.of_block HK.out.1) k (by omega)
          have hus := HW.out.size (k := k) (by omega)
          have BAD := Lib.hid (fun (h : prF (wat ws k).data.toList = none) => rt_fail HW.out HD.out (by omega) HA.out (.inl h))
          have NX := Lib.hid (fun (W : World) (v : Value) (x y : Int) hp hown hb => lr_next (w := w) (w' := W) (B := w.heap.size) (v := v) (x := x) (y := y) HW.out (by omega) hql HA.out hp hown hb)
          generalize wat ws k = u at *
          have S2 := Lib.hid (l01Split_words 58 u wr (by omega))
          rw [show (((58 : UInt8).toNat : Nat) : Int) = 58 from rfl] at S2
          have hk1 : (k : Int) < (n : Int) + 1 := by omega
          go_wp2_with fail
          refine S2.out.mono ?_
          rintro e w2 ⟨P, m, gp, cp, hP, rfl, hgp1, hgp2, hwp, heqp, hb⟩
          have p0 := hwp 0 (by omega)
          have pm := hwp m (by omega)
          have z0 := wat_short heqp (j := 0) (by omega)
          have zm := wat_short heqp (j := m) (by omega)
          have PN := Lib.hid (fun a b o1 o2 h1 h2 => pr_none heqp hP (a := a) (b := b) (o1 := o1) (o2 := o2) h1 h2)
          have L2 := Lib.hid (bT HB.out hb)
          have K2 := Lib.hid hb
          have hmB : m ≤ 1048577 := by
            have h1 := splL_count 58 u.data.toList
            have h2 : u.data.toList.length = u.size := by simp
            have h3 : (splL 58 u.data.toList).length = P.length := by rw [← heqp]; simp
            omega
          have hiw : IntKind.i64.wrap (m : Int) = (m : Int) := by rw [IntKind.wrap_i64]; omega
          clear hb hwp heqp hP S2
          generalize wat P 0 = f0 at *
          generalize wat P m = fm at *
          have N1 := Lib.hid (fun W => l01Number_any f0 W (by omega))
          have N2 := Lib.hid (fun W => l01Number_any fm W (by omega))
          have hm1 : (0 : Int) < (m : Int) + 1 := by omega
          have hm2 : (m : Int) < (m : Int) + 1 := by omega
          have hm3 : (0 : Int) ≤ (m : Int) := by omega
          clear z0 zm
          go_wp2_with fail
          refine (N1.out _).mono ?_
          rintro e w3 ⟨⟨a, o1, rfl, h1⟩, hb⟩
          have H1 := Lib.hid h1
          have pm3 : w3.cell? ⟨gp, m, none⟩ = some (.string fm) := (hb.cell (p := ⟨gp, m, none⟩) hgp2).trans pm
          have L3 := Lib.hid (bT L2.out hb)
          have K3 := Lib.hid (bT K2.out hb)
          clear hb h1 p0 pm N1
          go_wp2_with fail
          refine (N2.out _).mono ?_
          rintro e w4 ⟨⟨b, o2, rfl, h2⟩, hb⟩
          have HP := Lib.hid (PN.out a b o1 o2 H1.out h2)
          have L4 := Lib.hid (bT L3.out hb)
          have K4 := Lib.hid (bT K3.out hb)
          clear hb h2 pm3 N2 PN H1
          by_cases hall : o1 = true ∧ o2 = true ∧ m = 1
          · obtain ⟨rfl, rfl, rfl⟩ := hall
            have HQ := Lib.hid (show prF u.data.toList = some (a, b) by simpa using HP.out)
            have hxA := Lib.hid (bA K4.out (.cells #[.int .i64 a, .int .i64 b] 54))
            have hs4 := K4.out.size
            clear HP BAD
            go_wp2_with (at_builtin; go_loud (refine wpList_append_own_at _ rfl _ _ 22 rfl w.heap.size 54 i0 (.agg #[.int .i64 0, .int .i64 0]) 2 16 Tryd.underlying22 hi hz0 hz1 hz2 rfl (by decide) _ k (pairC qs) rfl (own_keep HO.out hxA.out) ⟨w4.heap.size, 0, none⟩ 1 1 [.int .i64 a, .int .i64 b] rfl rfl (row_srcR _ _ _ _ _ (by rfl)) ?c3 ?c4 ?c5 ?c6 ?_))
            case c3 => intro u hu; simp at hu; rcases hu with rfl | rfl <;> rfl
            case c4 => unfold maxLen; omega
            case c5 => omega
            case c6 => simp; omega
            intro v' w5 hown5 hg5 _ hb5
            have RN := Lib.hid (And.intro (NX.out w5 v' a b HQ.out hown5 (bel_grownR (bA L4.out (.cells #[.int .i64 a, .int .i64 b] 54)) hg5 (by simp; omega) (fun r e => (HOB.out r e).1))) (lk_next (v' := v') HK.out hxA.out hg5 (by simpa using hb5)))
            clear hown5 hg5 hb5
            go_wp2_with fail
            exact ⟨RN.out, by simp [intOf]; omega⟩
          · have hq : prF u.data.toList = none := by
              rw [HP.out]
              cases o1 <;> cases o2 <;> simp_all
            have RN := Lib.hid (show LrPost w s (.returned (.tuple #[.slice none 0 0, .bool false])) w4 from ⟨_, [], false, rfl, .inr ⟨rfl, BAD.out hq⟩, L4.out⟩)
            have hmm : o1 = true → o2 = true → ((m : Int) + 1 != 2) = true := fun h1 h2 => by
              have : m ≠ 1 := fun e => hall ⟨h1, h2, e⟩
              simp; omega
            have hmm2 : o1 = true → o2 = true → ¬ (m : Int) + 1 = 2 := fun h1 h2 e => hall ⟨h1, h2, by omega⟩
            clear hq HP BAD hall NX
            cases o1 <;> cases o2
            all_goals
              simp at hmm hmm2
              go_wp2_with fail
              go_ret2
              exact RN.out
        · obtain rfl : k = n + 1 := by omega
          have OKQ := Lib.hid (l05Ok_any qs _ wr (slP_of (by rw [hql]; exact HO.out)) (by omega))
          have hall := HA.out
          have hkn : (splL 32 s.data.toList).length = n + 1 := by omega
          rw [← hkn, List.take_length] at hall
          have RF := Lib.hid (rtF_all HD.out (by omega) hall)
          clear hall
          go_wp2_with fail
          refine OKQ.out.mono ?_
          rintro e w5 ⟨rfl, hb⟩
          have RN := Lib.hid (show ∀ vv, wr.ownsRow w.heap.size 54 2 vv (n + 1) (pairC qs) → LrPost w s (.returned (.tuple #[vv, .bool (okT qs)])) w5 from fun vv ho => ⟨vv, qs, okT qs, rfl, by
            cases hk : okT qs
            · exact .inr ⟨rfl, by rw [RF.out, hk]; rfl⟩
            · exact .inl ⟨rfl, by rw [RF.out, hk]; rfl, by rw [hql]; exact own_keep ho hb⟩, bT HB.out hb⟩)
          clear hb
          go_wp2_with fail
          go_ret2
          exact RN.out _ HO.out
set_option maxHeartbeats 4000000 in
theorem ReadTrainS_any (s : ByteArray) (w : World) (hs : s.size ≤ 1048576) :
    Calls Tryd.prog 7 #[.string s] w (RtPost w s) := by
  have LR := Lib.hid (l05Read_any s w hs)
  clear hs
  go_enter Tryd.func7, Tryd.ntmps7
  go_wp2_with fail
  refine LR.out.mono ?_
  rintro e w1 ⟨v, qs, ok, rfl, h, hb⟩
  rcases h with ⟨rfl, h1, h2⟩ | ⟨rfl, h1⟩
  · have RN := Lib.hid (rt_post_some h1 h2 hb)
    clear h1 h2 hb
    go_wp2_with fail
    go_ret2
    exact RN.out
  · have RN := Lib.hid (rt_post_none h1 hb)
    clear h1 hb
    go_wp2_with fail
    go_ret2
    exact RN.out
end Go.Proofs.YtnndjbngcaafhaaDoor

/-
  The canonical train: impl.pairsOf and impl.CanonTrain.
-/
import Derived.Test.YtnndjbngcaafhaaCnM
import Derived.Test.YtnndjbngcaafhaaSfI
import Derived.Test.YtnndjbngcaafhaaCfS
namespace Go.Proofs.Ytnndjbngcaafhaa
open Go.RowKit Go.Sort

/-- A slice reads as a list of numbers. -/
def SlI (W : World) (v : Value) (ts : List Int) : Prop := ∃ ao cap, v = .slice ao ts.length cap ∧ (1 ≤ ts.length → ∃ g, ao = some ⟨g, 0, none⟩ ∧ g < W.heap.size ∧ IntsAt W g ts)
theorem SlI.keep {W W' : World} {v : Value} {ts : List Int} (h : SlI W v ts) (hb : Below W.heap.size W W') : SlI W' v ts := by
  obtain ⟨ao, cap, e, h1⟩ := h
  refine ⟨ao, cap, e, fun hl => ?_⟩
  obtain ⟨g, eg, hg, hc⟩ := h1 hl
  exact ⟨g, eg, Nat.lt_of_lt_of_le hg hb.size, hc.keep hg hb⟩
theorem SlI.grown {W W' : World} {v : Value} {ts : List Int} {row : Option Nat} (h : SlI W v ts) (hg : W.grownBy W' row) (hne : ∀ k, v.ownBlock = some k → row ≠ some k) : SlI W' v ts := by
  obtain ⟨ao, cap, e, h1⟩ := h
  refine ⟨ao, cap, e, fun hl => ?_⟩
  obtain ⟨g, eg, hgs, hc⟩ := h1 hl
  refine ⟨g, eg, Nat.lt_of_lt_of_le hgs hg.size, fun i hi => ?_⟩
  exact hg.cell (hc i hi) (fun e2 => hne g (by rw [e, eg]; rfl) e2.symm)
theorem grown_putRow (w : World) (g n : Nat) (d : Array Int) : w.grownBy ((putRow encT w g 0 d).drewN n) (some g) := by
  refine ⟨rfl, rfl, rfl, ?_, fun k _ hk => ?_⟩
  · show w.heap.size ≤ (w.heap.modify g _).size
    simp
  · show (w.heap.modify g _)[k]? = w.heap[k]?
    rw [Array.getElem?_modify, if_neg (fun e => hk (by rw [e]))]
theorem holds_own {W : World} {B : Nat} {t : TypeId} {g cap : Nat} {ts : List Int} (h : W.ownsRow B t 1 (.slice (some ⟨g, 0, none⟩) ts.length cap) ts.length (intC ts)) : Holds encT W g 0 ts.toArray := by
  intro j hj
  have hj' : j < ts.length := by simpa using hj
  have e := h.cellAt j (by simpa using hj')
  rw [Nat.zero_add]
  refine ⟨e.trans ?_, h.frozenAt j⟩
  unfold intC encT
  rw [List.getElem?_map, List.getElem?_eq_getElem hj', getElem!_pos ts.toArray j hj]; rfl
theorem ints_of_holds {W : World} {g : Nat} {d : Array Int} (h : Holds encT W g 0 d) : IntsAt W g d.toList := by
  intro i hi
  have hi' : i < d.size := by simpa using hi
  have := (h i hi').1
  rw [Nat.zero_add] at this
  rw [this]
  unfold encT at0
  rw [getElem!_pos d i hi', List.getElem?_eq_getElem hi]; simp
/-- The order in which the wheels of one side stand. -/
def sgn (s : Int) (ts : List Int) : List Int := if s = 1 then srtL ts else (srtL ts).reverse
theorem sgn_len (s : Int) (ts : List Int) : (sgn s ts).length = ts.length := by unfold sgn; split <;> simp [srt_len]
theorem ins_sgn {s : Int} (hs : s = 1 ∨ s = -1) (ts : List Int) : (Sort.insertionSort (ltS s) ts.toArray 0 ts.toArray.size).toList = sgn s ts := by
  rcases hs with rfl | rfl
  · have := ins_up ts.toArray
    simpa [sgn] using this
  · have := ins_dn ts.toArray
    simpa [sgn] using this
theorem SortRow_any (s : Int) (hs : s = 1 ∨ s = -1) (B : Nat) (t : TypeId) (v : Value) (ts : List Int) (w : World) (h : w.ownsRow B t 1 v ts.length (intC ts)) (hlen : ts.length ≤ 12) :
    Calls Try.prog 43 #[v, .func (.func 44) #[.int .i64 s] #[]] w fun e w' =>
      e = .returned (.tuple #[]) ∧ SlI w' v (sgn s ts) ∧ w.grownBy w' v.ownBlock := by
  rcases h.2 with ⟨rfl, h0⟩ | ⟨g, cap, cur, rfl, hB, hh, _⟩
  · refine (SortNone_any _ w).mono ?_
    rintro e w' ⟨rfl, rfl⟩
    exact ⟨rfl, ⟨none, 0, by rw [sgn_len, h0], fun h1 => by rw [sgn_len] at h1; omega⟩, ⟨rfl, rfl, rfl, Nat.le_refl _, fun _ _ _ => rfl⟩⟩
  · have hH := holds_own h
    have hg := (Array.getElem?_eq_some_iff.1 hh).1
    have hS := SortT_any s hs g 0 cap ts.toArray w hH (by simpa using hlen)
    rw [show ts.toArray.size = ts.length by simp] at hS
    refine hS.mono ?_
    rintro e w' ⟨rfl, n, rfl⟩
    have e1 := ins_sgn hs ts
    rw [show ts.toArray.size = ts.length by simp] at e1
    have e2 := (ins_facts ts.toArray hs).2.2
    rw [show ts.toArray.size = ts.length by simp] at e2
    have hP := holds_putRow encT w g 0 ts.toArray _ hH (show (Sort.insertionSort (ltS s) ts.toArray 0 ts.length).size = ts.toArray.size by rw [e2]; simp)
    have hI := ints_of_holds hP
    rw [e1] at hI
    have hG := grown_putRow w g n (Sort.insertionSort (ltS s) ts.toArray 0 ts.length)
    refine ⟨rfl, ⟨_, cap, by rw [sgn_len], fun _ => ⟨g, rfl, Nat.lt_of_lt_of_le hg hG.size, fun i hi => hI i hi⟩⟩, hG⟩
theorem zip_take {a b : List Int} {k : Nat} (ha : k < a.length) (hb : k < b.length) : (a.zip b).take (k + 1) = (a.zip b).take k ++ [(at0 a k, at0 b k)] := by
  have hz : k < (a.zip b).length := by simp; omega
  rw [List.take_add_one, List.getElem?_eq_getElem hz]
  simp [at0, ha, hb]
def PoRel (w0 : World) (a b : List Int) (v i : Value) (wr : World) : Prop :=
  ∃ k : Nat, k ≤ a.length ∧ i = .int .i64 k ∧ wr.ownsRow w0.heap.size 71 2 v k (pairC ((a.zip b).take k)) ∧ Below w0.heap.size w0 wr
theorem infoPrC : (Try.prog.info? 71).map (fun i => (i.zero, i.size, i.bytes)) = some (some (.agg #[.int .i64 0, .int .i64 0]), 2, 16) := by kernel_rfl
theorem row_srcP (W : World) (n : Nat) (x y : Value) (t : TypeId) (h : W.heap.size = n) : ∀ (j : Nat) (u : Value), [x, y][j]? = some u → (W.alloc (.cells #[x, y] t)).cell? ((⟨n, 0, none⟩ : Addr).add j) = some u := by
  subst h
  intro j u hj
  match j, hj with
  | 0, hj => simp at hj; subst hj; simp [go_sem, Addr.add]
  | 1, hj => simp at hj; subst hj; simp [go_sem, Addr.add]
theorem po_next {w0 w' : World} {a b : List Int} {k : Nat} {v : Value} {x y : Int} (hk : k < a.length) (hz : (a.zip b).take (k + 1) = (a.zip b).take k ++ [(x, y)]) (ho : w'.ownsRow w0.heap.size 71 2 v (k + 1) (pairC ((a.zip b).take k) ++ [.int .i64 x, .int .i64 y])) (hb : Below w0.heap.size w0 w') :
    PoRel w0 a b v (.int .i64 ((k : Int) + 1)) w' := ⟨k + 1, hk, by go_num, by rw [hz, pairC_snoc]; exact ho, hb⟩
set_option maxRecDepth 100000 in
set_option maxHeartbeats 4000000 in
theorem pairsOf_any (a b : List Int) (v1 v2 : Value) (w : World) (h1 : SlI w v1 a) (h2 : SlI w v2 b) (hl : b.length = a.length) (hmax : a.length ≤ 1000) :
    Calls Try.prog 45 #[v1, v2] w fun e w' => ∃ v, e = .returned v ∧ w'.ownsRow w.heap.size 71 2 v (a.zip b).length (pairC (a.zip b)) ∧ Below w.heap.size w w' := by
  obtain ⟨i0, hi, hz0, hz1, hz2⟩ := info_parts infoPrC
  obtain ⟨ao, ca, rfl, h1⟩ := h1
  obtain ⟨bo, cb, rfl, h2⟩ := h2
  have H1 := Lib.hid h1
  have H2 := Lib.hid h2
  clear h1 h2
  rw [hl]
  go_enter Try.func45, Try.ntmps45
  go_wp2_with fail
  go_loopw [5, 10] (fun v i wr => PoRel w a b v i wr) (fun _ i _ => a.length - (intOf i).toNat)
  case atStart => exact ⟨0, by omega, rfl, by simpa [pairC] using World.ownsRow_nil w w.heap.size 71 2, bR _⟩
  case round =>
    obtain ⟨k, hk, rfl, hO, hbw⟩ := hrel
    have HO := Lib.hid hO
    have HB := Lib.hid hbw
    have HOB := Lib.hid (own_blk hO)
    have hws := hbw.size
    clear hO hbw
    by_cases hlt : k < a.length
    · obtain ⟨g1, rfl, hg1, hc1⟩ := H1.out (by omega)
      obtain ⟨g2, rfl, hg2, hc2⟩ := H2.out (by omega)
      have c1 := (hc1.keep hg1 HB.out) k hlt
      have c2 := (hc2.keep hg2 HB.out) k (by omega)
      have HZ := Lib.hid (zip_take (a := a) (b := b) hlt (by omega))
      clear hc1 hc2
      generalize at0 a k = x at *
      generalize at0 b k = y at *
      have hxA := Lib.hid (bA (bR wr) (.cells #[.int .i64 x, .int .i64 y] 71))
      go_wp2_with (at_builtin; (refine wpList_append_own_at _ rfl _ _ 44 rfl w.heap.size 71 i0 (.agg #[.int .i64 0, .int .i64 0]) 2 16 Try.underlying44 hi hz0 hz1 hz2 rfl (by decide) _ k (pairC ((a.zip b).take k)) rfl (own_keep HO.out hxA.out) ⟨wr.heap.size, 0, none⟩ 1 1 [.int .i64 x, .int .i64 y] rfl rfl (row_srcP _ _ _ _ _ rfl) ?c3 ?c4 ?c5 ?c6 ?_))
      case c3 => intro u hu; simp at hu; rcases hu with rfl | rfl <;> rfl
      case c4 => unfold maxLen; omega
      case c5 => omega
      case c6 => simp; omega
      intro v' w1 hown1 hgr _ hb1
      have RN := Lib.hid (po_next hlt HZ.out hown1 (bel_grown2 (bA HB.out (.cells #[.int .i64 x, .int .i64 y] 71)) hgr (by simp; omega) (fun r e => (HOB.out r e).1)))
      clear hown1 hgr hb1
      go_wp2_with fail
      exact ⟨RN.out, by simp [intOf]; omega⟩
    · obtain rfl : k = a.length := by omega
      go_wp2_with fail
      go_ret
      refine ⟨_, rfl, ?_, HB.out⟩
      have := HO.out
      rw [show (a.zip b).take a.length = a.zip b from List.take_of_length_le (by rw [List.length_zip]; omega)] at this
      rw [show (a.zip b).length = a.length by rw [List.length_zip]; omega]
      exact this
/-- A list of pairs in a row of its own, and a code. -/
def PairsCn (w : World) (ps : List (Int × Int)) (c : Int) (e : Ending) (w' : World) : Prop := ∃ v, e = .returned (.tuple #[v, .int .i64 c]) ∧ w'.ownsRow w.heap.size 71 2 v ps.length (pairC ps) ∧ Below w.heap.size w w'
set_option maxRecDepth 100000 in
set_option maxHeartbeats 4000000 in
theorem CanonTrainI_any (ps : List (Int × Int)) (v : Value) (w : World) (ha : SlP w v ps) (hmax : ps.length ≤ 1000000000000) :
    Calls Try.prog 20 #[v] w (PairsCn w (cnL ps) (cnC ps)) := by
  cases h : okT ps
  · rw [(cn_no h).1, (cn_no h).2]
    have IT := Lib.hid (isTrain_any ps v w ha hmax)
    rw [h] at IT
    clear h ha
    go_enter Try.func20, Try.ntmps20
    go_wp2_with fail
    refine IT.out.mono ?_
    rintro e w1 ⟨rfl, hb⟩
    go_wp2_with fail
    go_ret2
    exact ⟨_, rfl, World.ownsRow_nil _ _ _ _, hb⟩
  · rw [(cn_yes h).1, (cn_yes h).2]
    have h5 := (okT_iff.1 h).1
    have IT := Lib.hid (isTrain_any ps v w ha hmax)
    rw [h] at IT
    have HV := Lib.hid ha
    have D1 := Lib.hid (drv_len ps)
    have D2 := Lib.hid (drn_len ps)
    clear h ha
    go_enter Try.func20, Try.ntmps20
    go_wp2_with fail
    refine IT.out.mono ?_
    rintro e w1 ⟨rfl, hb⟩
    have L1 := Lib.hid hb
    have V1 := Lib.hid (HV.out.keep hb)
    clear hb
    go_wp2_with fail
    refine (wheelsOf_any ps v w1 V1.out (by omega)).mono ?_
    rintro e w2 ⟨v1, v2, rfl, hT⟩
    have T := Lib.hid hT
    clear hT
    go_wp2_with fail
    refine (SortRow_any (-1) (.inr rfl) _ _ v1 (drv ps) w2 T.out.oa (by rw [D1.out]; omega)).mono ?_
    rintro e w3 ⟨rfl, hs, hg⟩
    have k1 := own_blk T.out.oa
    have L3 := Lib.hid (bel_grown2 T.out.bel hg T.out.bel.size (fun r e => (k1 r e).1))
    have S1 := Lib.hid hs
    have O2 := Lib.hid (own_grow2 T.out.ob hg (fun k hk e => T.out.ne k e hk))
    clear hs hg k1
    go_wp2_with fail
    refine (SortRow_any 1 (.inl rfl) _ _ v2 (drn ps) w3 O2.out (by rw [D2.out]; omega)).mono ?_
    rintro e w4 ⟨rfl, hs, hg⟩
    have k2 := own_blk O2.out
    have L4 := Lib.hid (bel_grown2 L3.out hg L3.out.size (fun r e => (k2 r e).1))
    have S2 := Lib.hid hs
    have S1' := Lib.hid (S1.out.grown hg (fun k hk e => T.out.ne k hk e))
    clear hs hg k2 S1
    go_wp2_with fail
    refine (pairsOf_any (sgn (-1) (drv ps)) (sgn 1 (drn ps)) v1 v2 w4 S1'.out S2.out (by rw [sgn_len, sgn_len, D1.out, D2.out]) (by rw [sgn_len, D1.out]; omega)).mono ?_
    rintro e w5 ⟨vr, rfl, ho, hb⟩
    have e1 : (sgn (-1) (drv ps)).zip (sgn 1 (drn ps)) = cnP ps := by simp [sgn, cnP]
    rw [e1] at ho
    have L5 := Lib.hid (bT L1.out (L4.out.trans (hb.mono L4.out.size)))
    have O5 := Lib.hid (own_lower ho (Nat.le_trans L1.out.size L4.out.size))
    clear ho hb
    go_wp2_with fail
    go_ret2
    exact ⟨_, rfl, O5.out, L5.out⟩
end Go.Proofs.Ytnndjbngcaafhaa

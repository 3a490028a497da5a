/-
  Reading a train: impl.ReadTrain.
-/
import Derived.Test.YtnndjbngcaafhaaDoorRpI
import Derived.Maps.AppendAt
import Derived.OwnWalk
namespace Go.Proofs.YtnndjbngcaafhaaDoor
open Go.RowKit

theorem splL_short (c : UInt8) : ∀ (l : List UInt8), ∀ p ∈ splL c l, p.length ≤ l.length
  | [], p, h => by simp [splL] at h; subst h; simp
  | x :: xs, p, h => by
    have ih := splL_short c xs
    unfold splL at h
    split at h
    · rcases List.mem_cons.1 h with e | e
      · subst e; simp
      · have := ih p e; simp; omega
    · split at h
      · rcases List.mem_cons.1 h with e | e
        · subst e; simp
        · cases e
      · next y ys heq =>
        rcases List.mem_cons.1 h with e | e
        · subst e
          have := ih y (by rw [heq]; simp)
          simp; omega
        · have := ih p (by rw [heq]; simp [e])
          simp; omega
theorem splL_count (c : UInt8) : ∀ l : List UInt8, (splL c l).length ≤ l.length + 1
  | [] => by simp [splL]
  | x :: xs => by
    have ih := splL_count c xs
    unfold splL
    split
    · simp; omega
    · split
      · simp
      · next y ys heq => rw [heq] at ih; simp at ih ⊢; omega
/-- The words stand in a row. -/
def wat (ws : List ByteArray) (i : Nat) : ByteArray := ws.getD i ⟨#[]⟩
def WdAt (W : World) (g : Nat) (ws : List ByteArray) : Prop := ∀ i, i < ws.length → W.cell? ⟨g, i, none⟩ = some (.string (wat ws i))
theorem WdAt.keep {W W' : World} {g : Nat} {ws : List ByteArray} (h : WdAt W g ws) (hg : g < W.heap.size) (hb : Below W.heap.size W W') : WdAt W' g ws := fun i hi => (hb.cell (p := ⟨g, i, none⟩) hg).trans (h i hi)
theorem wd_new (w : World) (ws : List ByteArray) (t : TypeId) : WdAt (w.alloc (.cells (ws.map Value.string).toArray t)) w.heap.size ws := by
  intro i hi
  have : (ws.map Value.string)[i]? = some (.string (wat ws i)) := by
    rw [List.getElem?_map, List.getElem?_eq_getElem hi]
    simp [wat, hi]
  simp [go_sem, this]
/-- The words of a text. -/
structure Words32 (s : ByteArray) (ws : List ByteArray) : Prop where
  eq : ws.map (·.data.toList) = splL 32 s.data.toList
theorem Words32.len {s : ByteArray} {ws : List ByteArray} (h : Words32 s ws) : (splL 32 s.data.toList).length = ws.length := by rw [← h.eq]; simp
theorem Words32.at_ {s : ByteArray} {ws : List ByteArray} (h : Words32 s ws) {k : Nat} (hk : k < ws.length) : (splL 32 s.data.toList).take (k + 1) = (splL 32 s.data.toList).take k ++ [(wat ws k).data.toList] := by
  rw [← h.eq, List.take_add_one, List.getElem?_map, List.getElem?_eq_getElem hk]
  simp [wat, hk]
theorem Words32.size {s : ByteArray} {ws : List ByteArray} (h : Words32 s ws) {k : Nat} (hk : k < ws.length) : (wat ws k).size ≤ s.size := by
  have hm : (wat ws k).data.toList ∈ splL 32 s.data.toList := by
    rw [← h.eq]
    refine List.mem_map.2 ⟨wat ws k, ?_, rfl⟩
    simp [wat, hk]
  have := splL_short 32 _ _ hm
  simpa using this
def RtPost (w : World) (s : ByteArray) (e : Ending) (w' : World) : Prop :=
  ∃ v, e = .returned (.tuple #[v, .bool (rtK s.data.toList)]) ∧ w'.ownsRow w.heap.size 54 2 v (rtL s.data.toList).length (pairC (rtL s.data.toList)) ∧ Below w.heap.size w w'
theorem rt_post_none {w w' : World} {s : ByteArray} (h : rtF s.data.toList = none) (hb : Below w.heap.size w w') : RtPost w s (.returned (.tuple #[.slice none 0 0, .bool false])) w' := by
  obtain ⟨h1, h2⟩ := rtF_none h
  refine ⟨_, by rw [h2], ?_, hb⟩
  rw [h1]
  exact World.ownsRow_nil _ _ _ _
theorem rt_post_some {w w' : World} {s : ByteArray} {qs : List (Int × Int)} {v : Value} (h : rtF s.data.toList = some qs) (ho : w'.ownsRow w.heap.size 54 2 v qs.length (pairC qs)) (hb : Below w.heap.size w w') : RtPost w s (.returned (.tuple #[v, .bool true])) w' := by
  obtain ⟨h1, h2⟩ := rtF_some h
  exact ⟨_, by rw [h2], by rw [h1]; exact ho, hb⟩
/-- So far. -/
def RtRel (w : World) (B : Nat) (s : ByteArray) (v i : Value) (wr : World) : Prop :=
  ∃ (k : Nat) (qs : List (Int × Int)), i = .int .i64 k ∧ k ≤ (splL 32 s.data.toList).length ∧ k ≤ 5 ∧ qs.length = k ∧ allF ((splL 32 s.data.toList).take k) = some qs ∧ (∀ q ∈ qs, okP q = true) ∧ wr.ownsRow B 54 2 v k (pairC qs) ∧ Below w.heap.size w wr
theorem infoPrR : (Tryd.prog.info? 54).map (fun i => (i.zero, i.size, i.bytes)) = some (some (.agg #[.int .i64 0, .int .i64 0]), 2, 16) := by kernel_rfl
theorem row_srcR (W : World) (n : Nat) (x y : Value) (t : TypeId) (h : W.heap.size = n) : ∀ (j : Nat) (u : Value), [x, y][j]? = some u → (W.alloc (.cells #[x, y] t)).cell? ((⟨n, 0, none⟩ : Addr).add j) = some u := by
  subst h
  intro j u hj
  match j, hj with
  | 0, hj => simp at hj; subst hj; simp [go_sem, Addr.add]
  | 1, hj => simp at hj; subst hj; simp [go_sem, Addr.add]
theorem bel_grownR {a b c : World} {row : Option Nat} {B : Nat} (h : Below B a b) (g : b.grownBy c row) (hB : B ≤ b.heap.size) (hr : ∀ r, row = some r → B ≤ r) : Below B a c :=
  ⟨g.os.trans h.os, g.tape.trans h.tape, g.output.trans h.output, Nat.le_trans h.size g.size, fun k hk => (g.block k (Nat.lt_of_lt_of_le hk hB) (fun e => by have := hr k e.symm; omega)).trans (h.block k hk)⟩
theorem rt_step {s : ByteArray} {ws : List ByteArray} (hW : Words32 s ws) {k : Nat} (hk : k < ws.length) {qs : List (Int × Int)} (h : allF ((splL 32 s.data.toList).take k) = some qs) :
    allF ((splL 32 s.data.toList).take (k + 1)) = match prF (wat ws k).data.toList with
      | some q => some (qs ++ [q])
      | none => none := by
  rw [hW.at_ hk, allF_snoc, h]
  cases prF (wat ws k).data.toList <;> rfl
theorem rt_fail {s : ByteArray} {ws : List ByteArray} (hW : Words32 s ws) (h0 : s.data.toList ≠ [45]) {k : Nat} (hk : k < ws.length) {qs : List (Int × Int)} (h : allF ((splL 32 s.data.toList).take k) = some qs)
    (hf : prF (wat ws k).data.toList = none ∨ ∃ q, prF (wat ws k).data.toList = some q ∧ okP q = false) : rtF s.data.toList = none := by
  have hs := rt_step hW hk h
  rcases hf with hf | ⟨q, hf, hb⟩
  · rw [hf] at hs
    exact rtF_bad h0 (allF_cut hs)
  · rw [hf] at hs
    exact rtF_okP h0 hs ⟨q, by simp, hb⟩
theorem rt_next {w w' : World} {B : Nat} {s : ByteArray} {ws : List ByteArray} (hW : Words32 s ws) {k : Nat} (hk : k < ws.length) (hk5 : k < 5) {qs : List (Int × Int)} {x y : Int} {v : Value} (hl : qs.length = k) (h : allF ((splL 32 s.data.toList).take k) = some qs) (ha : ∀ q ∈ qs, okP q = true)
    (hp : prF (wat ws k).data.toList = some (x, y)) (ho : okP (x, y) = true) (hown : w'.ownsRow B 54 2 v (k + 1) (pairC qs ++ [.int .i64 x, .int .i64 y])) (hb : Below w.heap.size w w') : RtRel w B s v (.int .i64 ((k : Int) + 1)) w' := by
  have hs := rt_step hW hk h
  rw [hp] at hs
  refine ⟨k + 1, qs ++ [(x, y)], by go_num, by rw [hW.len]; omega, by omega, by simp [hl], hs, ?_, by rw [pairC_snoc]; exact hown, hb⟩
  intro q hq
  rcases List.mem_append.1 hq with h1 | h1
  · exact ha q h1
  · rw [List.mem_singleton.1 h1]; exact ho
theorem rt_end {s : ByteArray} {qs : List (Int × Int)} (h0 : s.data.toList ≠ [45]) {k : Nat} (hk : k = (splL 32 s.data.toList).length) (hk5 : k ≤ 5) (h : allF ((splL 32 s.data.toList).take k) = some qs) (hl : qs.length = k) (ha : ∀ q ∈ qs, okP q = true) : rtF s.data.toList = some qs := by
  rw [hk, List.take_length] at h
  rw [rtF_all h0 (by omega) h, if_pos (okT_iff.2 ⟨by omega, ha⟩)]
set_option maxRecDepth 100000 in
set_option maxHeartbeats 8000000 in
theorem ReadTrainI_any (s : ByteArray) (w : World) (hs : s.size ≤ 1048576) (hV : RdVars w) :
    Calls Tryd.prog 8 #[.string s] w (RtPost w s) := by
  obtain ⟨i0, hi, hz0, hz1, hz2⟩ := info_parts infoPrR
  by_cases hd : s.toList = [45]
  · have he : s.data.toList = [45] := by rw [← ByteArray.toList_eq]; exact hd
    have RN := Lib.hid (rt_post_some (w := w) (s := s) (qs := []) (v := .slice none 0 0) (by rw [he]; exact rtF_dash) (World.ownsRow_nil _ _ _ _) (bR w))
    clear hs hV he
    go_enter Tryd.func8, Tryd.ntmps8
    go_wp2_with fail
    go_ret2
    exact RN.out
  · have hd1 : s.data.toList ≠ [45] := fun e => hd (by rw [ByteArray.toList_eq]; exact e)
    have hd2 : (s.toList == [45]) = false := by rw [beq_eq_false_iff_ne]; exact hd
    obtain ⟨m, hm⟩ := hV.2.2
    have SP := Lib.hid (Tryd.strings_Split s ⟨#[32]⟩ m w (by omega) hm (by decide))
    have HV := Lib.hid hV
    have HD := Lib.hid hd1
    have hwl := Lib.splitB_all ⟨#[32]⟩ (by decide) 0 (Lib.countB s ⟨#[32]⟩) s rfl
    have hww : Words32 s (Lib.splitB ⟨#[32]⟩ 0 (Lib.countB s ⟨#[32]⟩) s) := ⟨by
      rw [Lib.splitB_data]
      exact splL_split 32 _ _ (Nat.le_refl _)⟩
    rw [← hwl] at SP
    generalize Lib.splitB ⟨#[32]⟩ 0 (Lib.countB s ⟨#[32]⟩) s = ws at *
    have HW := Lib.hid hww
    have hwn : ws.length ≤ 1048577 := by
      have := hww.len
      have := splL_count 32 s.data.toList
      have e : s.data.toList.length = s.size := by simp
      omega
    clear hV hm hwl hww hd hd1
    go_enter Tryd.func8, Tryd.ntmps8
    go_wp2_with fail
    refine SP.out.mono ?_
    rintro e w1 ⟨rfl, rfl⟩
    have WD := Lib.hid (wd_new w ws 9)
    have L1 := Lib.hid (bA (bR w) (.cells (ws.map Value.string).toArray 9))
    have hg : w.heap.size < (w.alloc (.cells (ws.map Value.string).toArray 9)).heap.size := by simp
    clear SP
    go_wp2_with fail
    generalize w.alloc (.cells (ws.map Value.string).toArray 9) = W1 at *
    go_loopw [4, 14] (fun v i wr => RtRel w W1.heap.size s v i wr ∧ Below W1.heap.size W1 wr) (fun _ i _ => ws.length - (intOf i).toNat)
    case atStart => exact ⟨⟨0, [], rfl, by omega, by omega, rfl, by simp [allF], by simp, World.ownsRow_nil _ _ _ _, L1.out⟩, bR _⟩
    case round =>
      obtain ⟨⟨k, qs, rfl, hk, hk5, hql, hal, hok, hown, hbw⟩, hbw1⟩ := hrel
      have hkw : k ≤ ws.length := by rw [← HW.out.len]; exact hk
      obtain ⟨ao, cap4, hv4, _⟩ := slP_of (ps := qs) (by rw [hql]; exact hown)
      rw [hql] at hv4
      subst hv4
      have HA := Lib.hid (And.intro hal hok)
      have HO := Lib.hid hown
      have HB := Lib.hid (And.intro hbw hbw1)
      have HOB := Lib.hid (own_blk hown)
      have hws := hbw.size
      clear hal hok hown hbw hbw1 hk
      by_cases hlt : k < ws.length
      · have c0 := (WD.out.keep hg HB.out.2) k hlt
        have hus := HW.out.size hlt
        have HF := Lib.hid (rt_fail HW.out HD.out hlt HA.out.1)
        have HN := Lib.hid (fun (W : World) (v : Value) (x y : Int) (h5 : k < 5) hp ho hown hb => rt_next (w := w) (w' := W) (B := W1.heap.size) (v := v) (x := x) (y := y) HW.out hlt h5 hql HA.out.1 HA.out.2 hp ho hown hb)
        have RP := Lib.hid (readPair_any (wat ws k) wr (by omega) (HV.out.keep HB.out.1))
        clear hus
        generalize wat ws k = u at *
        go_wp2_with fail
        refine RP.out.mono ?_
        rintro e w2 ⟨a, b, kk, rfl, hp, hb⟩
        have L2 := Lib.hid (bA (bT HB.out.1 hb) (.cells #[.int .i64 a, .int .i64 b] 54))
        have L2' := Lib.hid (bA (bT HB.out.2 hb) (.cells #[.int .i64 a, .int .i64 b] 54))
        have O2 := Lib.hid ((own_keep HO.out hb).alloc (.cells #[.int .i64 a, .int .i64 b] 54))
        have P2 := Lib.hid (Box2.new w2 a b 54)
        have hws2 : w.heap.size ≤ w2.heap.size := by have := hb.size; omega
        have hws3 : W1.heap.size ≤ w2.heap.size := by have := hb.size; have := HB.out.2.size; omega
        clear hb RP
        obtain ⟨x0, x1, x2, x3, x4⟩ := P2.out
        rcases hp with ⟨rfl, hp1, hp2⟩ | ⟨rfl, hp⟩
        · have HP := Lib.hid (And.intro hp1 hp2)
          clear hp1 hp2
          by_cases h5 : k = 5
          · have RN := Lib.hid (rt_post_none (w := w) (rtF_long HD.out (by rw [HW.out.len]; omega)) L2.out)
            have hq5 : ((k : Int) == 5) = true := by rw [h5]; rfl
            have hq6 : (k : Int) = 5 := by omega
            clear HF HN HP
            go_wp2_with fail
            go_ret2
            exact RN.out
          · have hq5 : ((k : Int) == 5) = false := by rw [beq_eq_false_iff_ne]; omega
            have hq6 : ¬ (k : Int) = 5 := by omega
            have hxA := Lib.hid (bA (bR (w2.alloc (.cells #[.int .i64 a, .int .i64 b] 54))) (.cells #[.int .i64 a, .int .i64 b] 54))
            have L3 := Lib.hid (bA L2.out (.cells #[.int .i64 a, .int .i64 b] 54))
            have L3' := Lib.hid (bA L2'.out (.cells #[.int .i64 a, .int .i64 b] 54))
            go_wp2_with (at_builtin; go_loud (refine wpList_append_own_at _ rfl _ _ 22 rfl W1.heap.size 54 i0 (.agg #[.int .i64 0, .int .i64 0]) 2 16 Tryd.underlying22 hi hz0 hz1 hz2 rfl (by decide) (.slice ao k cap4) k (pairC qs) rfl (own_keep O2.out hxA.out) ⟨w2.heap.size + 1, 0, none⟩ 1 1 [.int .i64 a, .int .i64 b] rfl rfl (row_srcR _ _ _ _ _ (by simp)) ?c3 ?c4 ?c5 ?c6 ?_))
            case c3 => intro u hu; simp at hu; rcases hu with rfl | rfl <;> rfl
            case c4 => unfold maxLen; omega
            case c5 => omega
            case c6 => simp; omega
            intro v' w3 hown3 hg3 _ _
            have RN := Lib.hid (And.intro (HN.out w3 v' a b (by omega) HP.out.1 HP.out.2 hown3 (bel_grownR L3.out hg3 (by simp; omega) (fun r e => by have := (HOB.out r e).1; omega))) (bel_grownR L3'.out hg3 (by simp; omega) (fun r e => (HOB.out r e).1)))
            clear hown3 hg3
            go_wp2_with fail
            exact ⟨RN.out, by simp [intOf]; omega⟩
        · have RN := Lib.hid (rt_post_none (w := w) (HF.out hp) L2.out)
          clear hp HF HN
          go_wp2_with fail
          go_ret2
          exact RN.out
      · obtain rfl : k = ws.length := by omega
        have RN := Lib.hid (rt_post_some (w := w) (rt_end HD.out (HW.out.len).symm hk5 HA.out.1 hql HA.out.2) (by rw [hql]; exact own_lower HO.out (Nat.le_of_lt hg)) HB.out.1)
        go_wp2_with fail
        go_ret2
        exact RN.out
end Go.Proofs.YtnndjbngcaafhaaDoor

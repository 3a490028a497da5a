/-
  The contracts of slices.AppendSeq and slices.Collect at int64, over whatever iterator.
-/
import Derived.Test.YtldjplopglpgfaaTermsI
import Derived.Test.YtldjplopglpgfaaOwn
import Derived.Maps.OwnIn
import Derived.Maps.AppendAt
import Derived.RangeFuncBox
namespace Go.Proofs.Ytldjplopglpgfaa
open Go.RowKit Go.Shelf
attribute [local go_sem] Oper.semAt_some

/-- A slice holds the list in a row of its own, in a block of which p holds not; or it is nil and the list is empty. -/
def Own64 (W : World) (B : Nat) (v : Value) (ts : List Int) (p : Nat → Prop) : Prop := W.ownsRow B 2 1 v ts.length (intC ts) ∧ ∀ g, v.ownBlock = some g → ¬ p g ∧ g < W.heap.size
theorem Own64.mov {W W' : World} {B : Nat} {v : Value} {ts : List Int} {T T' : Nat → Prop} (h : Own64 W B v ts T) (hm : Mov T W W') (ht : ∀ k, T' k → (T k ∨ W.heap.size ≤ k) ∧ k < W'.heap.size) : Own64 W' B v ts T' := by
  obtain ⟨⟨h1, h2⟩, h3⟩ := h
  refine ⟨⟨h1, ?_⟩, fun g hg => ⟨fun hT => ?_, Nat.lt_of_lt_of_le (h3 g hg).2 hm.size⟩⟩
  · rcases h2 with h2 | ⟨g, cap, cur, rfl, hB, hh, r⟩
    · exact .inl h2
    · exact .inr ⟨g, cap, cur, rfl, hB, (hm.block g (h3 g rfl).2 (h3 g rfl).1).trans hh, r⟩
  · have := h3 g hg
    rcases (ht g hT).1 with h | h
    · exact this.1 h
    · omega
/-- What the loop of AppendSeq carries: the variable's box, what it has collected, the iterator's blocks. -/
def CollI (w : World) (pre : List Int) (T : Nat → Prop) (W : World) : Prop :=
  ∃ v, W.cell? ⟨w.heap.size, 0, none⟩ = some v ∧ W.frozen? ⟨w.heap.size, 0, none⟩ = false ∧ Own64 W (w.heap.size + 1) v pre T ∧ w.heap.size < W.heap.size ∧ (∀ k, T k → w.heap.size < k) ∧ Below w.heap.size w W
theorem coll_ab (w : World) : AbP (CollI w) := by
  intro s T T' W W' ⟨v, h1, h2, h3, h4, h5, h6⟩ hm ht
  have hb : W'.heap[w.heap.size]? = W.heap[w.heap.size]? := hm.block _ h4 (fun h => by have := h5 _ h; omega)
  refine ⟨v, (World.cell?_of_block hb).trans h1, (World.frozen?_of_block hb).trans h2, h3.mov hm ht, Nat.lt_of_lt_of_le h4 hm.size, fun k hk => ?_, ?_⟩
  · rcases (ht k hk).1 with h | h
    · exact h5 k h
    · omega
  · exact ⟨hm.os.trans h6.os, hm.tape.trans h6.tape, hm.output.trans h6.output, Nat.le_trans h6.size hm.size, fun k hk => (hm.block k (Nat.lt_of_lt_of_le hk h6.size) (fun h => by have := h5 _ h; omega)).trans (h6.block k hk)⟩
theorem coll_turn (w : World) (T : Nat → Prop) : TurnsP (w.heap.size + 1) (fun s => CollI w s T) := by
  intro s W o o' ⟨v, h1, h2, h3, h4, h5, h6⟩ ho hc
  have hb : (W.putObj (w.heap.size + 1 + 1) o').heap[w.heap.size]? = W.heap[w.heap.size]? := World.putObj_heap_other (by omega)
  refine ⟨v, (World.cell?_of_block hb).trans h1, (World.frozen?_of_block hb).trans h2, ⟨ownsRow_putObj h3.1 o' ho hc, fun g hg => ⟨(h3.2 g hg).1, by simpa using (h3.2 g hg).2⟩⟩, by simpa using h4, h5, ?_⟩
  exact h6.grown (grownBy_putObj' W (w.heap.size + 1 + 1) o') h6.size (fun k e => by cases e; omega)
theorem own64_push {W W' : World} {B : Nat} {v v' : Value} {ts : List Int} {t : Int} {T : Nat → Prop} {row : Option Nat} (hT : ∀ k, T k → k < W.heap.size) (hv : Own64 W B v ts T) (hrow : v.ownBlock = row)  (hown : W'.ownsRow B 2 1 v' (ts.length + 1) (intC ts ++ [.int .i64 t])) (hnew : ∀ g, v'.ownBlock = some g → row = some g ∨ W.heap.size ≤ g) : Own64 W' B v' (ts ++ [t]) T := by
  refine ⟨?_, fun g hg' => ?_⟩
  · have e : intC (ts ++ [t]) = intC ts ++ [.int .i64 t] := by simp [intC]
    rw [e, List.length_append]; exact hown
  · have hlt : g < W'.heap.size := by
      rcases hown.2 with ⟨h0, h1⟩ | ⟨g', cap', cur, h0, _, hh, _⟩
      · omega
      · subst h0; cases hg'; exact (Array.getElem?_eq_some_iff.1 hh).1
    refine ⟨fun h => ?_, hlt⟩
    rcases hnew g hg' with e | e
    · exact (hv.2 g (hrow.trans e)).1 h
    · have := hT g h; omega

theorem own_cells {W : World} {B : Nat} {e : TypeId} {sz : Nat} {v : Value} {n : Nat} {xs : List Value} (h : W.ownsRow B e sz v n xs) {j : Nat} {o : Obj} (hj : v.ownBlock = some j) (ho : W.heap[j]? = some o) : o.isCells = true ∧ B ≤ j := by
  rcases h.2 with ⟨rfl, _⟩ | ⟨g, cap, cur, rfl, hB, hh, _⟩
  · cases hj
  · cases hj; rw [hh] at ho; cases ho; exact ⟨rfl, hB⟩
theorem box_kept {w W W1 : World} {o : Obj} {v v0 : Value} {e : TypeId} {sz n : Nat} {xs : List Value} (h4 : w.heap.size < W.heap.size) (hv : W.ownsRow (w.heap.size + 1) e sz v n xs) (hg : (W.alloc o).grownBy W1 v.ownBlock) (c1 : W.cell? ⟨w.heap.size, 0, none⟩ = some v0) (c2 : W.frozen? ⟨w.heap.size, 0, none⟩ = false) :
    W1.cell? ⟨w.heap.size, 0, none⟩ = some v0 ∧ W1.frozen? ⟨w.heap.size, 0, none⟩ = false ∧ w.heap.size < W1.heap.size := by
  have hb : W1.heap[w.heap.size]? = W.heap[w.heap.size]? := by
    rw [hg.block w.heap.size (by simp; omega) (fun e => ?_), Below.heap_alloc _ _ _ h4]
    have := (own_cells hv e.symm (Array.getElem?_eq_getElem h4)).2
    omega
  exact ⟨(World.cell?_of_block hb).trans c1, (World.frozen?_of_block hb).trans c2, by have := hg.size; simp at this; omega⟩
/-- A round of AppendSeq. -/
theorem coll_push {w W W1 : World} {pre : List Int} {x : Int} {T Fx : Nat → Prop} {v v' : Value} {o : Obj} (hFx : ∀ k, Fx k → k < w.heap.size) (c1 : W.cell? ⟨w.heap.size, 0, none⟩ = some v) (c2 : W.frozen? ⟨w.heap.size, 0, none⟩ = false) (c3 : Own64 W (w.heap.size + 1) v pre T) (c4 : w.heap.size < W.heap.size) (c5 : ∀ k, T k → w.heap.size < k) (c6 : Below w.heap.size w W) (ht : ∀ k, T k → k < W.heap.size)
    (hown : W1.ownsRow (w.heap.size + 1) 2 1 v' (pre.length + 1) (intC pre ++ [.int .i64 x])) (hg : (W.alloc o).grownBy W1 v.ownBlock) (hat : v'.ownBlock = v.ownBlock ∨ v'.ownBlock = some (W.alloc o).heap.size) :
    KeepsOthers W (W1.setCell ⟨w.heap.size, 0, none⟩ v') ∧ Kept T Fx W (W1.setCell ⟨w.heap.size, 0, none⟩ v') ∧ CollI w (pre ++ [x]) T (W1.setCell ⟨w.heap.size, 0, none⟩ v') := by
  have hal := c3.1.alloc o
  obtain ⟨b1, b2, b3⟩ := box_kept c4 c3.1 hg c1 c2
  have hgs := hg.size
  have hsz : (W1.setCell ⟨w.heap.size, 0, none⟩ v').heap.size = W1.heap.size := by simp [World.setCell]
  have blk : ∀ k, k < W.heap.size → v.ownBlock ≠ some k → k ≠ w.heap.size → (W1.setCell ⟨w.heap.size, 0, none⟩ v').heap[k]? = W.heap[k]? := by
    intro k hk h1 h2
    rw [Below.heap_setCell _ _ _ _ h2, hg.block k (by simp; omega) (Ne.symm h1), Below.heap_alloc _ _ _ hk]
  have row : ∀ k, k < W.heap.size → v.ownBlock = some k → w.heap.size + 1 ≤ k := fun k hk e => (own_cells c3.1 e (Array.getElem?_eq_getElem hk)).2
  have bel : Below w.heap.size W (W1.setCell ⟨w.heap.size, 0, none⟩ v') :=
    ⟨hg.os, hg.tape, hg.output, by rw [hsz]; simp at hgs; omega, fun k hk => blk k (by omega) (fun e => by have := row k (by omega) e; omega) (by omega)⟩
  refine ⟨?_, ⟨bel.os, bel.tape, bel.output, by rw [hsz]; simp at hgs; omega, fun k hk => blk k (ht k hk) (fun e => (c3.2 k e).1 hk) (by have := c5 k hk; omega), fun k hk => bel.block k (hFx k hk)⟩, ?_⟩
  · exact (KeepsOthers.alloc W o).trans ((KeepsOthers.of_grownBy hg (fun j o' hj ho => (own_cells hal hj ho).1)).trans (KeepsOthers.setCell _ _ _))
  · have hp : Own64 W1 (w.heap.size + 1) v' (pre ++ [x]) T := own64_push (W := W.alloc o) (fun k hk => by have := ht k hk; simp; omega) ⟨hal, fun g hg' => ⟨(c3.2 g hg').1, by have := (c3.2 g hg').2; simp; omega⟩⟩ rfl hown (fun g hg' => by
      rcases hat with h | h
      · exact .inl (h.symm.trans hg')
      · rw [h] at hg'; cases hg'; exact .inr (Nat.le_refl _))
    have hne : v'.ownBlock ≠ some (⟨w.heap.size, 0, none⟩ : Addr).block := fun e => by
      have hl := (hp.2 _ e).2
      have := (own_cells hp.1 e (Array.getElem?_eq_getElem hl)).2
      simp at this
      omega
    refine ⟨v', ?_, ?_, ⟨ownsRow_setCell_other hp.1 hne _, fun g hg' => ⟨(hp.2 g hg').1, by rw [hsz]; exact (hp.2 g hg').2⟩⟩, by rw [hsz]; exact b3, c5, ?_⟩
    · simp [go_sem, b1]
    · simp [go_sem, b2]
    · exact ⟨bel.os.trans c6.os, bel.tape.trans c6.tape, bel.output.trans c6.output, Nat.le_trans c6.size bel.size, fun k hk => (bel.block k hk).trans (c6.block k hk)⟩
/-- How collecting ends: a slice of the call's own with the list. -/
def CollRet (w : World) (ts : List Int) (e : Ending) (w' : World) : Prop := ∃ v, e = .returned v ∧ w'.ownsRow w.heap.size 2 1 v ts.length (intC ts) ∧ Below w.heap.size w w'
theorem own_low {W : World} {B B' : Nat} {v : Value} {n : Nat} {xs : List Value} (h : W.ownsRow B 2 1 v n xs) (hB : B' ≤ B) : W.ownsRow B' 2 1 v n xs := by
  refine ⟨h.1, ?_⟩
  rcases h.2 with h0 | ⟨g', cap', cur, h0, hg, r⟩
  · exact .inl h0
  · exact .inr ⟨g', cap', cur, h0, Nat.le_trans hB hg, r⟩
set_option maxHeartbeats 4000000 in
theorem AppendSeq_any (gf : Nat) (lb : Array Value) (Fx : Nat → Prop) (N : Nat) (ts : List Int) (Sp : List Int → Prop) (w : World) (eg : ∀ args w, (callFunc gf args).run Try.prog w = .ok (.enter gf args) w) (hFx : ∀ k, Fx k → k < w.heap.size) (hN : N ≤ 1000000000000)
    (hseq : SeqP Fence.wide Try.prog gf lb (fun x : Int => #[.int .i64 x]) Fx (fun xs => xs = ts) Sp N w) :
    Calls Try.prog 36 #[.slice none 0 0, .func (.func gf) #[] lb] w (CollRet w ts) := by
  obtain ⟨i0, hi, hz0, hz1, hz2⟩ := info_parts infoI64
  have HS := Lib.hid hseq
  have H0 : CollI w [] none1 (w.alloc (.cells #[.slice none 0 0] 28)) :=
    ⟨.slice none 0 0, by simp [go_sem], by simp [go_sem], ⟨World.ownsRow_nil _ _ _ _, fun g hg => by cases hg⟩, by simp, fun k hk => hk.elim, bA (bR _) _⟩
  have HH0 := Lib.hid H0
  clear hseq H0
  refine (callsIn_wide (n := 8)).1 ?_
  refine callsIn_of_wp_marks Try.func36 rfl trivial ?_ rfl
  simp only [Try.ntmps36, List.size_toArray, List.length_cons, List.length_nil, Nat.reduceAdd, Nat.reduceSub, Array.replicate_succ, Array.replicate_zero, List.push_toArray, List.append_toArray, List.nil_append, List.cons_append]
  gi_wp2
  refine rf_law 6 rfl rfl (gf := gf) (lb := lb) rfl trivial eg HS.out (fun k hk => by have := hFx k hk; simp; omega) (bA (bR _) _) (fun _ => rfl) (CollI w) (fun _ _ _ _ => False) (coll_ab w) (fun _ _ _ _ _ _ h _ _ => h)
    (fun T => by simpa using coll_turn w T) (fun _ _ _ _ _ _ h _ _ => h) HH0.out (fun x a' _ => a' = { tmps := #[.slice none 0 0, .func (.func gf) #[] lb, .pointer (some ⟨w.heap.size, 0, none⟩), undef, .slice none 0 0, .int .i64 x, .func (.func gf) #[] lb, .int .i64 x, undef, undef, undef, undef, undef], defers := [] }) (fun _ _ _ _ _ h _ _ => h) ?assign ?body ?done ?stop
  case assign =>
    intro l pre x T W K hi' ht hK
    gi_wp2
    exact hK _ _ (bR _) hi' rfl
  case body =>
    rintro l pre x a' T W _ ⟨v, c1, c2, c3, c4, c5, c6⟩ ht hbk rfl hlen
    have HC3 := Lib.hid c3
    have HC5 := Lib.hid c5
    have HT := Lib.hid ht
    have HBK := Lib.hid hbk
    have HB := Lib.hid c6
    have hsz := c6.size
    clear c3 c5 c6 ht hbk
    gi_wp2_with (gi_at_builtin; refine wpListIn_append_own_at _ rfl _ _ 28 rfl (w.heap.size + 1) 2 i0 (.int .i64 0) 1 8 Try.underlying28 hi hz0 hz1 hz2 rfl (by decide) _ pre.length (intC pre) rfl (HC3.out.1.alloc _) ⟨W.heap.size, 0, none⟩ 1 1 [.int .i64 x] rfl rfl (row_src _ _ _) ?c3 ?c4 ?c5 ?c6 ?_)
    case c3 => exact fun u hu => by rw [List.mem_singleton.1 hu]; rfl
    case c4 => unfold maxLen; omega
    case c5 => omega
    case c6 => simp; omega
    intro v' W1 hown hg1 _ hat
    obtain ⟨g', cap', rfl⟩ := ownsRow_succ hown
    obtain ⟨b1, b2, b3⟩ := box_kept c4 HC3.out.1 hg1 c1 c2
    have R := Lib.hid (coll_push hFx c1 c2 HC3.out c4 HC5.out HB.out (fun k hk => (HT.out k hk).1) hown hg1 (by simpa using hat))
    clear hown hg1 hat
    gi_wp2
    exact ⟨same2_of HBK.out R.out.1, R.out.2.1, R.out.2.2⟩
  case done =>
    rintro D xs T W hD rfl ⟨v, c1, c2, c3, c4, c5, c6⟩ hK
    have hD' : w.heap.size ≤ D := by simp at hD; omega
    gi_wp2
    refine ⟨by simp, .inl ⟨_, _, rfl, run_takeDeferred hK, ?_⟩⟩
    refine ⟨_, results_tmp rfl _ _ _, v, rfl, own_low (ownsRow_putObj c3.1 _ hK rfl) (by omega), ?_⟩
    exact c6.grown (grownBy_putObj' W D _) c6.size (fun k e => by cases e; exact hD')
  case stop =>
    rintro D c pre T W _ _ h _
    exact h.elim
theorem Collect_any (gf : Nat) (lb : Array Value) (Fx : Nat → Prop) (N : Nat) (ts : List Int) (Sp : List Int → Prop) (w : World) (eg : ∀ args w, (callFunc gf args).run Try.prog w = .ok (.enter gf args) w) (hFx : ∀ k, Fx k → k < w.heap.size) (hN : N ≤ 1000000000000)
    (hseq : SeqP Fence.wide Try.prog gf lb (fun x : Int => #[.int .i64 x]) Fx (fun xs => xs = ts) Sp N w) :
    Calls Try.prog 19 #[.func (.func gf) #[] lb] w (CollRet w ts) := by
  have HA := Lib.hid (AppendSeq_any gf lb Fx N ts Sp w eg hFx hN hseq)
  clear hseq
  go_enter Try.func19, Try.ntmps19
  go_wp2_with fail
  refine HA.out.mono ?_
  rintro e w1 ⟨v, rfl, h1, h2⟩
  go_wp2_with fail
  go_ret
  exact ⟨v, rfl, h1, h2⟩
end Go.Proofs.Ytldjplopglpgfaa

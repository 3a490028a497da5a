/-
  slices.Backward at rules.
-/
import Derived.Test.YtpbepibklipfpaaDoorCaL
import Derived.Test.YtpbepibklipfpaaDoorCaI
import Derived.Test.YtpbepibklipfpaaDoorTermsI
namespace Go.Proofs.YtpbepibklipfpaaDoor
open Go.RowKit Go.Shelf
attribute [local go_sem] Oper.semAt_some

/-- The rules of a list with their places, from the k-th back to the first. -/
def backRL (rs : List Ru) : Nat → List (Int × Ru)
  | 0 => []
  | k + 1 => ((k : Int), ruAt rs k) :: backRL rs k
theorem backRL_len (rs : List Ru) (k : Nat) : (backRL rs k).length = k := by induction k with
  | zero => rfl
  | succ k ih => simp [backRL, ih]
def encBr (x : Int × Ru) : Array Value := #[.int .i64 x.1, .agg #[.int .i64 x.2.e, .int .i64 x.2.r, .bool x.2.b]]
/-- The rules lie below block n. -/
def RuLow (n : Nat) (W : World) (v : Value) (rs : List Ru) : Prop := ∃ ao cap, v = .slice ao rs.length cap ∧ (1 ≤ rs.length → ∃ g o, ao = some ⟨g, o, none⟩ ∧ g < n ∧ RusAt W g o rs)
theorem RuLow.of_kept {n : Nat} {W W' : World} {v : Value} {rs : List Ru} (h : RuLow n W v rs) (hb : ∀ g, g < n → W'.heap[g]? = W.heap[g]?) : RuLow n W' v rs := by
  obtain ⟨ao, cap, e, h1⟩ := h
  refine ⟨ao, cap, e, fun hl => ?_⟩
  obtain ⟨g, o, eg, hg, hc⟩ := h1 hl
  refine ⟨g, o, eg, hg, fun i hi => ?_⟩
  obtain ⟨a0, a1, a2⟩ := hc i hi
  have e := hb g hg
  exact ⟨(World.cell?_of_block e).trans a0, (World.cell?_of_block e).trans a1, (World.cell?_of_block e).trans a2⟩
theorem SlRu.low {W : World} {v : Value} {rs : List Ru} (h : SlRu W v rs) : RuLow W.heap.size W v rs := by
  obtain ⟨ao, cap, e, _, h1⟩ := h.open
  exact ⟨ao, cap, e, h1⟩
def BrRel (rs : List Ru) (bb n0 : Nat) (v : Value) (J : List (Int × Ru) → (Nat → Prop) → World → Prop) (i : Value) (wr : World) : Prop :=
  ∃ (pre : List (Int × Ru)) (k : Nat) (iv : Int) (T : Nat → Prop), i = .int .i64 iv ∧ iv = (k : Int) - 1 ∧ k ≤ rs.length ∧ backRL rs rs.length = pre ++ backRL rs k ∧ J pre T wr ∧ (∀ k, T k → k < wr.heap.size) ∧ wr.cell? ⟨bb, 0, none⟩ = some v ∧ RuLow n0 wr v rs
set_option maxHeartbeats 4000000 in
theorem backRP (rs : List Ru) (bb n0 : Nat) (ao : Option Addr) (cap : Nat) (w : World) (hlen : rs.length ≤ 1048576) (hb : bb < w.heap.size) (hn : n0 ≤ w.heap.size) (c0 : w.cell? ⟨bb, 0, none⟩ = some (.slice ao rs.length cap)) (c1 : RuLow n0 w (.slice ao rs.length cap) rs) :
    SeqP Fence.wide Tryd.prog 174 #[.pointer (some ⟨bb, 0, none⟩)] encBr (fun k => k = bb ∨ k < n0) (fun xs => xs = backRL rs rs.length) (fun pre => pre <+: backRL rs rs.length) rs.length w := by
  intro nn m l J Jx W hW hJ hJx hY hJ0
  have e0 : W.cell? ⟨bb, 0, none⟩ = some (.slice ao rs.length cap) := (hW.cell (p := ⟨bb, 0, none⟩) hb).trans c0
  have HY := Lib.hid hY
  have RS := Lib.hid (show BrRel rs bb n0 (.slice ao rs.length cap) J (.int .i64 ((rs.length : Int) - 1)) W from ⟨[], rs.length, _, none1, rfl, rfl, Nat.le_refl _, rfl, hJ0, fun k hk => hk.elim, e0, c1.of_kept (fun g hg => hW.block g (by omega))⟩)
  clear hY hJ0 c0 c1
  refine callsIn_of_wp Tryd.func174 rfl trivial ?_ rfl
  simp only [Tryd.ntmps174, List.size_toArray, List.length_cons, List.length_nil, Nat.reduceAdd, Nat.reduceSub, Array.replicate_succ, Array.replicate_zero, List.push_toArray, List.append_toArray, List.nil_append, List.cons_append]
  gi_wp2
  gi_loopw [3] (fun i wr => BrRel rs bb n0 (.slice ao rs.length cap) J i wr) (fun i _ => (intOf i + 1).toNat)
  case atStart => exact RS.out
  case round =>
    obtain ⟨pre, k, iv, T, rfl, hiv, hk, hpre, hj, hTl, hc, hi⟩ := hrel
    have HP := Lib.hid hpre
    have HI := Lib.hid hi
    have HT := Lib.hid hTl
    clear hpre hi hTl e0
    cases k with
    | zero =>
      obtain rfl : iv = -1 := by omega
      clear hiv
      gi_wp2_with fail
      go_end0
      exact ⟨⟨_, rfl⟩, .inl ⟨pre, T, by rw [HP.out]; simp [backRL], hj⟩⟩
    | succ j =>
      obtain rfl : iv = (j : Int) := by omega
      clear hiv
      obtain ⟨ao', cap', e', ha'⟩ := HI.out
      injection e' with e1 e2 e3
      subst e1 e3
      obtain ⟨g, o, rfl, hg, hcs⟩ := ha' (by omega)
      obtain ⟨cj, cj2, cj3⟩ := hcs j (by omega)
      have HE := Lib.hid (show ruAt rs j = ⟨(ruAt rs j).e, (ruAt rs j).r, (ruAt rs j).b⟩ from rfl)
      have HPX := Lib.hid (show pre ++ [((j : Int), ruAt rs j)] <+: backRL rs rs.length from ⟨backRL rs j, by rw [HP.out]; simp [backRL]⟩)
      have hl : pre.length < rs.length := by have := congrArg List.length HP.out; rw [List.length_append, backRL_len, backRL_len] at this; omega
      obtain ⟨fn, tmps, assign, body, hy, hR⟩ := HY.out pre ((j : Int), ruAt rs j) T wr HPX.out hj HT.out hl
      have HR := Lib.hid hR
      clear hR e2 ha' hcs hg
      dsimp only [encBr] at hy
      gi_wp2_with fail
      refine ⟨wdep _, (roundAny HR.out).mono ?_⟩
      rintro e W2 (⟨rfl, hj2, hk2⟩ | ⟨rfl, hjx, _⟩)
      · gi_wp2_with fail
        refine ⟨⟨pre ++ [((j : Int), ruAt rs j)], j, _, T, rfl, rfl, by omega, by rw [HP.out]; simp [backRL], hj2, fun k hk => Nat.lt_of_lt_of_le (HT.out k hk) hk2.size, (World.cell?_of_block (hk2.read bb (.inl rfl))).trans hc, HI.out.of_kept (fun g hg => hk2.read g (.inr hg))⟩, ?_⟩
        simp [intOf]
      · gi_wp2_with fail
        refine bodyPost_ret (results_none rfl _ _ _) rfl ?_
        exact ⟨⟨_, rfl⟩, .inr ⟨_, _, HPX.out, hjx⟩⟩
theorem BackwardR_any (v : Value) (w : World) (hv : ∃ a n c, v = .slice a n c) :
    Calls Tryd.prog 163 #[v] w fun e w' => e = .returned (.func (.func 174) #[] #[.pointer (some ⟨w.heap.size, 0, none⟩)]) ∧ w.alloc (.cells #[v] 32) = w' := by
  obtain ⟨a, n, c, rfl⟩ := hv
  go_enter Tryd.func163, Tryd.ntmps163
  go_wp2_with fail
  go_ret
  exact ⟨rfl, rfl⟩
theorem appliesTo_any (r : Ru) (y : Int) (w : World) (hr : ruB r = true) (hy : 0 ≤ y) :
    Calls Tryd.prog 164 #[.agg #[.int .i64 r.e, .int .i64 r.r, .bool r.b], .int .i64 y] w (BoolBel (apR r y) w) := by
  have hb := ruB_bd hr
  obtain ⟨x, z, b⟩ := r
  simp only at hb ⊢
  have hx0 : ¬ x = 0 := by omega
  have hx1 : 0 < x := by omega
  have HQ := Lib.hid (show (y % x == z) = apR ⟨x, z, b⟩ y by unfold apR; rw [Bool.eq_iff_iff]; simp)
  have X := Lib.hid (BoxL.new w [.int .i64 x, .int .i64 z, .bool b] 82)
  have L := Lib.hid (bA (bR w) (.cells #[.int .i64 x, .int .i64 z, .bool b] 82))
  go_enter Tryd.func164, Tryd.ntmps164
  go_wp2_with fail
  obtain ⟨c0, c1, c2, c3⟩ := X.out.c3
  generalize w.alloc (.cells #[.int .i64 x, .int .i64 z, .bool b] 82) = W0 at *
  generalize w.heap.size = nb at X c0 c1 c2 c3 ⊢
  go_quiet (fail)
  go_wp2_with fail
  go_ret
  exact ⟨ret_bool HQ.out, by first | exact L.out | exact bD L.out _⟩
theorem leapDays_any (m : Mo) (w : World) : Calls Tryd.prog 130 #[moV m] w (OneC (dyM m true) w) := by
  unfold moV
  go_enter Tryd.func130, Tryd.ntmps130
  go_wp2_with fail
  go_ret
  exact ⟨rfl, bA (bR _) _⟩
theorem commonDays_any (m : Mo) (w : World) : Calls Tryd.prog 131 #[moV m] w (OneC (dyM m false) w) := by
  unfold moV
  go_enter Tryd.func131, Tryd.ntmps131
  go_wp2_with fail
  go_ret
  exact ⟨rfl, bA (bR _) _⟩
/-- The function that tells the days. -/
def dayF (b : Bool) : Value := .func (.func (if b then 130 else 131)) #[] #[]
theorem daysOf_any (b : Bool) (m : Mo) (w : World) : Calls Tryd.prog (if b then 130 else 131) #[moV m] w (OneC (dyM m b) w) := by
  cases b
  · exact commonDays_any m w
  · exact leapDays_any m w
set_option maxRecDepth 100000 in
set_option maxHeartbeats 2000000 in
theorem sumL_any (ms : List Mo) (v : Value) (w : World) (ha : SlMo w v ms) (ho : okMo ms = true) :
    Calls Tryd.prog 129 #[v, .func (.func 130) #[] #[]] w (OneC (smA ms true) w) := by
  obtain ⟨ao, cap, rfl, ⟨l1, l2⟩, ha⟩ := ha.open
  have HA := Lib.hid ha
  have CA := Lib.hid (fun k W => leapDays_any (moAt ms k) W)
  have HB := Lib.hid (fun k (hk : k ≤ ms.length) => smD_bd ho true (k := k) hk)
  have h20 := (okMo_parts ho).2.1
  have HD := Lib.hid (fun k (hk : k < ms.length) => dyM_bd ho (k := k) hk true)
  unfold smA
  clear ha ho
  go_enter Tryd.func129, Tryd.ntmps129
  go_wp2_with fail
  go_loopw [5, 10] (fun vs vi wr => ∃ k : Nat, k ≤ ms.length ∧ vi = .int .i64 k ∧ vs = .int .i64 (smD ms true k) ∧ Below w.heap.size w wr) (fun _ vi _ => ms.length - (intOf vi).toNat)
  case atStart => exact ⟨0, Nat.zero_le _, rfl, rfl, bR _⟩
  case round =>
    obtain ⟨k, hk, rfl, rfl, hbel⟩ := hrel
    have BL := Lib.hid hbel
    by_cases hlt : k < ms.length
    · obtain ⟨g, o, rfl, hg, hc⟩ := HA.out (by omega)
      obtain ⟨c1, c2, c3, _⟩ := (hc.keep hg hbel) k hlt
      have C1 := Lib.hid (CA.out k)
      unfold moV at C1
      have b1 := HB.out k hk
      have b2 := HD.out k hlt
      have HS := Lib.hid (smD_succ ms true k)
      clear hc HA CA hbel
      generalize dyM (moAt ms k) true = d at *
      generalize (moAt ms k).nm = m0 at *
      generalize (moAt ms k).d = m1 at *
      generalize (moAt ms k).l = m2 at *
      generalize smD ms true k = s at *
      go_wp2_with fail
      refine (C1.out _).mono ?_
      rintro en w2 ⟨rfl, hb⟩
      have BL2 := Lib.hid (bT (bA BL.out _) hb)
      clear hb c1 c2
      go_wp2_with fail
      go_roundw
      case rel => exact ⟨k + 1, by omega, by go_num, by rw [HS.out], BL2.out⟩
      case measure => simp [intOf]; omega
    · obtain rfl : k = ms.length := by omega
      go_wp2_with fail
      go_ret
      exact ⟨rfl, BL.out⟩
set_option maxRecDepth 100000 in
set_option maxHeartbeats 2000000 in
theorem sumC_any (ms : List Mo) (v : Value) (w : World) (ha : SlMo w v ms) (ho : okMo ms = true) :
    Calls Tryd.prog 129 #[v, .func (.func 131) #[] #[]] w (OneC (smA ms false) w) := by
  obtain ⟨ao, cap, rfl, ⟨l1, l2⟩, ha⟩ := ha.open
  have HA := Lib.hid ha
  have CA := Lib.hid (fun k W => commonDays_any (moAt ms k) W)
  have HB := Lib.hid (fun k (hk : k ≤ ms.length) => smD_bd ho false (k := k) hk)
  have h20 := (okMo_parts ho).2.1
  have HD := Lib.hid (fun k (hk : k < ms.length) => dyM_bd ho (k := k) hk false)
  unfold smA
  clear ha ho
  go_enter Tryd.func129, Tryd.ntmps129
  go_wp2_with fail
  go_loopw [5, 10] (fun vs vi wr => ∃ k : Nat, k ≤ ms.length ∧ vi = .int .i64 k ∧ vs = .int .i64 (smD ms false k) ∧ Below w.heap.size w wr) (fun _ vi _ => ms.length - (intOf vi).toNat)
  case atStart => exact ⟨0, Nat.zero_le _, rfl, rfl, bR _⟩
  case round =>
    obtain ⟨k, hk, rfl, rfl, hbel⟩ := hrel
    have BL := Lib.hid hbel
    by_cases hlt : k < ms.length
    · obtain ⟨g, o, rfl, hg, hc⟩ := HA.out (by omega)
      obtain ⟨c1, c2, c3, _⟩ := (hc.keep hg hbel) k hlt
      have C1 := Lib.hid (CA.out k)
      unfold moV at C1
      have b1 := HB.out k hk
      have b2 := HD.out k hlt
      have HS := Lib.hid (smD_succ ms false k)
      clear hc HA CA hbel
      generalize dyM (moAt ms k) false = d at *
      generalize (moAt ms k).nm = m0 at *
      generalize (moAt ms k).d = m1 at *
      generalize (moAt ms k).l = m2 at *
      generalize smD ms false k = s at *
      go_wp2_with fail
      refine (C1.out _).mono ?_
      rintro en w2 ⟨rfl, hb⟩
      have BL2 := Lib.hid (bT (bA BL.out _) hb)
      clear hb c1 c2
      go_wp2_with fail
      go_roundw
      case rel => exact ⟨k + 1, by omega, by go_num, by rw [HS.out], BL2.out⟩
      case measure => simp [intOf]; omega
    · obtain rfl : k = ms.length := by omega
      go_wp2_with fail
      go_ret
      exact ⟨rfl, BL.out⟩
theorem sumMo_any (b : Bool) (ms : List Mo) (v : Value) (w : World) (ha : SlMo w v ms) (ho : okMo ms = true) :
    Calls Tryd.prog 129 #[v, dayF b] w (OneC (smA ms b) w) := by
  cases b
  · exact sumC_any ms v w ha ho
  · exact sumL_any ms v w ha ho
end Go.Proofs.YtpbepibklipfpaaDoor

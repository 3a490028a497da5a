/-
  The contract of spec.l03Ratio: the ratio of terms.
-/
import Derived.Test.YthnfkkfonabhkaaBox
import Derived.Test.YthnfkkfonabhkaaAr1
namespace Go.Proofs.Ythnfkkfonabhkaa
open Go.RowKit

/-- A number of a list. -/
def at0 (ts : List Int) (i : Nat) : Int := ts[i]?.getD 0
theorem at0_mem {ts : List Int} {i : Nat} (h : i < ts.length) : at0 ts i ∈ ts := by unfold at0; rw [List.getElem?_eq_getElem h]; simp
/-- A list of numbers lies in a block, from its first cell on. -/
def IntsAt (w : World) (g : Nat) (ts : List Int) : Prop := ∀ i, i < ts.length → w.cell? ⟨g, i, none⟩ = some (.int .i64 (at0 ts i))
theorem IntsAt.keep {w w' : World} {g : Nat} {ts : List Int} (h : IntsAt w g ts) (hg : g < w.heap.size) (hb : Below w.heap.size w w') : IntsAt w' g ts := fun i hi => (hb.cell (p := ⟨g, i, none⟩) hg).trans (h i hi)
theorem mk_one (t : Int) : lowOk t 1 = inT t ∧ mkA t 1 = (if inT t then t else 0) ∧ mkB t 1 = (if inT t then 1 else 0) := by
  have h := mk_cop (n := t) (d := 1) (by omega) (by simp)
  have h1 : inT 1 = true := by decide
  simpa [h1] using h
theorem mk_one_yes {t : Int} (h : inT t = true) : lowOk t 1 = true ∧ mkA t 1 = t ∧ mkB t 1 = 1 := by have := mk_one t; simpa [h] using this
theorem mk_one_no {t : Int} (h : inT t = false) : lowOk t 1 = false ∧ mkA t 1 = 0 ∧ mkB t 1 = 0 := by have := mk_one t; simpa [h] using this
theorem mk_next {t x y : Int} (hx : 1 ≤ x) (hx2 : x ≤ 1000000000) (hg : Int.gcd x y = 1) : lowOk (addX t 1 y x) (mulX 1 x) = inT (t * x + y) ∧ mkA (addX t 1 y x) (mulX 1 x) = (if inT (t * x + y) then t * x + y else 0) ∧ mkB (addX t 1 y x) (mulX 1 x) = (if inT (t * x + y) then x else 0) := by
  have e1 : addX t 1 y x = t * x + y := by unfold addX; omega
  have e2 : mulX 1 x = x := by unfold mulX; omega
  rw [e1, e2]
  have h := mk_cop (n := t * x + y) (d := x) hx (by rw [Int.gcd_comm, Int.add_comm, Int.gcd_add_mul_right_right]; exact hg)
  have h1 : inT x = true := inT_of (by omega) hx2
  simpa [h1] using h
theorem drop_cons' {ts : List Int} {m : Nat} (h : m < ts.length) : ts.drop m = at0 ts m :: ts.drop (m + 1) := by
  rw [List.drop_eq_getElem_cons h]; simp [at0, h]
theorem cf_next {ts : List Int} {j : Nat} {t x y : Int} (hd : ts.drop j = t :: ts.drop (j + 1)) (hg : cfR (ts.drop (j + 1)) = some (x, y)) (ht : inT t = true) (h1 : 1 ≤ x) (h2 : x ≤ 1000000000) :
    cfK (ts.drop j) = inT (t * x + y) ∧ cfA (ts.drop j) = (if inT (t * x + y) then t * x + y else 0) ∧ cfB (ts.drop j) = (if inT (t * x + y) then x else 0) := by
  rw [hd]
  cases hk : inT (t * x + y)
  · obtain ⟨a, b, c⟩ := cf_none (cfR_cons_no2 hg hk)
    exact ⟨c, by rw [a]; rfl, by rw [b]; rfl⟩
  · obtain ⟨a, b, c⟩ := cf_some (cfR_cons_yes hg ht hk (inT_of (by omega) h2))
    exact ⟨c, by rw [a]; rfl, by rw [b]; rfl⟩
/-- What the loop of l03Ratio keeps. -/
def CfRel (w : World) (ts : List Int) (b : Nat) (ok i : Value) (wr : World) : Prop :=
  ∃ (m : Nat) (iv : Int), m < ts.length ∧ ok = .bool (cfK (ts.drop m)) ∧ i = .int .i64 iv ∧ iv = (m : Int) - 1 ∧ Box2 wr b (cfA (ts.drop m)) (cfB (ts.drop m)) ∧ Box2 wr w.heap.size 0 0 ∧ Below w.heap.size w wr
def CfRet (w : World) (ts : List Int) (e : Ending) (w' : World) : Prop := e = .returned (.tuple #[.agg #[.int .i64 (cfA ts), .int .i64 (cfB ts)], .bool (cfK ts)]) ∧ Below w.heap.size w w'

theorem cf_last {ts : List Int} {k : Nat} (h : ts.length = k + 1) : cfK (ts.drop k) = lowOk (at0 ts k) 1 ∧ cfA (ts.drop k) = mkA (at0 ts k) 1 ∧ cfB (ts.drop k) = mkB (at0 ts k) 1 := by
  have e : ts.drop k = [at0 ts k] := by
    rw [drop_cons' (by omega), List.drop_of_length_le (by omega)]
  rw [e]
  generalize at0 ts k = t
  have h1 : inT 1 = true := by decide
  cases ht : inT t
  · obtain ⟨a, b, c⟩ := cf_none (cfR_cons_no1 (ts := []) ht)
    obtain ⟨a', b', c'⟩ := mk_one_no ht
    exact ⟨c.trans a'.symm, a.trans b'.symm, b.trans c'.symm⟩
  · obtain ⟨a, b, c⟩ := cf_some (cfR_cons_yes (ts := []) (x := 1) (y := 0) rfl ht (by simpa using ht) h1)
    obtain ⟨a', b', c'⟩ := mk_one_yes ht
    exact ⟨c.trans a'.symm, by rw [a, b']; omega, b.trans c'.symm⟩
theorem cf_bad {ts : List Int} {m : Nat} (h : cfK (ts.drop m) = false) : cfA (ts.drop m) = 0 ∧ cfB (ts.drop m) = 0 ∧ cfA ts = 0 ∧ cfB ts = 0 ∧ cfK ts = false := by
  have h1 : cfR (ts.drop m) = none := by
    unfold cfK at h; cases hc : cfR (ts.drop m) with
    | none => rfl
    | some r => rw [hc] at h; cases h
  obtain ⟨a, b, _⟩ := cf_none h1
  obtain ⟨a', b', c'⟩ := cf_none (cfR_none m ts h1)
  exact ⟨a, b, a', b', c'⟩
theorem tail_pos {ts : List Int} {m : Nat} (hp : ∀ u ∈ ts.tail, 1 ≤ u) (hm : 1 ≤ m) : ∀ u ∈ ts.drop m, 1 ≤ u := by
  intro u hu
  apply hp
  obtain ⟨k, rfl⟩ : ∃ k, m = k + 1 := ⟨m - 1, by omega⟩
  cases ts with
  | nil => simp at hu
  | cons t ts => simp at hu ⊢; exact List.mem_of_mem_drop hu
theorem cf_good {ts : List Int} {m : Nat} (h : cfK (ts.drop m) = true) : cfR (ts.drop m) = some (cfA (ts.drop m), cfB (ts.drop m)) := by
  unfold cfK at h; unfold cfA cfB; cases hc : cfR (ts.drop m) with
    | none => rw [hc] at h; cases h
    | some r => rfl
set_option maxHeartbeats 4000000 in
theorem l03Ratio_any (ts : List Int) (g cap : Nat) (w : World) (hlen : 1 ≤ ts.length) (hmax : ts.length ≤ 1000000000000) (hg : g < w.heap.size) (hc : IntsAt w g ts) (hpos : ∀ u ∈ ts.tail, 1 ≤ u) (hbd : ∀ u ∈ ts, -9223372036854775808 ≤ u ∧ u ≤ 9223372036854775807) :
    Calls Try.prog 49 #[.slice (some ⟨g, 0, none⟩) ts.length cap] w (CfRet w ts) := by
  have HC := Lib.hid hc
  have HP := Lib.hid hpos
  have HB := Lib.hid hbd
  clear hc hpos hbd
  obtain ⟨k, hk⟩ : ∃ k : Nat, ts.length = k + 1 := ⟨ts.length - 1, by omega⟩
  have cell0 := HC.out k (by omega)
  obtain ⟨bd1, bd2⟩ := HB.out _ (at0_mem (ts := ts) (i := k) (by omega))
  have HK := Lib.hid hk
  have hkl : k < ts.length := by omega
  have H0 := Lib.hid (cf_last hk)
  go_enter Try.func49, Try.ntmps49
  rw [HK.out]
  clear hk
  go_wp2_with fail
  refine (l02Make_any _ _ _ (by omega) (by omega) (by omega) (by omega) (by omega)).mono ?_
  rintro e w1 ⟨rfl, hb1⟩
  have HB1 := Lib.hid (bT (bA (bR _) _) hb1)
  have R1 := Lib.hid ((Box2.new w 0 0 25).keep hb1)
  clear hb1
  go_wp2_with fail
  have RS : CfRel w ts w1.heap.size (.bool (lowOk (at0 ts k) 1)) (.int .i64 ((k : Int) + 1 - 2)) (w1.alloc (.cells #[.int .i64 (mkA (at0 ts k) 1), .int .i64 (mkB (at0 ts k) 1)] 25)) :=
    ⟨k, _, by omega, by rw [H0.out.1], rfl, by omega, by rw [H0.out.2.1, H0.out.2.2]; exact Box2.new _ _ _ _, R1.out.alloc _, bA HB1.out _⟩
  have hw1 : w.heap.size < w1.heap.size := R1.out.lt
  clear R1 HB1 cell0 bd1 bd2
  go_loopw [5, 6] (fun ok i wr => CfRel w ts w1.heap.size ok i wr) (fun _ i _ => ((intOf i) + 1).toNat)
  case atStart => exact RS
  case round =>
    obtain ⟨m, iv, hm, rfl, rfl, hiv, hbox, hres, hb⟩ := hrel
    have hbox' := hbox
    obtain ⟨c0, c1, f0, f1, l0⟩ := hbox
    obtain ⟨r0, r1, g0, g1, l1⟩ := hres
    have HBX := Lib.hid hbox'
    have HBL := Lib.hid hb
    clear hbox' hb
    cases hok : cfK (ts.drop m)
    · have HE := Lib.hid (cf_bad hok)
      have HW := Lib.hid (show CfRet w ts (.returned (.tuple #[.agg #[.int .i64 (cfA (ts.drop m)), .int .i64 (cfB (ts.drop m))], .bool false])) ((wr.setCell ⟨w.heap.size, 0, none⟩ (.int .i64 (cfA (ts.drop m)))).setCell ⟨w.heap.size, 1, none⟩ (.int .i64 (cfB (ts.drop m)))) from ⟨ret_rb (HE.out.1.trans HE.out.2.2.1.symm) (HE.out.2.1.trans HE.out.2.2.2.1.symm) HE.out.2.2.2.2.symm, (HBL.out.setCell (by simp) _).setCell (by simp) _⟩)
      by_cases hm0 : m = 0
      · subst hm0
        obtain rfl : iv = -1 := by omega
        clear hiv
        go_wp2_with fail
        refine bodyPost_ret (v := .tuple #[.agg #[.int .i64 (cfA (ts.drop 0)), .int .i64 (cfB (ts.drop 0))], .bool false]) ?_ rfl HW.out
        simp [results, Try.results49, go_sem, r0, r1]
      · have hm1 : 0 ≤ iv := by omega
        clear hiv
        go_wp2_with fail
        refine bodyPost_ret (v := .tuple #[.agg #[.int .i64 (cfA (ts.drop m)), .int .i64 (cfB (ts.drop m))], .bool false]) ?_ rfl HW.out
        simp [results, Try.results49, go_sem, r0, r1]
    · have HG := Lib.hid (cf_good hok)
      by_cases hm0 : m = 0
      · subst hm0
        obtain rfl : iv = -1 := by omega
        clear hiv
        have HW := Lib.hid (show CfRet w ts (.returned (.tuple #[.agg #[.int .i64 (cfA (ts.drop 0)), .int .i64 (cfB (ts.drop 0))], .bool true])) ((wr.setCell ⟨w.heap.size, 0, none⟩ (.int .i64 (cfA (ts.drop 0)))).setCell ⟨w.heap.size, 1, none⟩ (.int .i64 (cfB (ts.drop 0)))) from ⟨ret_rb rfl rfl hok.symm, (HBL.out.setCell (by simp) _).setCell (by simp) _⟩)
        go_wp2_with fail
        refine bodyPost_ret (v := .tuple #[.agg #[.int .i64 (cfA (ts.drop 0)), .int .i64 (cfB (ts.drop 0))], .bool true]) ?_ rfl HW.out
        simp [results, Try.results49, go_sem, r0, r1]
      · obtain ⟨j, rfl⟩ : ∃ j, m = j + 1 := ⟨m - 1, by omega⟩
        obtain rfl : iv = (j : Int) := by omega
        clear hiv
        obtain ⟨i1, i2, i3, i4, i5⟩ := cfR_inv _ _ _ (tail_pos HP.out (by omega)) HG.out
        have HI := Lib.hid i1
        clear i1 hm0
        have cellj : wr.cell? ⟨g, j, none⟩ = some (.int .i64 (at0 ts j)) := (HBL.out.cell (p := ⟨g, j, none⟩) hg).trans (HC.out j (by omega))
        obtain ⟨bd1, bd2⟩ := HB.out _ (at0_mem (ts := ts) (i := j) (by omega))
        have hjk : j < k + 1 := by have := HK.out; omega
        have HD := Lib.hid (drop_cons' (ts := ts) (m := j) (by omega))
        have hxz : (cfA (ts.drop (j + 1)) == 0) = false := by rw [beq_eq_false_iff_ne]; omega
        generalize at0 ts j = t at *
        generalize cfA (ts.drop (j + 1)) = x at *
        generalize cfB (ts.drop (j + 1)) = y at *
        go_wp2_with fail
        refine (l02Make_any _ _ _ (by omega) (by omega) (by omega) (by omega) (by omega)).mono ?_
        rintro e w2 ⟨rfl, hb2⟩
        have HB2 := Lib.hid hb2
        obtain ⟨c0', c1', f0', f1', l0'⟩ := HBX.out.keep hb2
        obtain ⟨r0', r1', g0', g1', l1'⟩ := (show Box2 wr w.heap.size 0 0 from ⟨r0, r1, g0, g1, l1⟩).keep hb2
        clear hb2
        cases ht : inT t
        · have HN := Lib.hid (cf_none (cfR_none j ts (by rw [HD.out]; exact cfR_cons_no1 ht)))
          obtain ⟨e1, e2, e3⟩ := mk_one_no ht
          rw [e1, e2, e3]
          clear e1 e2 e3
          go_wp2_with fail
          refine bodyPost_ret (v := .tuple #[.agg #[.int .i64 0, .int .i64 0], .bool false]) ?_ rfl ⟨ret_rb HN.out.1.symm HN.out.2.1.symm HN.out.2.2.symm, bA (((bT HBL.out HB2.out).setCell (by simp) _).setCell (by simp) _) _⟩
          simp [results, Try.results49, go_sem, r0', r1', l1']
        · obtain ⟨e1, e2, e3⟩ := mk_one_yes ht
          rw [e1, e2, e3]
          clear e1 e2 e3
          have hti := inT_iff.1 ht
          go_wp2_with fail
          refine (l02Add_any _ _ _ _ _ (by omega) (by omega) (by omega) (by omega) (by omega) (by omega) (by omega) (by omega)).mono ?_
          rintro e w3 ⟨rfl, hb3⟩
          obtain ⟨n1, n2, n3⟩ := mk_next (t := t) (y := y) i2 i4 HI.out
          rw [n1, n2, n3]
          clear n1 n2 n3
          have HX := Lib.hid (cf_next HD.out HG.out ht i2 i4)
          have HB3 := Lib.hid (bT (bA (bA (bT HBL.out HB2.out) _) _) hb3)
          have HB4 := Lib.hid ((((HBX.out.keep HB2.out).alloc _).alloc _).keep hb3)
          have HR4 := Lib.hid (((((show Box2 wr w.heap.size 0 0 from ⟨r0, r1, g0, g1, l1⟩).keep HB2.out).alloc _).alloc _).keep hb3)
          obtain ⟨c0', c1', f0', f1', l0'⟩ := HB4.out
          clear hb3
          go_wp2_with fail
          go_roundw
          case rel => exact ⟨j, _, by omega, by rw [HX.out.1], rfl, by omega, by rw [HX.out.2.1, HX.out.2.2]; exact HB4.out.set _ _, (HR4.out.other (by omega)).other (by omega), (HB3.out.setCell (by simp; omega) _).setCell (by simp; omega) _⟩
          case measure => simp [intOf]
end Go.Proofs.Ythnfkkfonabhkaa

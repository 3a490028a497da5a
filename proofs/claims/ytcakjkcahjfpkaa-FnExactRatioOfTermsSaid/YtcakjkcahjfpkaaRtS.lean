/-
  The contract of spec.RatioOfTerms.
-/
import Derived.Test.YtcakjkcahjfpkaaTo64
import Derived.Test.YtcakjkcahjfpkaaMkC
namespace Go.Proofs.Ytcakjkcahjfpkaa
open Go.RowKit

/-- All terms behind the first one are positive, and there is one. -/
def rtOk (ts : List Int) : Bool := decide (1 ≤ ts.length) && ts.tail.all fun u => decide (1 ≤ u)
def rtA (ts : List Int) : Int := if rtOk ts then cfA ts else 0
def rtB (ts : List Int) : Int := if rtOk ts then cfB ts else 0
def rtC (ts : List Int) : Int := if rtOk ts then (if cfK ts then 0 else 2) else 1
theorem rt_no {ts : List Int} (h : rtOk ts = false) : rtA ts = 0 ∧ rtB ts = 0 ∧ rtC ts = 1 := by simp [rtA, rtB, rtC, h]
theorem rt_yes {ts : List Int} (h : rtOk ts = true) : rtA ts = cfA ts ∧ rtB ts = cfB ts ∧ rtC ts = (if cfK ts then 0 else 2) := by simp [rtA, rtB, rtC, h]
theorem rt_code (ts : List Int) : (if cfK ts then cfA ts else 0) = cfA ts ∧ (if cfK ts then cfB ts else 0) = cfB ts := by
  unfold cfK cfA cfB; cases cfR ts <;> simp
theorem at0_tail {ts : List Int} {j : Nat} (h : j + 1 < ts.length) : at0 ts (j + 1) ∈ ts.tail := by
  cases ts with
  | nil => simp at h
  | cons t ts => simp at h; unfold at0; rw [List.getElem?_cons_succ, List.getElem?_eq_getElem h]; simp
theorem rtOk_bad {ts : List Int} {j : Nat} (h1 : 1 ≤ j) (h : j < ts.length) (hb : at0 ts j < 1) : rtOk ts = false := by
  obtain ⟨k, rfl⟩ : ∃ k, j = k + 1 := ⟨j - 1, by omega⟩
  have hm := at0_tail h
  cases hr : rtOk ts
  · rfl
  · unfold rtOk at hr
    rw [Bool.and_eq_true] at hr
    have := List.all_eq_true.1 hr.2 _ hm
    simp at this
    omega
theorem rtOk_good {ts : List Int} (h0 : 1 ≤ ts.length) (h : ∀ j, 1 ≤ j → j < ts.length → 1 ≤ at0 ts j) : rtOk ts = true := by
  unfold rtOk
  rw [Bool.and_eq_true]
  refine ⟨by simpa using h0, List.all_eq_true.2 fun u hu => ?_⟩
  cases ts with
  | nil => simp at hu
  | cons t ts =>
    obtain ⟨i, hi, rfl⟩ := List.getElem_of_mem (show u ∈ ts from hu)
    have := h (i + 1) (by omega) (by simp; omega)
    unfold at0 at this
    rw [List.getElem?_cons_succ, List.getElem?_eq_getElem hi] at this
    simpa using this
theorem rtOk_pos {ts : List Int} (h : rtOk ts = true) : 1 ≤ ts.length ∧ ∀ u ∈ ts.tail, 1 ≤ u := by
  unfold rtOk at h
  rw [Bool.and_eq_true] at h
  exact ⟨by simpa using h.1, fun u hu => by simpa using List.all_eq_true.1 h.2 u hu⟩
def RtRet (w : World) (ts : List Int) (e : Ending) (w' : World) : Prop := e = .returned (.tuple #[.agg #[.int .i64 (rtA ts), .int .i64 (rtB ts)], .int .i64 (rtC ts)]) ∧ Below w.heap.size w w'
set_option maxHeartbeats 2000000 in
theorem RatioOfTermsS_any (ts : List Int) (g cap : Nat) (w : World) (hg : g < w.heap.size) (hc : IntsAt w g ts) (hlen : ts.length ≤ 1048576) (hbd : ∀ u ∈ ts, -9223372036854775808 ≤ u ∧ u ≤ 9223372036854775807) :
    Calls Try.prog 38 #[.slice (some ⟨g, 0, none⟩) ts.length cap] w (RtRet w ts) := by
  have HC := Lib.hid hc
  have HBD := Lib.hid hbd
  have B0 := Lib.hid (Box2.new w 0 0 25)
  have L0 := Lib.hid (bA (bR w) (.cells #[.int .i64 0, .int .i64 0] 25))
  have HC0 := Lib.hid (hc.keep hg (bA (bR w) (.cells #[.int .i64 0, .int .i64 0] 25)))
  clear hc hbd
  by_cases h0 : ts.length = 0
  · have H := Lib.hid (rt_no (ts := ts) (by simp [rtOk, h0]))
    rw [h0]
    clear h0 hlen
    go_enter Try.func38, Try.ntmps38
    go_wp2_with fail
    refine bodyPost_ret (v := .tuple #[.agg #[.int .i64 0, .int .i64 0], .int .i64 1]) ?_ rfl ⟨ret_rc H.out.1.symm H.out.2.1.symm H.out.2.2.symm, ?_⟩
    · simp [results, Try.results38, go_sem]
    · exact bA (bR _) _
  · have h1 : 1 ≤ ts.length := by omega
    have hne : ((ts.length : Int) == 0) = false := by rw [beq_eq_false_iff_ne]; omega
    go_enter Try.func38, Try.ntmps38
    go_wp2_with fail
    generalize w.alloc (.cells #[.int .i64 0, .int .i64 0] 25) = W0 at *
    obtain ⟨r0, r1, r2, r3, r4⟩ := B0.out
    go_loop [4] (fun i => ∃ k : Nat, 1 ≤ k ∧ k ≤ ts.length ∧ i = .int .i64 k ∧ ∀ j, 1 ≤ j → j < k → 1 ≤ at0 ts j) (fun i => ts.length - (intOf i).toNat)
    case atStart => exact ⟨1, by omega, h1, rfl, fun j h1 h2 => by omega⟩
    case round =>
      obtain ⟨k, k1, k2, rfl, hall⟩ := hrel
      have HALL := Lib.hid hall
      clear hall
      by_cases hlt : k < ts.length
      · have c0 := HC0.out k hlt
        by_cases hb : at0 ts k < 1
        · have H := Lib.hid (rt_no (rtOk_bad k1 hlt hb))
          go_wp2_with fail
          refine bodyPost_ret (v := .tuple #[.agg #[.int .i64 0, .int .i64 0], .int .i64 1]) ?_ rfl ⟨ret_rc H.out.1.symm H.out.2.1.symm H.out.2.2.symm, ?_⟩
          · simp [results, Try.results38, go_sem, r0, r1]
          · exact (L0.out.setCell (by simp) _).setCell (by simp) _
        · go_wp2_with fail
          go_round
          case rel => exact ⟨k + 1, by omega, by omega, by go_num, fun j j1 j2 => by rcases Nat.lt_succ_iff_lt_or_eq.1 j2 with h | h; exact HALL.out j j1 h; rw [h]; omega⟩
          case measure => simp [intOf]; omega
      · have hok := rtOk_good h1 (fun j j1 j2 => HALL.out j j1 (by omega))
        have H := Lib.hid (rt_yes hok)
        have HP := Lib.hid (rtOk_pos hok).2
        clear hok
        go_wp2_with fail
        refine (l03Ratio_any ts g cap W0 h1 (by omega) (Nat.lt_of_lt_of_le hg L0.out.size) HC0.out HP.out HBD.out).mono ?_
        rintro e w1 ⟨rfl, hb1⟩
        have B1 := Lib.hid (B0.out.keep hb1)
        have L1 := Lib.hid (bT L0.out hb1)
        clear hb1
        go_wp2_with fail
        refine (l02Code_any _ _ _ _).mono ?_
        rintro e w2 ⟨rfl, hb2⟩
        obtain ⟨e1, e2⟩ := rt_code ts
        rw [e1, e2, ← H.out.1, ← H.out.2.1, ← H.out.2.2]
        clear e1 e2 r0 r1 r2 r3 r4
        obtain ⟨r0, r1, r2, r3, r4⟩ := B1.out.keep hb2
        have L2 := Lib.hid (bT L1.out hb2)
        clear hb2
        generalize hA : rtA ts = xa
        generalize hB : rtB ts = xb
        generalize hCC : rtC ts = xc
        have HA := Lib.hid hA
        have HB := Lib.hid hB
        have HCC := Lib.hid hCC
        clear hA hB hCC
        go_wp2_with fail
        refine bodyPost_ret (v := .tuple #[.agg #[.int .i64 xa, .int .i64 xb], .int .i64 xc]) ?_ rfl ⟨ret_rc HA.out.symm HB.out.symm HCC.out.symm, ?_⟩
        · simp [results, Try.results38, go_sem, r0, r1]
        · exact (L2.out.setCell (by simp) _).setCell (by simp) _
end Go.Proofs.Ytcakjkcahjfpkaa

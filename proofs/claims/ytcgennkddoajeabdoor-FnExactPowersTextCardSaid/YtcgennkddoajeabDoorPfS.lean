/-
  The contracts of spec.l04Ask, l04Primes, PrimesOf.
-/
import Derived.Test.YtcgennkddoajeabDoorPf
import Derived.Test.YtcgennkddoajeabDoorEq64
namespace Go.Proofs.YtcgennkddoajeabDoor
open Go.RowKit

theorem intC_append (a b : List Int) : intC (a ++ b) = intC a ++ intC b := by simp [intC]
theorem intC_one (x : Int) : intC [x] = [.int .i64 x] := rfl
theorem intC_length (a : List Int) : (intC a).length = a.length := by simp [intC]
theorem l04Ask_any (n : Int) (w : World) :
    Calls Tryd.prog 6 #[.int .i64 n] w fun e w' => e = .returned (.bool (inB n 1 1000000000)) ∧ w = w' := by
  go_enter Tryd.func6, Tryd.ntmps6
  go_wp2_with fail
  refine (l00In_any _ _ _ _).mono ?_
  rintro e w1 ⟨rfl, rfl⟩
  go_wp2_with fail
  go_ret
  exact ⟨rfl, rfl⟩
/-- A list of numbers in a row of the call's own. -/
def IntsPost (w : World) (l : List Int) (e : Ending) (w' : World) : Prop := ∃ v, e = .returned v ∧ w'.ownsRow w.heap.size 2 1 v l.length (intC l) ∧ Below w.heap.size w w'
theorem rowI_new (w : World) (t : TypeId) : (w.alloc (.cells #[] t)).ownsRow w.heap.size t 1 (.slice (some ⟨w.heap.size, 0, none⟩) 0 0) 0 [] :=
  ⟨rfl, .inr ⟨w.heap.size, 0, #[], rfl, Nat.le_refl _, (MapKept.heap_alloc w _).1, Nat.le_refl _, Nat.zero_le _, rfl, rfl⟩⟩
theorem belI_grown {a b c : World} {row : Option Nat} (h : Below a.heap.size a b) (g : b.grownBy c row) (hr : ∀ r, row = some r → a.heap.size ≤ r) : Below a.heap.size a c :=
  ⟨g.os.trans h.os, g.tape.trans h.tape, g.output.trans h.output, Nat.le_trans h.size g.size, fun k hk => (g.block k (Nat.lt_of_lt_of_le hk h.size) (fun e => by have := hr k e.symm; omega)).trans (h.block k hk)⟩
theorem ownI_blk {W : World} {B : Nat} {t : TypeId} {sz n : Nat} {v : Value} {xs : List Value} (h : W.ownsRow B t sz v n xs) : ∀ r, v.ownBlock = some r → B ≤ r := by
  intro r e
  rcases h.2 with ⟨rfl, _⟩ | ⟨g, cap, cur, rfl, hB, hh, _⟩
  · cases e
  · cases e; exact hB
def PsRel (w : World) (N : Int) (n out p : Value) (wr : World) : Prop :=
  ∃ (m q : Int) (pre : List Int), n = .int .i64 m ∧ p = .int .i64 q ∧ 2 ≤ q ∧ q ≤ 31623 ∧ 1 ≤ m ∧ (pre.length : Int) + m ≤ N ∧ wr.ownsRow w.heap.size 2 1 out pre.length (intC pre) ∧ pre ++ exL (pfL m q) = primesL N ∧ Below w.heap.size w wr
def PiRel (w : World) (N q : Int) (n out : Value) (wr : World) : Prop :=
  ∃ (m : Int) (pre : List Int), n = .int .i64 m ∧ 1 ≤ m ∧ (pre.length : Int) + m ≤ N ∧ wr.ownsRow w.heap.size 2 1 out pre.length (intC pre) ∧ pre ++ inn m q = primesL N ∧ Below w.heap.size w wr
set_option maxRecDepth 100000 in
set_option maxHeartbeats 4000000 in
theorem l04Primes_any (N : Int) (w : World) (h1 : 1 ≤ N) (h2 : N ≤ 1000000000) :
    Calls Tryd.prog 7 #[.int .i64 N] w (IntsPost w (primesL N)) := by
  obtain ⟨i0, hi, hz0, hz1, hz2⟩ := info_parts infoI64
  have RS := Lib.hid (show PsRel w N (.int .i64 N) (.slice (some ⟨w.heap.size, 0, none⟩) 0 0) (.int .i64 2) (w.alloc (.cells #[] 2)) from
    ⟨N, 2, [], rfl, rfl, by omega, by omega, h1, by simp, by simpa [intC] using rowI_new w 2, rfl, bA (bR _) _⟩)
  go_enter Tryd.func7, Tryd.ntmps7
  go_wp2_with fail
  go_loopw [0, 3, 4] (fun n out p wr => PsRel w N n out p wr) (fun _ _ p _ => (32000 - intOf p).toNat)
  case atStart => exact RS.out
  case round =>
    obtain ⟨m, q, pre, rfl, rfl, q1, q2, m1, hlen, hown, hpre, hbw⟩ := hrel
    have HO := Lib.hid hown
    have HP := Lib.hid hpre
    have HB := Lib.hid hbw
    obtain ⟨s1, s2⟩ := sq_nn (p := q) (by omega) (by omega)
    clear hown hpre hbw
    by_cases hle : q * q ≤ m
    · have hq := sq_bd (p := q) (by omega) hle (by omega)
      have RI := Lib.hid (show PiRel w N q (.int .i64 m) _ wr from ⟨m, pre, rfl, m1, hlen, HO.out, by rw [← inn_start q1 hle]; exact HP.out, HB.out⟩)
      clear HO HP HB
      go_wp2_with fail
      go_loopw [0, 3] (fun n out wr => PiRel w N q n out wr) (fun n _ _ => (intOf n).toNat)
      case atStart => exact RI.out
      case round =>
        obtain ⟨m', pre', rfl, m1', hlen', hown, hpre, hbw⟩ := hrel
        have HO := Lib.hid hown
        have HP := Lib.hid hpre
        have HB := Lib.hid hbw
        have HOB := Lib.hid (ownI_blk hown)
        have hsz := hbw.size
        have hq0 : ¬ q = 0 := by omega
        have hqp : 0 < q := by omega
        clear hown hpre hbw RI
        by_cases hmod : m' % q = 0
        · have d1 := div_less (n := m') q1 m1'
          have d2 := div_one_le q1 m1' hmod
          have HI := Lib.hid (inn_step q1 m1' hmod)
          have b1 : (m' % q == 0) = true := by simpa using hmod
          clear hmod
          go_wp2_with (at_builtin; refine wpList_append_own _ rfl _ _ 24 rfl w.heap.size 2 i0 (.int .i64 0) 1 8 Tryd.underlying24 hi hz0 hz1 hz2 rfl (by decide) _ pre'.length (intC pre') rfl (HO.out.alloc _) ⟨_, 0, none⟩ 1 1 [.int .i64 q] rfl rfl (row_src _ _ _) ?c3 ?c4 ?c5 ?c6 ?_)
          case c3 => intro u hu; simp at hu; subst hu; rfl
          case c4 => unfold maxLen; omega
          case c5 => omega
          case c6 => simp; omega
          intro v' w1 hown1 hg1 _
          have RN := Lib.hid (show PiRel w N q (.int .i64 (m' / q)) v' w1 from ⟨m' / q, pre' ++ [q], rfl, d2, by simp; omega, by rw [intC_append, intC_one]; simpa using hown1, by rw [List.append_assoc]; show pre' ++ (q :: inn (m' / q) q) = _; rw [← HI.out]; exact HP.out, belI_grown (bA HB.out _) hg1 HOB.out⟩)
          clear hown1 hg1
          go_wp2_with fail
          go_roundw
          case rel => exact RN.out
          case measure => simp [intOf]; omega
        · have HI := Lib.hid (inn_end hmod)
          have b1 : (m' % q == 0) = false := by simpa using hmod
          have RN := Lib.hid (show PsRel w N (.int .i64 m') _ (.int .i64 (q + 1)) wr from ⟨m', q + 1, pre', rfl, rfl, by omega, by omega, m1', hlen', HO.out, by rw [← HI.out]; exact HP.out, HB.out⟩)
          clear hmod
          go_wp2_with fail
          go_roundw
          case rel => exact RN.out
          case measure => simp [intOf]; omega
    · have HE := Lib.hid (pf_end hle)
      have HOB := Lib.hid (ownI_blk HO.out)
      have hsz := HB.out.size
      by_cases hm : 1 < m
      · have HL := Lib.hid (show pre ++ [m] = primesL N by have h3 := HP.out; rw [HE.out, if_pos hm] at h3; simpa [exL] using h3)
        go_wp2_with (at_builtin; refine wpList_append_own _ rfl _ _ 24 rfl w.heap.size 2 i0 (.int .i64 0) 1 8 Tryd.underlying24 hi hz0 hz1 hz2 rfl (by decide) _ pre.length (intC pre) rfl (HO.out.alloc _) ⟨_, 0, none⟩ 1 1 [.int .i64 m] rfl rfl (row_src _ _ _) ?e3 ?e4 ?e5 ?e6 ?_)
        case e3 => rfl
        case e4 => unfold maxLen; omega
        case e5 => omega
        case e6 => omega
        intro v' w1 hown1 hg1 _
        have RO := Lib.hid (show w1.ownsRow w.heap.size 2 1 v' (primesL N).length (intC (primesL N)) by rw [← HL.out, intC_append, intC_one]; simpa using hown1)
        have RB := Lib.hid (belI_grown (bA HB.out _) hg1 HOB.out)
        clear hown1 hg1
        go_wp2_with fail
        go_ret
        exact ⟨_, rfl, RO.out, RB.out⟩
      · have HL := Lib.hid (show pre = primesL N by have h3 := HP.out; rw [HE.out, if_neg hm] at h3; simpa [exL] using h3)
        go_wp2_with fail
        go_ret
        exact ⟨_, rfl, by rw [← HL.out]; exact HO.out, HB.out⟩
/-- What PrimesOf returns. -/
def prL (n : Int) : List Int := if inB n 1 1000000000 then primesL n else []
def prC (n : Int) : Int := if inB n 1 1000000000 then 0 else 2
theorem pr_no {n : Int} (h : inB n 1 1000000000 = false) : prL n = [] ∧ prC n = 2 := by simp [prL, prC, h]
theorem pr_yes {n : Int} (h : inB n 1 1000000000 = true) : prL n = primesL n ∧ prC n = 0 := by simp [prL, prC, h]
/-- A list of numbers in a row of the call's own, and a code. -/
def IntsC (w : World) (l : List Int) (c : Int) (e : Ending) (w' : World) : Prop := ∃ v, e = .returned (.tuple #[v, .int .i64 c]) ∧ w'.ownsRow w.heap.size 2 1 v l.length (intC l) ∧ Below w.heap.size w w'
end Go.Proofs.YtcgennkddoajeabDoor

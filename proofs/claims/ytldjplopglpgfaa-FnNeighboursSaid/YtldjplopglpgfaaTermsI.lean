/-
  The iterator over the terms of a ratio: impl.Ratio.terms and its function literal.
-/
import Derived.Test.YtldjplopglpgfaaRf
import Derived.Test.YtldjplopglpgfaaFloor
import Derived.Test.YtldjplopglpgfaaBox
import Derived.Test.YtldjplopglpgfaaWhole
import Derived.Shelf.Abstract
import Derived.Shelf.RegionOpen
import Derived.WalkKit
import Derived.OwnWalkIn
import Derived.TacticsInMore
import Derived.LoopNIn
import Derived.LoopIn
namespace Go.Proofs.Ytldjplopglpgfaa
open Go.RowKit Go.Shelf
attribute [local go_sem] Oper.semAt_some

theorem wdep (k : Nat) : Fence.wide.depth.isSome = true → 1 ≤ k := fun h => by cases h
theorem roundAny {m k : Nat} {P : Program} {l : Nat} {f : FuncId} {tmps : Array Value} {assign body : Code} {w : World} {R : Ending → World → Prop} (h : RoundIn Fence.wide m P l f tmps assign body w R) : RoundIn Fence.wide k P l f tmps assign body w R :=
  ⟨h.1, fun c cs _ => h.2 c cs (fun d hd => by cases hd)⟩
def blockOf : Value → Nat
  | .pointer (some a) => a.block
  | _ => 0
def cellN (w : World) (b o : Nat) : Int := match w.cell? ⟨b, o, none⟩ with | some (.int _ n) => n | _ => 0
theorem Box2.denN {w : World} {b : Nat} {x y : Int} (h : Box2 w b x y) : cellN w b 1 = y := by unfold cellN; rw [h.c1]
theorem Box2.of_block {w w' : World} {b : Nat} {x y : Int} (h : Box2 w b x y) (hs : w.heap.size ≤ w'.heap.size) (hb : w'.heap[b]? = w.heap[b]?) : Box2 w' b x y :=
  ⟨(World.cell?_of_block hb).trans h.c0, (World.cell?_of_block hb).trans h.c1, (World.frozen?_of_block hb).trans h.f0, (World.frozen?_of_block hb).trans h.f1, Nat.lt_of_lt_of_le h.lt hs⟩
/-- One step of the terms. -/
theorem terms_go {x y : Int} (h : okR x y = true) (h0 : x - x / y * y ≠ 0) : terms x y = x / y :: terms y (x - x / y * y) ∧ okR y (x - x / y * y) = true ∧ x - x / y * y < y ∧ 0 ≤ x - x / y * y := by
  obtain ⟨a1, a2, a3, a4, a5⟩ := okR_true.1 h
  have e : x - x / y * y = x % y := by have := Int.emod_add_mul_ediv x y; grind
  have m1 := Int.emod_nonneg x (show y ≠ 0 by omega)
  have m2 := Int.emod_lt_of_pos x (show 0 < y by omega)
  rw [e] at h0 ⊢
  exact ⟨terms_pos a1, okR_true.2 ⟨by omega, by omega, by omega, by omega, by rw [gcd_mod]; exact a5⟩, m2, m1⟩
theorem terms_end {x y : Int} (h : okR x y = true) (h0 : x - x / y * y = 0) : terms x y = [x / y] := by
  obtain ⟨a1, a2, a3, a4, a5⟩ := okR_true.1 h
  have e : x - x / y * y = x % y := by have := Int.emod_add_mul_ediv x y; grind
  rw [terms_pos a1, ← e, h0, terms_zero (by omega)]
def TermRel (n d : Int) (J : List Int → (Nat → Prop) → World → Prop) (p : Value) (wr : World) : Prop :=
  ∃ (pre : List Int) (x y : Int) (r : Nat) (T : Nat → Prop), p = .pointer (some ⟨r, 0, none⟩) ∧ Box2 wr r x y ∧ T r ∧ J pre T wr ∧ (∀ k, T k → k < wr.heap.size) ∧ okR x y = true ∧ terms n d = pre ++ terms x y

set_option maxHeartbeats 4000000 in
theorem termsP (n d : Int) (b : Nat) (w : World) (hok : okR n d = true) (hb : b < w.heap.size) (c0 : w.cell? ⟨b, 0, none⟩ = some (.int .i64 n)) (c1 : w.cell? ⟨b, 1, none⟩ = some (.int .i64 d)) :
    SeqP Fence.wide Try.prog 37 #[.pointer (some ⟨b, 0, none⟩)] (fun x : Int => #[.int .i64 x]) none1 (fun xs => xs = terms n d) (fun pre => pre <+: terms n d) (terms n d).length w := by
  intro nn m l J Jx W hW hJ hJx hY hJ0
  have e0 : W.cell? ⟨b, 0, none⟩ = some (.int .i64 n) := (hW.cell (p := ⟨b, 0, none⟩) hb).trans c0
  have e1 : W.cell? ⟨b, 1, none⟩ = some (.int .i64 d) := (hW.cell (p := ⟨b, 1, none⟩) hb).trans c1
  have HY := Lib.hid hY
  have RS := Lib.hid (show TermRel n d J (.pointer (some ⟨W.heap.size, 0, none⟩)) (W.alloc (.cells #[.int .i64 n, .int .i64 d] 25)) from
    ⟨[], n, d, W.heap.size, fun k => k = W.heap.size, rfl, Box2.new _ _ _ _, rfl, hJ _ _ _ _ _ hJ0 ((Mov.refl _ _).alloc _) (fun k hk => by subst hk; simp), fun k hk => by subst hk; simp, hok, rfl⟩)
  clear hY hJ0 c0 c1
  refine callsIn_of_wp Try.func37 rfl trivial ?_ rfl
  simp only [Try.ntmps37, List.size_toArray, List.length_cons, List.length_nil, Nat.reduceAdd, Nat.reduceSub, Array.replicate_succ, Array.replicate_zero, List.push_toArray, List.append_toArray, List.nil_append, List.cons_append]
  gi_wp2
  gi_loopw [3] (fun p wr => TermRel n d J p wr) (fun p wr => (cellN wr (blockOf p) 1).toNat)
  case atStart => exact RS.out
  case round =>
    obtain ⟨pre, x, y, r, T, rfl, hbox, hTr, hj, hTl, hxy, hts⟩ := hrel
    obtain ⟨a1, a2, a3, a4⟩ := okR_bd hxy
    obtain ⟨q1, q2⟩ := div_lim a1 a3 a4
    obtain ⟨m1, m2⟩ := mul_bd q1 q2 (show -1000000000 ≤ y by omega) a2
    have HX := Lib.hid hbox
    have HXY := Lib.hid hxy
    have F1 := Lib.hid (flo_yes hxy)
    have HTS := Lib.hid hts
    have HTL := Lib.hid hTl
    have hlen : pre.length < (terms n d).length := by rw [hts, terms_pos a1]; simp
    have HLEN := Lib.hid hlen
    have HPX := Lib.hid (show pre ++ [x / y] <+: terms n d from ⟨terms y (x % y), by rw [hts, terms_pos a1]; simp⟩)
    obtain ⟨x0, x1, x2, x3, x4⟩ := hbox
    clear hxy hts hTl hlen
    gi_wp2_with fail
    refine ⟨trivial, wdep _, ?_⟩
    refine (callsIn_wide.2 (FloorRatioI_any _ _ _)).mono ?_
    rintro e w1 ⟨rfl, hb1⟩
    rw [← F1.out]
    have hj1 := hJ _ _ _ _ _ hj (Mov.of_below hb1) (fun k hk => ⟨.inl hk, Nat.lt_of_lt_of_le (HTL.out k hk) hb1.size⟩)
    have HX1 := Lib.hid (HX.out.keep hb1)
    obtain ⟨fn, tmps, assign, body, hy, hR⟩ := HY.out pre (x / y) T w1 HPX.out hj1 (fun k hk => Nat.lt_of_lt_of_le (HTL.out k hk) hb1.size) HLEN.out
    have HR := Lib.hid hR
    clear hR x0 x1 x2 x3 x4 hb1
    obtain ⟨x0, x1, x2, x3, x4⟩ := HX1.out
    by_cases hz : x - x / y * y = 0
    · have HZ := Lib.hid (terms_end HXY.out hz)
      have hz1 : (x - x / y * y == 0) = true := by simpa using hz
      clear hz
      gi_wp2_with fail
      refine ⟨wdep _, (roundAny HR.out).mono ?_⟩
      rintro e W2 (⟨rfl, hj2, hk2⟩ | ⟨rfl, hjx, _⟩)
      · gi_wp2_with fail
        refine bodyPost_ret (results_none rfl _ _ _) rfl ?_
        exact ⟨⟨_, rfl⟩, .inl ⟨_, _, by rw [HTS.out, HZ.out], hj2⟩⟩
      · gi_wp2_with fail
        refine bodyPost_ret (results_none rfl _ _ _) rfl ?_
        exact ⟨⟨_, rfl⟩, .inr ⟨_, _, by rw [HTS.out, HZ.out]; exact List.prefix_refl _, hjx⟩⟩
    · obtain ⟨t1, t2, t3, t4⟩ := terms_go HXY.out hz
      have HZ := Lib.hid t1
      have HT2 := Lib.hid t2
      have hz1 : (x - x / y * y == 0) = false := by simpa using hz
      clear hz t1 t2
      gi_wp2_with fail
      refine ⟨wdep _, (roundAny HR.out).mono ?_⟩
      rintro e W2 (⟨rfl, hj2, hk2⟩ | ⟨rfl, hjx, _⟩)
      · have HX2 := Lib.hid (HX1.out.of_block hk2.size (hk2.mine r hTr))
        have HK2 := Lib.hid hk2
        clear hk2 x0 x1 x2 x3 x4
        obtain ⟨x0, x1, x2, x3, x4⟩ := HX2.out
        gi_wp2_with fail
        have es : ((W2.setCell ⟨r, 0, none⟩ (.int .i64 y)).setCell ⟨r, 1, none⟩ (.int .i64 (x - x / y * y))).heap.size = W2.heap.size := by simp [World.setCell]
        have nb := Box2.new ((W2.setCell ⟨r, 0, none⟩ (.int .i64 y)).setCell ⟨r, 1, none⟩ (.int .i64 (x - x / y * y))) y (x - x / y * y) 25
        rw [es] at nb
        refine ⟨⟨pre ++ [x / y], y, x - x / y * y, W2.heap.size, fun k => k = W2.heap.size, rfl, nb, rfl, hJ _ T _ W2 _ hj2 ((((Mov.refl T W2).setCell (.inl hTr) _).setCell (.inl hTr) _).alloc _) (fun k hk => by subst hk; exact ⟨.inr (Nat.le_refl _), by simp [es]⟩), fun k hk => by subst hk; simp [es], HT2.out, by rw [HTS.out, HZ.out]; simp⟩, ?_⟩
        show (cellN _ W2.heap.size 1).toNat < (cellN wr r 1).toNat
        rw [nb.denN, HX.out.denN]; omega
      · gi_wp2_with fail
        refine bodyPost_ret (results_none rfl _ _ _) rfl ?_
        exact ⟨⟨_, rfl⟩, .inr ⟨_, _, by rw [HTS.out, HZ.out]; exact ⟨terms y (x - x / y * y), by simp⟩, hjx⟩⟩

theorem terms_any (n d : Int) (w : World) :
    Calls Try.prog 20 #[.agg #[.int .i64 n, .int .i64 d]] w fun e w' => e = .returned (.func (.func 37) #[] #[.pointer (some ⟨w.heap.size, 0, none⟩)]) ∧ w.alloc (.cells #[.int .i64 n, .int .i64 d] 25) = w' := by
  go_enter Try.func20, Try.ntmps20
  go_wp2_with fail
  go_ret
  exact ⟨rfl, rfl⟩
end Go.Proofs.Ytldjplopglpgfaa

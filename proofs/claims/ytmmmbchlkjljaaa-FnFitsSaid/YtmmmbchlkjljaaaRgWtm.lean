/-
  The draw of readings: spec.l14Draw.
  Drawn readings for the laws; laws.f6same.
  Sums of parts, moved readings: the plain words; the walk of laws.FnFits.
  The walk of laws.FnFits.
-/
import Derived.Test.YtmmmbchlkjljaaaDrawT
import Derived.Test.YtmmmbchlkjljaaaAd
import Derived.Test.YtmmmbchlkjljaaaRgR
import Derived.Test.YtmmmbchlkjljaaaRoll
import Derived.Test.YtmmmbchlkjljaaaEq64
import Derived.Test.YtmmmbchlkjljaaaRgC
import Derived.Test.YtmmmbchlkjljaaaRgA
import Derived.Test.YtmmmbchlkjljaaaRgT
import Derived.Deep.AppendLies
import Derived.Deep.RegionLaw
namespace Go.Proofs.Ytmmmbchlkjljaaa
open Go.RowKit

/-- A source and a row of readings of one's own. -/
def RdS (w : World) (p : Nat) (a : Option Addr) (len cap c : Nat) (ps : List (Int × Int)) (vo : Value) (W : World) : Prop :=
  DS w p a len cap c W ∧ W.ownsRow w.heap.size 53 2 vo ps.length (pairC ps)
theorem RdS.step {w : World} {p : Nat} {a : Option Addr} {len cap c d : Nat} {ps : List (Int × Int)} {vo : Value} {W x : World} (h : RdS w p a len cap c ps vo W) (s : SrcAt x p a len cap d) (g : W.grownBy x (some p)) : RdS w p a len cap d ps vo x :=
  ⟨h.1.step s g, own_grown h.2 g h.1.pl⟩
theorem RdS.keep {w : World} {p : Nat} {a : Option Addr} {len cap c : Nat} {ps : List (Int × Int)} {vo : Value} {W x : World} (h : RdS w p a len cap c ps vo W) (hb : Below W.heap.size W x) : RdS w p a len cap c ps vo x := ⟨h.1.keep hb, own_keep h.2 hb⟩
theorem RdS.alloc {w : World} {p : Nat} {a : Option Addr} {len cap c : Nat} {ps : List (Int × Int)} {vo : Value} {W : World} (h : RdS w p a len cap c ps vo W) (ob : Obj) : RdS w p a len cap c ps vo (W.alloc ob) := h.keep (bA (bR _) _)
theorem RdS.mono {w : World} {p : Nat} {a : Option Addr} {len cap c d : Nat} {ps : List (Int × Int)} {vo : Value} {W : World} (h : RdS w p a len cap c ps vo W) (hd : c ≤ d) : RdS w p a len cap d ps vo W := ⟨h.1.mono hd, h.2⟩
theorem Apd.gr {v v' : Value} {w w' : World} (h : Apd v v' w w') : w.grownBy w' v.ownBlock := ⟨h.os, h.tape, h.output, h.size, fun k hk hn => h.blk k hk (fun e => hn e.symm)⟩
theorem DS.grow {w : World} {p : Nat} {a : Option Addr} {len cap c : Nat} {w' x : World} {row : Option Nat} (h : DS w p a len cap c w') (g : w'.grownBy x row) (hr : ∀ r, row = some r → w.heap.size ≤ r) : DS w p a len cap c x :=
  ⟨h.src.grown g (fun e => by have := hr p e; have := h.pl; omega) (fun hl xb xo e e2 => by have := hr xb e2; have := h.old hl xb xo e; omega), gGrown h.gr g hr, h.old, h.pl⟩
theorem RdS.app {w : World} {p : Nat} {a : Option Addr} {len cap c : Nat} {ps : List (Int × Int)} {vo v' : Value} {W x : World} {q : Int × Int} (h : RdS w p a len cap c ps vo W) (ho : x.ownsRow w.heap.size 53 2 v' (ps ++ [q]).length (pairC (ps ++ [q]))) (hap : Apd vo v' W x) : RdS w p a len cap c (ps ++ [q]) v' x :=
  ⟨h.1.grow hap.gr (fun r e => (own_blk h.2 r e).1), ho⟩
theorem RdS.size {w : World} {p : Nat} {a : Option Addr} {len cap c : Nat} {ps : List (Int × Int)} {vo : Value} {W : World} (h : RdS w p a len cap c ps vo W) : w.heap.size ≤ W.heap.size := h.1.gr.size
theorem RdS.nil {w : World} {p : Nat} {a : Option Addr} {len cap c : Nat} {ps : List (Int × Int)} {vo : Value} {W : World} (h : RdS w p a len cap c ps vo W) : RdS w p a len cap c [] (.slice none 0 0) W := ⟨h.1, World.ownsRow_nil _ _ _ _⟩
theorem RdS.set1 {w : World} {p : Nat} {a : Option Addr} {len cap c g cp i : Nat} {ps : List (Int × Int)} {W : World} {z : Int} (h : RdS w p a len cap c ps (.slice (some ⟨g, 0, none⟩) ps.length cp) W) (hi : i < ps.length) : RdS w p a len cap c (ps.set i (z, (pat ps i).2)) (.slice (some ⟨g, 0, none⟩) ps.length cp) (W.setCell ⟨g, i * 2, none⟩ (.int .i64 z)) := by
  refine ⟨h.1.set (own_blk h.2 g rfl).1, ?_⟩
  rw [List.length_set, pairC_set1 ps i z hi]
  exact (h.2.stored (i * 2) (.int .i64 z)).1
theorem RdS.set2 {w : World} {p : Nat} {a : Option Addr} {len cap c g cp i : Nat} {ps : List (Int × Int)} {W : World} {z : Int} (h : RdS w p a len cap c ps (.slice (some ⟨g, 0, none⟩) ps.length cp) W) (hi : i < ps.length) : RdS w p a len cap c (ps.set i ((pat ps i).1, z)) (.slice (some ⟨g, 0, none⟩) ps.length cp) (W.setCell ⟨g, i * 2 + 1, none⟩ (.int .i64 z)) := by
  refine ⟨h.1.set (own_blk h.2 g rfl).1, ?_⟩
  rw [List.length_set, pairC_set2 ps i z hi]
  exact (h.2.stored (i * 2 + 1) (.int .i64 z)).1
theorem pick_small (w : World) (p : Nat) (n : Int) (h : n ≤ 1) :
    Calls Try.prog 73 #[.pointer (some ⟨p, 0, none⟩), .int .i64 n] w fun e w' => e = .returned (.int .i64 0) ∧ w = w' := by
  go_enter Try.func73, Try.ntmps73
  go_wp2_with fail
  go_ret
  exact ⟨rfl, rfl⟩
theorem pickN_any (w : World) (p : Nat) (a : Option Addr) (len cap c n : Nat) (h : SrcAt w p a len cap c) (hc : c ≤ 900000) (h2 : n ≤ 1000) :
    Calls Try.prog 73 #[.pointer (some ⟨p, 0, none⟩), .int .i64 (n : Int)] w fun e w' => ∃ x : Int, 0 ≤ x ∧ (x < n ∨ x = 0) ∧ e = .returned (.int .i64 x) ∧ SrcAt w' p a len cap (c + 2) ∧ w.grownBy w' (some p) := by
  by_cases hn : 1 ≤ n
  · refine (pick_any w p a len cap c (n : Int) h hc (by omega) (by omega)).mono ?_
    rintro e w' ⟨x, x0, x1, rfl, s, g⟩
    exact ⟨x, x0, Or.inl (by omega), rfl, s, g⟩
  · refine (pick_small w p (n : Int) (by omega)).mono ?_
    rintro e w' ⟨rfl, rfl⟩
    exact ⟨0, by omega, Or.inr rfl, rfl, h.mono (by omega), gRefl _ _⟩
theorem rowLitR (W : World) (B n : Nat) (cs : Array Value) (t : TypeId) (hB : B ≤ W.heap.size) (hn : cs.size = n * 2) (hm : n ≤ maxLen) : (W.alloc (.cells cs t)).ownsRow B t 2 (.slice (some ⟨W.heap.size, 0, none⟩) n n) n cs.toList :=
  ⟨by simp [hn], .inr ⟨W.heap.size, n, cs, rfl, hB, (MapKept.heap_alloc W _).1, Nat.le_refl _, hm, by first | exact hn | simp [hn], by rw [← hn, ← Array.length_toList, List.take_length]⟩⟩
def RdPost (w : World) (p : Nat) (a : Option Addr) (len cap c : Nat) (e : Ending) (w' : World) : Prop :=
  ∃ (ps : List (Int × Int)) (v : Value), e = .returned v ∧ ps.length ≤ 64 ∧ RdS w p a len cap c ps v w'
set_option maxRecDepth 100000 in
set_option maxHeartbeats 8000000 in
theorem l14Draw_any (w : World) (p : Nat) (a : Option Addr) (len cap c : Nat) (h : SrcAt w p a len cap c) (hc : c ≤ 600000) :
    Calls Try.prog 64 #[.pointer (some ⟨p, 0, none⟩)] w (RdPost w p a len cap (c + 500)) := by
  have S0 := Lib.hid (show RdS w p a len cap c [] (.slice (some ⟨w.heap.size, 0, none⟩) 0 0) (w.alloc (.cells #[] 53)) from ⟨(DS.new h).alloc _, by simpa [pairC] using rowPair_new w 53⟩)
  have hp := h.lt
  have hle : w.heap.size ≤ (w.alloc (.cells #[] 53)).heap.size := by simp
  clear h
  go_enter Try.func64, Try.ntmps64
  go_wp2_with fail
  generalize w.alloc (.cells #[] 53) = W0 at *
  generalize hrow : (Value.slice (some ⟨w.heap.size, 0, none⟩) 0 0) = row0_ at *
  clear hrow
  refine (pick_any _ p a len cap _ 20 S0.out.1.src (by omega) (by omega) (by omega)).mono ?_
  rintro e w1 ⟨hr, hr0, hr1, rfl, s1, g1⟩
  have S1 := Lib.hid (S0.out.step s1 g1)
  clear s1 g1 S0
  go_wp2_with fail
  refine (pick_any _ p a len cap _ 2000 S1.out.1.src (by omega) (by omega) (by omega)).mono ?_
  rintro e w2 ⟨of, of0, of1, rfl, s1, g1⟩
  have S2 := Lib.hid (S1.out.step s1 g1)
  clear s1 g1 S1
  go_wp2_with fail
  refine (pick_any _ p a len cap _ 41 S2.out.1.src (by omega) (by omega) (by omega)).mono ?_
  rintro e w3 ⟨sl, sl0, sl1, rfl, s1, g1⟩
  have S3 := Lib.hid (S2.out.step s1 g1)
  clear s1 g1 S2
  go_wp2_with fail
  refine (oneQ_any _ p a len cap _ 4 S3.out.1.src (by omega) (by omega) (by omega)).mono ?_
  rintro e w4 ⟨ex, rfl, s1, g1⟩
  have S4 := Lib.hid (S3.out.step s1 g1)
  clear s1 g1 S3
  go_wp2_with fail
  refine (pick_any _ p a len cap _ 12 S4.out.1.src (by omega) (by omega) (by omega)).mono ?_
  rintro e w5 ⟨kk, kk0, kk1, rfl, s1, g1⟩
  have S5 := Lib.hid (S4.out.step s1 g1)
  clear s1 g1 S4
  go_wp2_with fail
  obtain ⟨k0, rfl⟩ := Int.eq_ofNat_of_zero_le kk0
  generalize hsl : sl - 20 = slo at *
  have hsb : -20 ≤ slo ∧ slo ≤ 20 := by omega
  clear hsl
  go_loopw [3, 4, 5, 8] (fun vo vh vf vk wr => ∃ (ps : List (Int × Int)) (hr of : Int) (k : Nat), ps.length + k ≤ 11 ∧ vk = .int .i64 k ∧ vh = .int .i64 hr ∧ vf = .int .i64 of ∧ (0 ≤ hr ∧ hr ≤ 20 + 41 * ps.length) ∧ (-(1000 + 2000 * ps.length) ≤ of ∧ of ≤ 1000 + 2000 * ps.length) ∧ RdS w p a len cap (c + 10 + 10 * ps.length) ps vo wr) (fun _ _ _ vk _ => (intOf vk).toNat)
  case atStart => exact ⟨[], hr, of - 1000, k0, by simp; omega, rfl, rfl, rfl, by simp; omega, by simp; omega, S5.out.mono (by simp)⟩
  case round =>
    obtain ⟨ps, hr, of, k, hk, rfl, rfl, rfl, hhr, hof, hs⟩ := hrel
    have S6 := Lib.hid hs
    have hsz := hs.size
    clear hs S5
    by_cases hlt : 0 < k
    · go_wp2_with (at_builtin; refine appRd rfl _ _ rfl _ _ hr of rfl S6.out.2 hsz (by show Value.slice (some ⟨wr.heap.size, 0, none⟩) 1 1 = _; rfl) (by omega) ?_)
      intro v' w7 hown hap
      have S7 := Lib.hid (S6.out.app (q := (hr, of)) (by rw [List.length_append]; exact hown) hap)
      clear hown hap S6
      go_wp2_with fail
      refine (pick_any _ p a len cap _ 40 S7.out.1.src (by omega) (by omega) (by omega)).mono ?_
      rintro e w8 ⟨st, st0, st1, rfl, s1, g1⟩
      have S8 := Lib.hid (S7.out.step s1 g1)
      clear s1 g1 S7
      have m1 := mulB (a := slo) (b := 1 + st) (A := 20) (B := 40) hsb.1 hsb.2 (by omega) (by omega)
      have HPL := Lib.hid (show (ps ++ [(hr, of)]).length = ps.length + 1 by simp)
      cases ex
      · go_wp2_with fail
        generalize slo * (1 + st) = dl at *
        refine (pick_any _ p a len cap _ 61 S8.out.1.src (by omega) (by omega) (by omega)).mono ?_
        rintro e w9 ⟨dv, dv0, dv1, rfl, s1, g1⟩
        have S9 := Lib.hid (S8.out.step s1 g1)
        clear s1 g1 S8
        go_wp2_with fail
        refine (oneQ_any _ p a len cap _ 16 S9.out.1.src (by omega) (by omega) (by omega)).mono ?_
        rintro e wb ⟨q16, rfl, s1, g1⟩
        have SB := Lib.hid (S9.out.step s1 g1)
        clear s1 g1 S9
        cases q16
        · go_wp2_with fail
          go_roundw
          case rel => exact ⟨ps ++ [(hr, of)], hr + (1 + st), of + dl + (dv - 30), k - 1, by rw [HPL.out]; omega, congrArg (Value.int .i64) (by omega), rfl, rfl, by rw [HPL.out]; omega, by rw [HPL.out]; omega, SB.out.mono (by rw [HPL.out]; omega)⟩
          case measure => simp [intOf]; omega
        · have hSB := SB.out.size
          go_wp2_with fail
          refine (among_any _ p a len cap _ _ 2 (-900) 900 (SB.out.alloc _).1.src (by omega) (by omega) (by omega) (by omega) (by simp) ?hnu).mono ?_
          case hnu =>
            intro i hi
            match i, hi with
            | 0, _ => exact ⟨_, by simp [go_sem]; rfl, by omega, by omega⟩
            | 1, _ => exact ⟨_, by simp [go_sem]; rfl, by omega, by omega⟩
          rintro e wc ⟨z, z0, z1, rfl, s1, g1⟩
          have SC := Lib.hid ((SB.out.alloc _).step s1 g1)
          clear s1 g1 SB
          go_wp2_with fail
          go_roundw
          case rel => exact ⟨ps ++ [(hr, of)], hr + (1 + st), of + dl + (dv - 30) + z, k - 1, by rw [HPL.out]; omega, congrArg (Value.int .i64) (by omega), rfl, rfl, by rw [HPL.out]; omega, by rw [HPL.out]; omega, SC.out.mono (by rw [HPL.out]; omega)⟩
          case measure => simp [intOf]; omega
      · go_wp2_with fail
        generalize slo * (1 + st) = dl at *
        refine (oneQ_any _ p a len cap _ 16 S8.out.1.src (by omega) (by omega) (by omega)).mono ?_
        rintro e wb ⟨q16, rfl, s1, g1⟩
        have SB := Lib.hid (S8.out.step s1 g1)
        clear s1 g1 S8
        cases q16
        · go_wp2_with fail
          go_roundw
          case rel => exact ⟨ps ++ [(hr, of)], hr + (1 + st), of + dl, k - 1, by rw [HPL.out]; omega, congrArg (Value.int .i64) (by omega), rfl, rfl, by rw [HPL.out]; omega, by rw [HPL.out]; omega, SB.out.mono (by rw [HPL.out]; omega)⟩
          case measure => simp [intOf]; omega
        · have hSB := SB.out.size
          go_wp2_with fail
          refine (among_any _ p a len cap _ _ 2 (-900) 900 (SB.out.alloc _).1.src (by omega) (by omega) (by omega) (by omega) (by simp) ?hnu).mono ?_
          case hnu =>
            intro i hi
            match i, hi with
            | 0, _ => exact ⟨_, by simp [go_sem]; rfl, by omega, by omega⟩
            | 1, _ => exact ⟨_, by simp [go_sem]; rfl, by omega, by omega⟩
          rintro e wc ⟨z, z0, z1, rfl, s1, g1⟩
          have SC := Lib.hid ((SB.out.alloc _).step s1 g1)
          clear s1 g1 SB
          go_wp2_with fail
          go_roundw
          case rel => exact ⟨ps ++ [(hr, of)], hr + (1 + st), of + dl + z, k - 1, by rw [HPL.out]; omega, congrArg (Value.int .i64) (by omega), rfl, rfl, by rw [HPL.out]; omega, by rw [HPL.out]; omega, SC.out.mono (by rw [HPL.out]; omega)⟩
          case measure => simp [intOf]; omega
    · obtain rfl : k = 0 := by omega
      have hpl : ps.length ≤ 11 := by omega
      clear hk hhr hof
      have hcc : c + 10 + 10 * ps.length ≤ c + 120 := by omega
      obtain ⟨ao, co, rfl, hsp⟩ := slP_of S6.out.2
      go_wp2_with fail
      refine (pickN_any _ p a len cap _ ps.length S6.out.1.src (by omega) (by omega)).mono ?_
      rintro e w7 ⟨at_, at0_, at1_, rfl, s1, g1⟩
      have S7 := Lib.hid (S6.out.step s1 g1)
      clear s1 g1 S6
      go_wp2_with fail
      refine (pick_any _ p a len cap _ 30 S7.out.1.src (by omega) (by omega) (by omega)).mono ?_
      rintro e w8 ⟨q, q0, q1, rfl, s1, g1⟩
      have S8 := Lib.hid (S7.out.step s1 g1)
      clear s1 g1 S7
      by_cases e0 : q = 0
      · subst e0
        by_cases hz : 0 < ps.length
        · obtain ⟨i, rfl⟩ := Int.eq_ofNat_of_zero_le at0_
          have hil : i < ps.length := by omega
          obtain ⟨g, rfl, _, _⟩ := hsp (by omega)
          have h8 := S8.out.size
          go_wp2_with fail
          refine (among_any _ p a len cap _ _ 3 (-1) 10001 (S8.out.alloc _).1.src (by omega) (by omega) (by omega) (by omega) (by simp) ?hnu).mono ?_
          case hnu =>
            intro i hi
            match i, hi with
            | 0, _ => exact ⟨_, by simp [go_sem]; rfl, by omega, by omega⟩
            | 1, _ => exact ⟨_, by simp [go_sem]; rfl, by omega, by omega⟩
            | 2, _ => exact ⟨_, by simp [go_sem]; rfl, by omega, by omega⟩
          rintro e w9 ⟨z, z0, z1, rfl, s1, g1⟩
          have S9 := Lib.hid ((S8.out.alloc _).step s1 g1)
          clear s1 g1 S8
          have f1 : w9.frozen? ⟨g, i * 2, none⟩ = false := S9.out.2.frozenAt (i * 2)
          obtain ⟨c1, c2⟩ := own_pairs S9.out.2 i hil
          have SF := Lib.hid (S9.out.set1 (z := z) hil)
          clear S9
          go_wp2_with fail
          go_ret
          exact ⟨ps.set i (z, (pat ps i).2), _, rfl, by rw [List.length_set]; omega, SF.out.mono (by omega)⟩
        · have hz0 : ¬ (0 : Int) < (ps.length : Int) := by omega
          go_wp2_with fail
          go_ret
          exact ⟨ps, _, rfl, by omega, S8.out.mono (by omega)⟩
      have b0 : (q == 0) = false := by simpa using e0
      by_cases e1 : q = 1
      · subst e1
        by_cases hz : 0 < ps.length
        · obtain ⟨i, rfl⟩ := Int.eq_ofNat_of_zero_le at0_
          have hil : i < ps.length := by omega
          obtain ⟨g, rfl, _, _⟩ := hsp (by omega)
          have h8 := S8.out.size
          go_wp2_with fail
          refine (among_any _ p a len cap _ _ 4 (-100001) 100001 (S8.out.alloc _).1.src (by omega) (by omega) (by omega) (by omega) (by simp) ?hnu).mono ?_
          case hnu =>
            intro i hi
            match i, hi with
            | 0, _ => exact ⟨_, by simp [go_sem]; rfl, by omega, by omega⟩
            | 1, _ => exact ⟨_, by simp [go_sem]; rfl, by omega, by omega⟩
            | 2, _ => exact ⟨_, by simp [go_sem]; rfl, by omega, by omega⟩
            | 3, _ => exact ⟨_, by simp [go_sem]; rfl, by omega, by omega⟩
          rintro e w9 ⟨z, z0, z1, rfl, s1, g1⟩
          have S9 := Lib.hid ((S8.out.alloc _).step s1 g1)
          clear s1 g1 S8
          have f1 : w9.frozen? ⟨g, i * 2 + 1, none⟩ = false := S9.out.2.frozenAt (i * 2 + 1)
          obtain ⟨c1, c2⟩ := own_pairs S9.out.2 i hil
          have SF := Lib.hid (S9.out.set2 (z := z) hil)
          clear S9
          go_wp2_with fail
          go_ret
          exact ⟨ps.set i ((pat ps i).1, z), _, rfl, by rw [List.length_set]; omega, SF.out.mono (by omega)⟩
        · have hz0 : ¬ (0 : Int) < (ps.length : Int) := by omega
          go_wp2_with fail
          go_ret
          exact ⟨ps, _, rfl, by omega, S8.out.mono (by omega)⟩
      have b1 : (q == 1) = false := by simpa using e1
      by_cases e2 : q = 2
      · subst e2
        have SN := Lib.hid (S8.out.nil)
        clear S8
        go_wp2_with fail
        go_loopw [3, 11] (fun vo vk wr => ∃ (ps : List (Int × Int)) (k : Nat), k ≤ ps.length ∧ ps.length ≤ k ∧ k ≤ 61 ∧ vk = .int .i64 k ∧ RdS w p a len cap (c + 200 + 2 * k) ps vo wr) (fun _ vk _ => 61 - (intOf vk).toNat)
        case atStart => exact ⟨[], 0, by simp, by simp, by omega, rfl, SN.out.mono (by omega)⟩
        case round =>
          obtain ⟨ps, k, hk1, hk2, hk3, rfl, hs⟩ := hrel
          have SA := Lib.hid hs
          clear hs SN
          go_wp2_with fail
          refine (pick_any _ p a len cap _ 2 SA.out.1.src (by omega) (by omega) (by omega)).mono ?_
          rintro e w9 ⟨x, x0, x1, rfl, s1, g1⟩
          have SB := Lib.hid (SA.out.step s1 g1)
          clear s1 g1 SA
          have hsz := SB.out.size
          by_cases hlt : (k : Int) < 60 + x
          · have m1 := mulB (a := (k : Int)) (b := (k : Int)) (A := 61) (B := 61) (by omega) (by omega) (by omega) (by omega)
            go_wp2_with (at_builtin; refine appRd rfl _ _ rfl _ _ ((k : Int) * 150) ((k : Int) * k) rfl SB.out.2 hsz (by show Value.slice (some ⟨w9.heap.size, 0, none⟩) 1 1 = _; rfl) (by omega) ?_)
            intro v' wa hown hap
            have SC := Lib.hid (SB.out.app (q := ((k : Int) * 150, (k : Int) * k)) (by rw [List.length_append]; exact hown) hap)
            clear hown hap SB
            go_wp2_with fail
            go_roundw
            case rel => exact ⟨_, k + 1, by simp; omega, by simp; omega, by omega, by go_num, SC.out.mono (by omega)⟩
            case measure => simp [intOf]; omega
          · go_wp2_with fail
            go_ret
            exact ⟨ps, _, rfl, by omega, SB.out.mono (by omega)⟩
      have b2 : (q == 2) = false := by simpa using e2
      by_cases e3 : q = 3
      · subst e3
        have SF := Lib.hid (show RdS w p a len cap (c + 500) [(0, -100000), (10000, 100000)] (.slice (some ⟨w8.heap.size, 0, none⟩) 2 2) (w8.alloc (.cells #[.int .i64 0, .int .i64 (-100000), .int .i64 10000, .int .i64 100000] 53)) from ⟨(S8.out.1.alloc _).mono (by omega), rowLitR w8 w.heap.size 2 _ _ S8.out.size rfl (by unfold maxLen; omega)⟩)
        clear S8
        go_wp2_with fail
        go_ret
        exact ⟨_, _, rfl, by simp, SF.out⟩
      have b3 : (q == 3) = false := by simpa using e3
      go_wp2_with fail
      go_ret
      exact ⟨ps, _, rfl, by omega, S8.out.mono (by omega)⟩
end Go.Proofs.Ytmmmbchlkjljaaa
namespace Go.Proofs.Ytmmmbchlkjljaaa
open Go.RowKit

def RdW (w : World) (e : Ending) (w' : World) : Prop := ∃ (ps : List (Int × Int)) (v : Value), e = .returned v ∧ ps.length ≤ 64 ∧ SlB w' v ps ∧ Below w.heap.size w w'
set_option maxRecDepth 100000 in
set_option maxHeartbeats 2000000 in
theorem DrawFitOf_any (w : World) (a : Option Addr) (len cap : Nat) (zs : List Int) (h : IsRow .u8 w a len cap zs) :
    Calls Try.prog 25 #[.slice a len cap] w (RdW w) := by
  go_enter Try.func25, Try.ntmps25
  go_wp2_with fail
  refine (l00From_any w a len cap zs h).mono ?_
  rintro e w1 ⟨rfl, s1, hb⟩
  have S1 := Lib.hid s1
  have L1 := Lib.hid hb
  clear s1 hb h
  generalize hpp : w.heap.size = p at S1 ⊢
  have hwp : w.heap.size ≤ p := by omega
  go_wp2_with fail
  refine (l14Draw_any w1 p a len cap 0 S1.out (by omega)).mono ?_
  rintro e w2 ⟨ps, v, rfl, hl, hs⟩
  have L2 := Lib.hid (below_grown L1.out hs.1.gr hwp)
  have O2 := Lib.hid (slB_of hs.2)
  clear hs L1 S1
  go_wp2_with fail
  go_ret
  exact ⟨ps, v, rfl, hl, O2.out, L2.out⟩
set_option maxRecDepth 100000 in
set_option maxHeartbeats 2000000 in
theorem DrawMedianOff_any (w : World) (a : Option Addr) (len cap : Nat) (zs : List Int) (h : IsRow .u8 w a len cap zs) :
    Calls Try.prog 48 #[.slice a len cap] w (RdW w) := by
  go_enter Try.func48, Try.ntmps48
  go_wp2_with fail
  refine (l00From_any w a len cap zs h).mono ?_
  rintro e w1 ⟨rfl, s1, hb⟩
  have S1 := Lib.hid s1
  have L1 := Lib.hid hb
  clear s1 hb h
  generalize hpp : w.heap.size = p at S1 ⊢
  have hwp : w.heap.size ≤ p := by omega
  go_wp2_with fail
  refine (l14Draw_any w1 p a len cap 0 S1.out (by omega)).mono ?_
  rintro e w2 ⟨ps, v, rfl, hl, hs⟩
  have L2 := Lib.hid (below_grown L1.out hs.1.gr hwp)
  have O2 := Lib.hid (slB_of hs.2)
  clear hs L1 S1
  go_wp2_with fail
  go_ret
  exact ⟨ps, v, rfl, hl, O2.out, L2.out⟩
set_option maxRecDepth 100000 in
set_option maxHeartbeats 2000000 in
theorem DrawBestChange_any (w : World) (a : Option Addr) (len cap : Nat) (zs : List Int) (h : IsRow .u8 w a len cap zs) :
    Calls Try.prog 50 #[.slice a len cap] w (RdW w) := by
  go_enter Try.func50, Try.ntmps50
  go_wp2_with fail
  refine (l00From_any w a len cap zs h).mono ?_
  rintro e w1 ⟨rfl, s1, hb⟩
  have S1 := Lib.hid s1
  have L1 := Lib.hid hb
  clear s1 hb h
  generalize hpp : w.heap.size = p at S1 ⊢
  have hwp : w.heap.size ≤ p := by omega
  go_wp2_with fail
  refine (l14Draw_any w1 p a len cap 0 S1.out (by omega)).mono ?_
  rintro e w2 ⟨ps, v, rfl, hl, hs⟩
  have L2 := Lib.hid (below_grown L1.out hs.1.gr hwp)
  have O2 := Lib.hid (slB_of hs.2)
  clear hs L1 S1
  go_wp2_with fail
  go_ret
  exact ⟨ps, v, rfl, hl, O2.out, L2.out⟩
set_option maxRecDepth 100000 in
set_option maxHeartbeats 2000000 in
theorem DrawResidualsOf_any (w : World) (a : Option Addr) (len cap : Nat) (zs : List Int) (h : IsRow .u8 w a len cap zs) :
    Calls Try.prog 42 #[.slice a len cap] w (RdW w) := by
  go_enter Try.func42, Try.ntmps42
  go_wp2_with fail
  refine (l00From_any w a len cap zs h).mono ?_
  rintro e w1 ⟨rfl, s1, hb⟩
  have S1 := Lib.hid s1
  have L1 := Lib.hid hb
  clear s1 hb h
  generalize hpp : w.heap.size = p at S1 ⊢
  have hwp : w.heap.size ≤ p := by omega
  go_wp2_with fail
  refine (l14Draw_any w1 p a len cap 0 S1.out (by omega)).mono ?_
  rintro e w2 ⟨ps, v, rfl, hl, hs⟩
  have L2 := Lib.hid (below_grown L1.out hs.1.gr hwp)
  have O2 := Lib.hid (slB_of hs.2)
  clear hs L1 S1
  go_wp2_with fail
  go_ret
  exact ⟨ps, v, rfl, hl, O2.out, L2.out⟩
def RdW2 (w : World) (e : Ending) (w' : World) : Prop := ∃ (ps : List (Int × Int)) (v : Value) (m : Int), e = .returned (.tuple #[v, .int .i64 m]) ∧ ps.length ≤ 64 ∧ SlB w' v ps ∧ Below w.heap.size w w'
set_option maxRecDepth 100000 in
set_option maxHeartbeats 4000000 in
theorem DrawJumpsOf_any (w : World) (a : Option Addr) (len cap : Nat) (zs : List Int) (h : IsRow .u8 w a len cap zs) :
    Calls Try.prog 49 #[.slice a len cap] w (RdW2 w) := by
  go_enter Try.func49, Try.ntmps49
  go_wp2_with fail
  refine (l00From_any w a len cap zs h).mono ?_
  rintro e w1 ⟨rfl, s1, hb⟩
  have S1 := Lib.hid s1
  have L1 := Lib.hid hb
  clear s1 hb h
  generalize hpp : w.heap.size = p at S1 ⊢
  have hwp : w.heap.size ≤ p := by omega
  have hp1 := S1.out.lt
  go_wp2_with fail
  refine (l14Draw_any w1 p a len cap 0 S1.out (by omega)).mono ?_
  rintro e w2 ⟨ps, v, rfl, hl, hs⟩
  have D2 := Lib.hid hs
  clear hs S1
  go_wp2_with fail
  refine (oneQ_any _ p a len cap _ 10 D2.out.1.src (by omega) (by omega) (by omega)).mono ?_
  rintro e w3 ⟨q, rfl, s1, g1⟩
  have D3 := Lib.hid (D2.out.step s1 g1)
  clear s1 g1 D2
  cases q
  · go_wp2_with fail
    refine (pick_any _ p a len cap _ 1000 D3.out.1.src (by omega) (by omega) (by omega)).mono ?_
    rintro e w4 ⟨m, _, _, rfl, s1, g1⟩
    have D4 := Lib.hid (D3.out.step s1 g1)
    have L4 := Lib.hid (below_grown L1.out D4.out.1.gr hwp)
    have O4 := Lib.hid (slB_of D4.out.2)
    clear s1 g1 D3 D4 L1
    go_wp2_with fail
    go_ret2
    exact ⟨ps, v, _, rfl, hl, O4.out, L4.out⟩
  · have hsz := D3.out.size
    go_wp2_with fail
    refine (among_any _ p a len cap _ _ 4 (-1) 200001 (D3.out.alloc _).1.src (by omega) (by omega) (by omega) (by omega) (by simp) ?hnu).mono ?_
    case hnu =>
      intro i hi
      match i, hi with
      | 0, _ => exact ⟨_, by simp [go_sem]; rfl, by omega, by omega⟩
      | 1, _ => exact ⟨_, by simp [go_sem]; rfl, by omega, by omega⟩
      | 2, _ => exact ⟨_, by simp [go_sem]; rfl, by omega, by omega⟩
      | 3, _ => exact ⟨_, by simp [go_sem]; rfl, by omega, by omega⟩
    rintro e w4 ⟨m, _, _, rfl, s1, g1⟩
    have D4 := Lib.hid ((D3.out.alloc _).step s1 g1)
    have L4 := Lib.hid (below_grown L1.out D4.out.1.gr hwp)
    have O4 := Lib.hid (slB_of D4.out.2)
    clear s1 g1 D3 D4 L1
    go_wp2_with fail
    go_ret2
    exact ⟨ps, v, _, rfl, hl, O4.out, L4.out⟩
set_option maxHeartbeats 1000000 in
theorem f6same_yes (ts : List Int) (va vb : Value) (w : World) (ha : Sl64 w va ts) (hb : Sl64 w vb ts) (hmax : ts.length ≤ 1000000000000) :
    Calls Try.prog 46 #[va, vb] w (DrewRet (.bool true) w) := by
  obtain ⟨ao, cap, rfl, ha⟩ := ha
  obtain ⟨bo, bcap, rfl, hb⟩ := hb
  have HA := Lib.hid ha
  have HB := Lib.hid hb
  clear ha hb
  have hne : ((ts.length : Int) != (ts.length : Int)) = false := by simp
  go_enter Try.func46, Try.ntmps46
  go_wp2_with fail
  go_loopw [5] (fun i wr => ∃ (k : Nat) (n : Nat), k ≤ ts.length ∧ i = .int .i64 k ∧ wr = w.drewN n) (fun i _ => ts.length - (intOf i).toNat)
  case atStart => exact ⟨0, 0, by omega, rfl, rfl⟩
  case round =>
    obtain ⟨k, n, hk, rfl, rfl⟩ := hrel
    by_cases hlt : k < ts.length
    · obtain ⟨g, rfl, hg, hc⟩ := HA.out (by omega)
      obtain ⟨g2, rfl, hg2, hc2⟩ := HB.out (by omega)
      have c1 : w.cell? ⟨g, k, none⟩ = some (.int .i64 (at0 ts k)) := hc k hlt
      have c2 : w.cell? ⟨g2, k, none⟩ = some (.int .i64 (at0 ts k)) := hc2 k hlt
      have hne2 : (at0 ts k != at0 ts k) = false := by simp
      clear hc hc2 HA HB
      go_wp2_with fail
      go_quiet (fail)
      go_wp2_with fail
      go_roundw
      case rel => exact ⟨k + 1, _, by omega, by go_num, rfl⟩
      case measure => simp [intOf]; omega
    · go_wp2_with fail
      go_ret
      exact ⟨rfl, n, rfl⟩
end Go.Proofs.Ytmmmbchlkjljaaa
namespace Go.Proofs.Ytmmmbchlkjljaaa
open Go.RowKit

theorem okRd_take {ps : List (Int × Int)} (h : okRd ps = true) {k : Nat} (hk : k ≤ ps.length) : okRd (ps.take k) = true := by
  have hl : (ps.take k).length = k := by rw [List.length_take]; omega
  refine okRd_iff.2 ⟨by have := okRd_len h; omega, fun i hi => ?_⟩
  rw [hl] at hi
  have h1 := okRd_at h (i := i) (by omega)
  refine okAt_c (pat_takeL hi) (inB_true.2 h1.1) (inB_true.2 h1.2) ?_
  by_cases h0 : i = 0
  · exact .inl h0
  · right
    rw [pat_takeL (show i - 1 < k by omega)]
    have := okRd_up h (i := i - 1) (by omega)
    rw [show i - 1 + 1 = i by omega] at this
    show (pat ps (i - 1)).1 < (pat ps i).1
    exact this
theorem okRd_drop {ps : List (Int × Int)} (h : okRd ps = true) {k : Nat} (_hk : k ≤ ps.length) : okRd (ps.drop k) = true := by
  have hl : (ps.drop k).length = ps.length - k := List.length_drop
  refine okRd_iff.2 ⟨by have := okRd_len h; omega, fun i hi => ?_⟩
  rw [hl] at hi
  have h1 := okRd_at h (i := k + i) (by omega)
  refine okAt_c (pat_dropL ps i k) (inB_true.2 h1.1) (inB_true.2 h1.2) ?_
  by_cases h0 : i = 0
  · exact .inl h0
  · right
    rw [pat_dropL]
    have := okRd_up h (i := k + i - 1) (by omega)
    rw [show k + i - 1 + 1 = k + i by omega] at this
    rw [show k + (i - 1) = k + i - 1 by omega]
    show (pat ps (k + i - 1)).1 < (pat ps (k + i)).1
    exact this
theorem fit_parts {ps : List (Int × Int)} {k : Nat} (hk : k ≤ ps.length) : adF (fitL (ps.take k)) (fitL (ps.drop k)) = fitL ps := by
  have e1 : ((ps.take k).length : Int) = k := by rw [List.length_take]; omega
  have e2 : ((ps.drop k).length : Int) = (ps.length : Int) - k := by rw [List.length_drop]; omega
  unfold adF fitL
  simp only [e1, e2, smF_split, Ft.mk.injEq, and_true]
  omega
theorem fits_add {ps : List (Int × Int)} (h : okRd ps = true) {k : Nat} (hk : k ≤ ps.length) : afE (fitL (ps.take k)) (fitL (ps.drop k)) = (fitL ps, 0) := by
  rw [afE_0 (fit_okR (okRd_take h hk)) (fit_okR (okRd_drop h hk)) ?_, fit_parts hk]
  have e1 : (fitL (ps.take k)).n = ((ps.take k).length : Int) := rfl
  have e2 : (fitL (ps.drop k)).n = ((ps.drop k).length : Int) := rfl
  have := okRd_len h
  rw [e1, e2, List.length_take, List.length_drop]
  omega
/-- Readings whose errors are moved, the first k. -/
def mvL (ps : List (Int × Int)) (t : Int) (k : Nat) : List (Int × Int) := (List.range k).map fun i => ((pat ps i).1, (pat ps i).2 + t)
theorem mvL_len (ps : List (Int × Int)) (t : Int) (k : Nat) : (mvL ps t k).length = k := by simp [mvL]
theorem mvL_succ (ps : List (Int × Int)) (t : Int) (k : Nat) : mvL ps t (k + 1) = mvL ps t k ++ [((pat ps k).1, (pat ps k).2 + t)] := by simp [mvL, List.range_succ]
theorem mvL_sum (ps : List (Int × Int)) (t : Int) : ∀ k, k ≤ ps.length → smF hrS (mvL ps t k) = smF hrS (ps.take k) ∧ smF ofS (mvL ps t k) = smF ofS (ps.take k) + k * t ∧ smF sqS (mvL ps t k) = smF sqS (ps.take k) ∧ smF dgS (mvL ps t k) = smF dgS (ps.take k) + smF hrS (ps.take k) * t
  | 0, _ => by simp [mvL, smF]
  | k + 1, h => by
    obtain ⟨h1, h2, h3, h4⟩ := mvL_sum ps t k (by omega)
    have hl : k < ps.length := by omega
    rw [mvL_succ, smF_append, smF_append, smF_append, smF_append, smF_take _ hl, smF_take _ hl, smF_take _ hl, smF_take _ hl, h1, h2, h3, h4]
    simp only [smF, hrS, ofS, sqS, dgS]
    refine ⟨by omega, by push_cast; grind, by omega, by grind⟩
theorem mv_fit (ps : List (Int × Int)) (t : Int) : fitL (mvL ps t ps.length) = ⟨(fitL ps).n, (fitL ps).x, (fitL ps).y + (fitL ps).n * t, (fitL ps).xx, (fitL ps).xy + (fitL ps).x * t⟩ := by
  obtain ⟨h1, h2, h3, h4⟩ := mvL_sum ps t ps.length (Nat.le_refl _)
  rw [List.take_of_length_le (Nat.le_refl _)] at h1 h2 h3 h4
  unfold fitL
  rw [mvL_len, h1, h2, h3, h4]
theorem near_shift {a d t : Int} (hd : 1 ≤ d) : near (a + t * d) d = near a d + t := by
  unfold near
  rw [show 2 * (a + t * d) + d = 2 * a + d + t * (2 * d) by grind]
  exact Int.add_mul_ediv_right _ _ (by omega)
theorem mv_dF (f : Ft) (t : Int) : dF ⟨f.n, f.x, f.y + f.n * t, f.xx, f.xy + f.x * t⟩ = dF f := rfl
theorem mv_nF (f : Ft) (t : Int) : nF ⟨f.n, f.x, f.y + f.n * t, f.xx, f.xy + f.x * t⟩ = nF f := by
  unfold nF; grind
theorem mv_oaF (f : Ft) (t h : Int) (hd : 1 ≤ dF f) : oaF ⟨f.n, f.x, f.y + f.n * t, f.xx, f.xy + f.x * t⟩ h = oaF f h + t := by
  have e : atF ⟨f.n, f.x, f.y + f.n * t, f.xx, f.xy + f.x * t⟩ h = atF f h + t * dF f := by
    unfold atF
    rw [mv_nF]
    unfold dF
    grind
  unfold oaF
  rw [e, mv_dF, near_shift hd]
/-- What the law asks of a list and the moved one. -/
def FtLaw (ps : List (Int × Int)) (t h : Int) : Prop :=
  ((ftE (mvL ps t ps.length)).2 != 0) = true ∨ (((ftE (mvL ps t ps.length)).2 != 0) = false ∧ drE (ftE (mvL ps t ps.length)).1 = drE (fitL ps) ∧ (oaE (ftE (mvL ps t ps.length)).1 h).2 = (oaE (fitL ps) h).2 ∧ (((oaE (fitL ps) h).2 != 0) = true ∨ (((oaE (fitL ps) h).2 != 0) = false ∧ (oaE (ftE (mvL ps t ps.length)).1 h).1 = (oaE (fitL ps) h).1 + t)))
theorem fits_law {ps : List (Int × Int)} (hok : okRd ps = true) (t h : Int) : FtLaw ps t h := by
  unfold FtLaw
  cases hm : okRd (mvL ps t ps.length)
  · rw [ftE_1 hm]; exact .inl rfl
  · rw [ftE_0 hm]
    have f1 := fit_okR hok
    have f2 := fit_okR hm
    rw [mv_fit] at f2 ⊢
    refine .inr ⟨rfl, ?_⟩
    generalize fitL ps = f at *
    by_cases h0 : dF f = 0
    · rw [drE_6 f1 h0, drE_6 f2 (by rw [mv_dF]; exact h0), oaE_6 f1 h0, oaE_6 f2 (by rw [mv_dF]; exact h0)]
      exact ⟨rfl, rfl, .inl rfl⟩
    · have h0' : ¬ dF ⟨f.n, f.x, f.y + f.n * t, f.xx, f.xy + f.x * t⟩ = 0 := by rw [mv_dF]; exact h0
      have hd : 1 ≤ dF f := by have := (okFt_bd f1).d; omega
      rw [drE_0 f1 h0, drE_0 f2 h0', mv_nF, mv_dF]
      refine ⟨rfl, ?_⟩
      cases hh : inB h 0 10000
      · rw [oaE_2 f1 h0 hh, oaE_2 f2 h0' hh]; exact ⟨rfl, .inl rfl⟩
      · rw [oaE_0 f1 h0 hh, oaE_0 f2 h0' hh, mv_oaF f t h hd]
        exact ⟨rfl, .inr ⟨rfl, rfl⟩⟩
theorem oaE_bd (f : Ft) (h : Int) : -144000000000000001 ≤ (oaE f h).1 ∧ (oaE f h).1 ≤ 144000000000000001 := by
  cases h1 : okFt f
  · rw [oaE_1 h1]; omega
  · by_cases h2 : dF f = 0
    · rw [oaE_6 h1 h2]; omega
    · cases h3 : inB h 0 10000
      · rw [oaE_2 h1 h2 h3]; omega
      · rw [oaE_0 h1 h2 h3]
        have hf := okFt_bd h1
        have hd : 1 ≤ dF f := by have := hf.d; omega
        have a := (atF_bd hf (inB_true.1 h3)).2.2.2
        have b := near_lim (n := atF f h) (d := dF f) (M := 144000000000000000) hd (by omega) (by omega) (by omega)
        show -144000000000000001 ≤ oaF f h ∧ oaF f h ≤ 144000000000000001
        unfold oaF
        omega
end Go.Proofs.Ytmmmbchlkjljaaa
namespace Go.Proofs.Ytmmmbchlkjljaaa
open Go.RowKit

theorem BoxL.grownF {w w' : World} {b : Nat} {vs : List Value} {row : Option Nat} (h : BoxL w b vs) (g : w.grownBy w' row) (hn : row ≠ some b) : BoxL w' b vs :=
  ⟨fun i u e => (World.cell?_of_block (g.block b h.lt (fun q => hn q.symm))).trans (h.c i u e), fun i u e => (World.frozen?_of_block (g.block b h.lt (fun q => hn q.symm))).trans (h.f i u e), Nat.lt_of_lt_of_le h.lt g.size⟩

/-- Drawn readings and where they lie. -/
def RdO (w : World) (e : Ending) (w' : World) : Prop := ∃ (ps : List (Int × Int)) (v : Value), e = .returned v ∧ ps.length ≤ 64 ∧ SlQ w' v ps ∧ ((v = .slice none 0 0 ∧ ps = []) ∨ ∃ g o cap, v = .slice (some ⟨g, o, none⟩) ps.length cap ∧ ps.length ≤ cap) ∧ Below w.heap.size w w'
theorem slO_of {W : World} {B : Nat} {t : TypeId} {v : Value} {ps : List (Int × Int)} (h : W.ownsRow B t 2 v ps.length (pairC ps)) : (v = .slice none 0 0 ∧ ps = []) ∨ ∃ g o cap, v = .slice (some ⟨g, o, none⟩) ps.length cap ∧ ps.length ≤ cap := by
  rcases h.2 with ⟨rfl, h0⟩ | ⟨g, cap, cur, rfl, hB, hh, h4, h5, r⟩
  · exact .inl ⟨rfl, List.length_eq_zero_iff.1 h0⟩
  · exact .inr ⟨g, 0, cap, rfl, by omega⟩
set_option maxRecDepth 100000 in
set_option maxHeartbeats 2000000 in
theorem DrawFitOf_own (w : World) (a : Option Addr) (len cap : Nat) (zs : List Int) (h : IsRow .u8 w a len cap zs) :
    Calls Try.prog 25 #[.slice a len cap] w (RdO w) := by
  go_enter Try.func25, Try.ntmps25
  go_wp2_with fail
  refine (l00From_any w a len cap zs h).mono ?_
  rintro e w1 ⟨rfl, s1, hb⟩
  have S1 := Lib.hid s1
  have L1 := Lib.hid hb
  clear s1 hb h
  generalize hpp : w.heap.size = p at S1 ⊢
  have hwp : w.heap.size ≤ p := by omega
  go_wp2_with fail
  refine (l14Draw_any w1 p a len cap 0 S1.out (by omega)).mono ?_
  rintro e w2 ⟨ps, v, rfl, hl, hs⟩
  have L2 := Lib.hid (below_grown L1.out hs.1.gr hwp)
  have O2 := Lib.hid (slQ_of hs.2)
  have O3 := Lib.hid (slO_of hs.2)
  clear hs L1 S1
  go_wp2_with fail
  go_ret
  exact ⟨ps, v, rfl, hl, O2.out, O3.out, L2.out⟩
set_option maxRecDepth 100000 in
set_option maxHeartbeats 2000000 in
theorem f6fit_same (f : Ft) (w : World) :
    Calls Try.prog 28 #[.agg #[.int .i64 f.n, .int .i64 f.x, .int .i64 f.y, .int .i64 f.xx, .int .i64 f.xy], .agg #[.int .i64 f.n, .int .i64 f.x, .int .i64 f.y, .int .i64 f.xx, .int .i64 f.xy]] w (BoolBel true w) := by
  have h1 : (f.n == f.n) = true := by simp
  have h2 : (f.x == f.x) = true := by simp
  have h3 : (f.y == f.y) = true := by simp
  have h4 : (f.xx == f.xx) = true := by simp
  have h5 : (f.xy == f.xy) = true := by simp
  go_enter Try.func28, Try.ntmps28
  go_wp2_with fail
  go_ret
  exact ⟨rfl, bA (bA (bR _) _) _⟩
/-- A part's sums. -/
theorem fit_takeI {ps : List (Int × Int)} (hok : okRd ps = true) {k : Nat} (hk : k ≤ ps.length) (v : Value) (W : World) (h : SlQ W v (ps.take k)) : Calls Try.prog 26 #[v] W (FtC (fitL (ps.take k)) 0 W) := by
  have := FitOfI_any (ps.take k) v W h (by have := okRd_len hok; rw [List.length_take]; omega)
  rw [ftE_0 (okRd_take hok hk)] at this
  exact this
theorem fit_dropI {ps : List (Int × Int)} (hok : okRd ps = true) {k : Nat} (hk : k ≤ ps.length) (v : Value) (W : World) (h : SlQ W v (ps.drop k)) : Calls Try.prog 26 #[v] W (FtC (fitL (ps.drop k)) 0 W) := by
  have := FitOfI_any (ps.drop k) v W h (by have := okRd_len hok; rw [List.length_drop]; omega)
  rw [ftE_0 (okRd_drop hok hk)] at this
  exact this
theorem add_partsI {ps : List (Int × Int)} (hok : okRd ps = true) {k : Nat} (hk : k ≤ ps.length) (W : World) (f q : Ft) (hf : fitL (ps.take k) = f) (hq : fitL (ps.drop k) = q) : Calls Try.prog 33 #[.agg #[.int .i64 f.n, .int .i64 f.x, .int .i64 f.y, .int .i64 f.xx, .int .i64 f.xy], .agg #[.int .i64 q.n, .int .i64 q.x, .int .i64 q.y, .int .i64 q.xx, .int .i64 q.xy]] W (FtC (fitL ps) 0 W) := by
  have := AddFitsI_any f q W
  rw [← hf, ← hq, fits_add hok hk] at this
  rw [← hf, ← hq]
  exact this
theorem validfit_yes {f : Ft} (h : okFt f = true) (W : World) : Calls Try.prog 34 #[.agg #[.int .i64 f.n, .int .i64 f.x, .int .i64 f.y, .int .i64 f.xx, .int .i64 f.xy]] W (BoolBel true W) := by
  have := ValidFitI_any f.n f.x f.y f.xx f.xy W
  rw [show okFt ⟨f.n, f.x, f.y, f.xx, f.xy⟩ = true from h] at this
  exact this
set_option maxRecDepth 100000 in
set_option maxHeartbeats 16000000 in
theorem FnFits_walk (a : Option Addr) (len cap : Nat) (zs : List Int) (w : World) (h : IsRow .u8 w a len cap zs) :
    Calls Try.prog 6 #[.slice a len cap] w fun e w' => e = .returned (.bool true) ∧ Below w.heap.size w w' := by
  have l1 := (row_of h).1
  unfold maxLen at l1
  have HA := Lib.hid h
  clear h
  by_cases hl : 4096 < len
  · have hd : decide (4096 < (len : Int)) = true := decide_eq_true (by omega)
    go_enter Try.func6, Try.ntmps6
    go_wp2_with fail
    refine (f6bigR_any _ _ _ _ (by omega)).mono ?_
    rw [hd]
    rintro e w1 ⟨rfl, rfl⟩
    go_wp2_with fail
    go_ret
    exact ⟨rfl, bR _⟩
  have hd : decide (4096 < (len : Int)) = false := decide_eq_false (by omega)
  go_enter Try.func6, Try.ntmps6
  go_wp2_with fail
  refine (f6bigR_any _ _ _ _ (by omega)).mono ?_
  rw [hd]
  rintro e w1 ⟨rfl, rfl⟩
  clear hd hl l1
  go_wp2_with fail
  refine (DrawFitOf_own w a len cap zs HA.out).mono ?_
  rintro e w1 ⟨ps, v, rfl, hps, hs, ho, hb⟩
  have L1 := Lib.hid hb
  have V1 := Lib.hid hs
  have O1 := Lib.hid ho
  have hmax : ps.length ≤ 1000000000000 := by omega
  obtain ⟨ao, cp, rfl, hcp, _⟩ := id hs
  generalize hv : Value.slice ao ps.length cp = v at *
  have HV := Lib.hid hv.symm
  clear hv
  have CI := Lib.hid (fun W (h : SlQ W v ps) => FitOfI_any ps v W h hmax)
  have CS := Lib.hid (fun W (h : SlQ W v ps) => FitOfS_any ps v W h hmax)
  have CVI := Lib.hid (fun W (h : SlQ W v ps) => ValidReadingsI_any ps v W h hmax)
  have CVS := Lib.hid (fun W (h : SlQ W v ps) => ValidReadingsS_any ps v W h hmax)
  clear hb hs hmax ho
  cases hok : okRd ps
  · rw [ftE_1 hok] at CI CS
    rw [hok] at CVI CVS
    simp only at CI CS
    clear O1
    go_wp2_with fail
    refine (CI.out _ V1.out).mono ?_
    rintro e w2 ⟨rfl, hb⟩
    have V2 := Lib.hid ((V1.out.keep hb).keep (bA (bR _) (.cells #[.int .i64 0, .int .i64 0, .int .i64 0, .int .i64 0, .int .i64 0] 41)))
    have L2 := Lib.hid (bA (bT L1.out hb) (.cells #[.int .i64 0, .int .i64 0, .int .i64 0, .int .i64 0, .int .i64 0] 41))
    have X2 := Lib.hid (BoxL.new w2 [.int .i64 0, .int .i64 0, .int .i64 0, .int .i64 0, .int .i64 0] 41)
    clear hb V1 L1
    go_wp2_with fail
    generalize w2.alloc (.cells #[.int .i64 0, .int .i64 0, .int .i64 0, .int .i64 0, .int .i64 0] 41) = w2' at *
    generalize w2.heap.size = b4 at *
    refine (CS.out _ V2.out).mono ?_
    rintro e w3 ⟨rfl, hb⟩
    have V3 := Lib.hid ((V2.out.keep hb).keep (bA (bR _) (.cells #[.int .i64 0, .int .i64 0, .int .i64 0, .int .i64 0, .int .i64 0] 41)))
    have L3 := Lib.hid (bA (bT L2.out hb) (.cells #[.int .i64 0, .int .i64 0, .int .i64 0, .int .i64 0, .int .i64 0] 41))
    have X3 := Lib.hid ((X2.out.keep hb).keep (bA (bR _) (.cells #[.int .i64 0, .int .i64 0, .int .i64 0, .int .i64 0, .int .i64 0] 41)))
    have Y3 := Lib.hid (BoxL.new w3 [.int .i64 0, .int .i64 0, .int .i64 0, .int .i64 0, .int .i64 0] 41)
    clear hb V2 L2 X2
    obtain ⟨c0, c1, c2, c3, c4, c5⟩ := X3.out.c5
    obtain ⟨d0, d1, d2, d3, d4, d5⟩ := Y3.out.c5
    go_wp2_with fail
    refine (f6fit_same ⟨0, 0, 0, 0, 0⟩ _).mono ?_
    rintro e w4 ⟨rfl, hb⟩
    have V4 := Lib.hid (V3.out.keep hb)
    have L4 := Lib.hid (bT L3.out hb)
    clear hb V3 L3 X3 Y3 c0 c1 c2 c3 c4 c5 d0 d1 d2 d3 d4 d5
    go_wp2_with fail
    refine (CVI.out _ V4.out).mono ?_
    rintro e w5 ⟨rfl, hb⟩
    have V5 := Lib.hid (V4.out.keep hb)
    have L5 := Lib.hid (bT L4.out hb)
    clear hb V4 L4
    go_wp2_with fail
    refine (CVS.out _ V5.out).mono ?_
    rintro e w6 ⟨rfl, hb⟩
    have L6 := Lib.hid (bT L5.out hb)
    clear hb V5 L5
    go_wp2_with fail
    go_ret
    exact ⟨rfl, L6.out⟩
  rw [ftE_0 hok] at CI CS
  rw [hok] at CVI CVS
  simp only at CI CS
  have HOK := Lib.hid hok
  have hl60 := okRd_len hok
  have HLW := Lib.hid (fun t hr => fits_law hok t hr)
  unfold FtLaw at HLW
  have CG := Lib.hid (fun v t W (h : SlQ W v (mvL ps t ps.length)) => FitOfI_any (mvL ps t ps.length) v W h (by rw [mvL_len]; omega))
  have CT := Lib.hid (fun k (hk : k ≤ ps.length) => fit_takeI hok hk)
  have CD := Lib.hid (fun k (hk : k ≤ ps.length) => fit_dropI hok hk)
  have CA := Lib.hid (fun k (hk : k ≤ ps.length) => add_partsI hok hk)
  have CF := Lib.hid (fun W => validfit_yes (fit_okR hok) W)
  clear hok
  generalize hfl : fitL ps = f at *
  clear hfl
  go_wp2_with fail
  refine (CI.out _ V1.out).mono ?_
  rintro e w2 ⟨rfl, hb⟩
  have V2 := Lib.hid ((V1.out.keep hb).keep (bA (bR _) (.cells #[.int .i64 f.n, .int .i64 f.x, .int .i64 f.y, .int .i64 f.xx, .int .i64 f.xy] 41)))
  have L2 := Lib.hid (bA (bT L1.out hb) (.cells #[.int .i64 f.n, .int .i64 f.x, .int .i64 f.y, .int .i64 f.xx, .int .i64 f.xy] 41))
  have X2 := Lib.hid (BoxL.new w2 [.int .i64 f.n, .int .i64 f.x, .int .i64 f.y, .int .i64 f.xx, .int .i64 f.xy] 41)
  clear hb V1 L1
  go_wp2_with fail
  generalize w2.alloc (.cells #[.int .i64 f.n, .int .i64 f.x, .int .i64 f.y, .int .i64 f.xx, .int .i64 f.xy] 41) = w2' at *
  generalize w2.heap.size = b4 at *
  refine (CS.out _ V2.out).mono ?_
  rintro e w3 ⟨rfl, hb⟩
  have V3 := Lib.hid ((V2.out.keep hb).keep (bA (bR _) (.cells #[.int .i64 f.n, .int .i64 f.x, .int .i64 f.y, .int .i64 f.xx, .int .i64 f.xy] 41)))
  have L3 := Lib.hid (bA (bT L2.out hb) (.cells #[.int .i64 f.n, .int .i64 f.x, .int .i64 f.y, .int .i64 f.xx, .int .i64 f.xy] 41))
  have X3 := Lib.hid ((X2.out.keep hb).keep (bA (bR _) (.cells #[.int .i64 f.n, .int .i64 f.x, .int .i64 f.y, .int .i64 f.xx, .int .i64 f.xy] 41)))
  have Y3 := Lib.hid (BoxL.new w3 [.int .i64 f.n, .int .i64 f.x, .int .i64 f.y, .int .i64 f.xx, .int .i64 f.xy] 41)
  clear hb V2 L2 X2
  obtain ⟨c0, c1, c2, c3, c4, c5⟩ := X3.out.c5
  obtain ⟨d0, d1, d2, d3, d4, d5⟩ := Y3.out.c5
  go_wp2_with fail
  refine (f6fit_same f _).mono ?_
  rintro e w4 ⟨rfl, hb⟩
  have V4 := Lib.hid (V3.out.keep hb)
  have L4 := Lib.hid (bT L3.out hb)
  have X4 := Lib.hid (X3.out.keep hb)
  clear hb V3 L3 X3 Y3 c0 c1 c2 c3 c4 c5 d0 d1 d2 d3 d4 d5
  go_wp2_with fail
  refine (CVI.out _ V4.out).mono ?_
  rintro e w5 ⟨rfl, hb⟩
  have V5 := Lib.hid (V4.out.keep hb)
  have L5 := Lib.hid (bT L4.out hb)
  have X5 := Lib.hid (X4.out.keep hb)
  clear hb V4 L4 X4
  go_wp2_with fail
  refine (CVS.out _ V5.out).mono ?_
  rintro e w6 ⟨rfl, hb⟩
  have V6 := Lib.hid (V5.out.keep hb)
  have L6 := Lib.hid (bT L5.out hb)
  have X6 := Lib.hid (X5.out.keep hb)
  clear hb V5 L5 X5 CI CS CVI CVS
  go_wp2_with fail
  refine (f6roll_any _ a len cap zs 1401 (IsRow.keep HA.out L6.out)).mono ?_
  rintro e w7 ⟨rfl, s1, hb⟩
  have S7 := Lib.hid s1
  have hp6 := L6.out.size
  have HP := Lib.hid hb
  clear s1 hb
  generalize hp : w6.heap.size = p at S7 HP hp6 ⊢
  have LP7 := Lib.hid HP.out
  clear HP
  have VK := Lib.hid (fun (x : World) (hb : Below p w6 x) => V6.out.keep (by rw [hp]; exact hb))
  have XK := Lib.hid (fun (x : World) (hb : Below p w6 x) => X6.out.keep (by rw [hp]; exact hb))
  have LK := Lib.hid (fun (x : World) (hb : Below p w6 x) => bT L6.out (by rw [hp]; exact hb))
  have TK := Lib.hid (fun (x y : World) (h1 : Below p w6 x) (h2 : Below x.heap.size x y) => show Below p w6 y from by
    rw [← hp] at h1 ⊢
    exact bT h1 h2)
  have GK := Lib.hid (fun (x y : World) (hb : Below p w6 x) (g : x.grownBy y (some p)) => show Below p w6 y from by
    have := below_grown (w := w6) (p := p) (by rw [hp]; exact hb) g (by omega)
    rw [hp] at this
    exact this)
  clear V6 X6 L6
  have hln : 0 ≤ (ps.length : Int) := by omega
  have hv := HV.out
  subst hv
  clear HV
  go_wp2_with fail
  refine (below_any _ p a len cap _ ((ps.length : Int) + 1) S7.out (by omega) (by omega) (by omega)).mono ?_
  rintro e w8 ⟨j, j0, j1, rfl, s1, g1⟩
  have S8 := Lib.hid s1
  have LP8 := Lib.hid (GK.out _ _ LP7.out g1)
  clear s1 g1 S7 LP7
  obtain ⟨k, rfl⟩ : ∃ k : Nat, j = (k : Int) := ⟨j.toNat, by omega⟩
  have hk : k ≤ ps.length := by omega
  have CTk := CT.out k hk
  have CDk := CD.out k hk
  have CAk := CA.out k hk
  generalize hfa : fitL (ps.take k) = fa at CTk CAk
  generalize hfb : fitL (ps.drop k) = fb at CDk CAk
  have CTk := Lib.hid CTk
  have CDk := Lib.hid CDk
  have CAk := Lib.hid (fun W => CAk W fa fb rfl rfl)
  clear CT CD CA hfa hfb
  clear ‹∀ (W : World) (f q : Ft), _›
  clear j0 j1
  go_upto_region 12 with fail
  go_cut [10, 11] (fun s10 s11 wx => ∃ kk : Nat, s10 = .pointer (some ⟨kk, 0, none⟩) ∧ s11 = .int .i64 0 ∧ BoxL wx kk [.int .i64 fa.n, .int .i64 fa.x, .int .i64 fa.y, .int .i64 fa.xx, .int .i64 fa.xy] ∧ Below w8.heap.size w8 wx)
  case first =>
    have VV := VK.out _ LP8.out
    rcases O1.out with ⟨e, rfl⟩ | ⟨g, o, c2, e, hc2⟩
    · cases e
      obtain rfl : k = 0 := by simpa using hk
      have VT := Lib.hid (show SlQ w8 (.slice none 0 0) (([] : List (Int × Int)).take 0) from ⟨none, 0, rfl, by simp, by simp⟩)
      go_wp2_with fail
      refine (CTk.out _ _ VT.out).mono ?_
      rintro e w9 ⟨rfl, hb⟩
      go_wp2_with fail
      go_meet
      exact ⟨_, rfl, rfl, BoxL.new w9 [.int .i64 fa.n, .int .i64 fa.x, .int .i64 fa.y, .int .i64 fa.xx, .int .i64 fa.xy] _, bA hb _⟩
    · cases e
      have VT := Lib.hid (VV.take (j := k) hk)
      go_wp2_with fail
      refine (CTk.out _ _ VT.out).mono ?_
      rintro e w9 ⟨rfl, hb⟩
      go_wp2_with fail
      go_meet
      exact ⟨_, rfl, rfl, BoxL.new w9 [.int .i64 fa.n, .int .i64 fa.x, .int .i64 fa.y, .int .i64 fa.xx, .int .i64 fa.xy] _, bA hb _⟩
  case rest =>
    obtain ⟨ka, rfl, rfl, hX, hB⟩ := hcut
    have XA := Lib.hid hX
    have S9 := Lib.hid (S8.out.keep hB)
    have LP9 := Lib.hid (TK.out _ _ LP8.out hB)
    clear hX hB S8 LP8 CTk
    generalize wc = w9 at *
    go_upto_region 13 with fail
    go_cut [12, 13] (fun s12 s13 wx => ∃ kk : Nat, s12 = .pointer (some ⟨kk, 0, none⟩) ∧ s13 = .int .i64 0 ∧ BoxL wx kk [.int .i64 fb.n, .int .i64 fb.x, .int .i64 fb.y, .int .i64 fb.xx, .int .i64 fb.xy] ∧ Below w9.heap.size w9 wx)
    case first =>
      have VV := VK.out _ LP9.out
      rcases O1.out with ⟨e, rfl⟩ | ⟨g, o, c2, e, hc2⟩
      · cases e
        obtain rfl : k = 0 := by simpa using hk
        have VT := Lib.hid (show SlQ w9 (.slice none 0 0) (([] : List (Int × Int)).drop 0) from ⟨none, 0, rfl, by simp, by simp⟩)
        go_wp2_with fail
        refine (CDk.out _ _ VT.out).mono ?_
        rintro e w9' ⟨rfl, hb⟩
        go_wp2_with fail
        go_meet
        exact ⟨_, rfl, rfl, BoxL.new w9' [.int .i64 fb.n, .int .i64 fb.x, .int .i64 fb.y, .int .i64 fb.xx, .int .i64 fb.xy] _, bA hb _⟩
      · cases e
        by_cases hk2 : k < ps.length
        · have VT := Lib.hid (VV.drop (j := k) hk2)
          have hcj : ¬ cp = k := by omega
          go_wp2_with fail
          refine (CDk.out _ _ VT.out).mono ?_
          rintro e w9' ⟨rfl, hb⟩
          go_wp2_with fail
          go_meet
          exact ⟨_, rfl, rfl, BoxL.new w9' [.int .i64 fb.n, .int .i64 fb.x, .int .i64 fb.y, .int .i64 fb.xx, .int .i64 fb.xy] _, bA hb _⟩
        · obtain rfl : k = ps.length := by omega
          by_cases hcj : cp = ps.length
          · subst hcj
            go_wp2_with fail
            refine (CDk.out _ _ (by rw [List.drop_length]; refine ⟨_, _, by first | rfl | (simp; rfl), Nat.zero_le _, by simp⟩)).mono ?_
            rintro e w9' ⟨rfl, hb⟩
            go_wp2_with fail
            go_meet
            exact ⟨_, rfl, rfl, BoxL.new w9' [.int .i64 fb.n, .int .i64 fb.x, .int .i64 fb.y, .int .i64 fb.xx, .int .i64 fb.xy] _, bA hb _⟩
          · skip
            go_wp2_with fail
            refine (CDk.out _ _ (by rw [List.drop_length]; refine ⟨_, _, by first | rfl | (simp; rfl), Nat.zero_le _, by simp⟩)).mono ?_
            rintro e w9' ⟨rfl, hb⟩
            go_wp2_with fail
            go_meet
            exact ⟨_, rfl, rfl, BoxL.new w9' [.int .i64 fb.n, .int .i64 fb.x, .int .i64 fb.y, .int .i64 fb.xx, .int .i64 fb.xy] _, bA hb _⟩
    case rest =>
      obtain ⟨kb, rfl, rfl, hX, hB⟩ := hcut
      have XB := Lib.hid hX
      have XA2 := Lib.hid (XA.out.keep hB)
      have S10 := Lib.hid (S9.out.keep hB)
      have LP10 := Lib.hid (TK.out _ _ LP9.out hB)
      clear hX hB S9 LP9 CDk XA hk
      generalize wc = w10 at *
      obtain ⟨c0, c1, c2, c3, c4, c5⟩ := XA2.out.c5
      obtain ⟨d0, d1, d2, d3, d4, d5⟩ := XB.out.c5
      go_wp2_with fail
      refine (CAk.out _).mono ?_
      rintro e w11 ⟨rfl, hb⟩
      have XC := Lib.hid (BoxL.new w11 [.int .i64 f.n, .int .i64 f.x, .int .i64 f.y, .int .i64 f.xx, .int .i64 f.xy] 41)
      have S11 := Lib.hid ((S10.out.keep hb).keep (bA (bR _) (.cells #[.int .i64 f.n, .int .i64 f.x, .int .i64 f.y, .int .i64 f.xx, .int .i64 f.xy] 41)))
      have LP11 := Lib.hid (TK.out _ _ (TK.out _ _ LP10.out hb) (bA (bR _) (.cells #[.int .i64 f.n, .int .i64 f.x, .int .i64 f.y, .int .i64 f.xx, .int .i64 f.xy] 41)))
      clear hb S10 LP10 XA2 XB CAk c0 c1 c2 c3 c4 c5 d0 d1 d2 d3 d4 d5
      obtain ⟨c0, c1, c2, c3, c4, c5⟩ := XC.out.c5
      obtain ⟨d0, d1, d2, d3, d4, d5⟩ := (XK.out _ LP11.out).c5
      go_wp2_with fail
      refine (f6fit_same f _).mono ?_
      rintro e w12 ⟨rfl, hb⟩
      have S12 := Lib.hid (S11.out.keep hb)
      have LP12 := Lib.hid (TK.out _ _ LP11.out hb)
      clear hb S11 LP11 XC c0 c1 c2 c3 c4 c5 d0 d1 d2 d3 d4 d5
      obtain ⟨d0, d1, d2, d3, d4, d5⟩ := (XK.out _ LP12.out).c5
      go_wp2_with fail
      refine (CF.out _).mono ?_
      rintro e w13 ⟨rfl, hb⟩
      have S13 := Lib.hid (S12.out.keep hb)
      have LP13 := Lib.hid (TK.out _ _ LP12.out hb)
      clear hb S12 LP12 CF d0 d1 d2 d3 d4 d5
      go_wp2_with fail
      refine (below_any _ p a len cap _ 500 S13.out (by omega) (by omega) (by omega)).mono ?_
      rintro e w14 ⟨t, t0, t1, rfl, s1, g1⟩
      have S14 := Lib.hid s1
      have LP14 := Lib.hid (GK.out _ _ LP13.out g1)
      clear s1 g1 S13 LP13
      have V14 := VK.out _ LP14.out
      obtain ⟨ao', c', e, _, h1⟩ := V14
      cases e
      have HL1 := Lib.hid h1
      have R15 := Lib.hid (row0p w14 53)
      have B15 := Lib.hid (bA (bR w14) (.cells #[] 53))
      clear h1 O1 VK
      have hps60 := hl60
      have HB := Lib.hid (fun i (hi : i < ps.length) => okRd_at HOK.out hi)
      obtain ⟨i0, hi, hz0, hz1, hz2⟩ := info_parts infoReading
      go_wp2_with fail
      generalize w14.alloc (.cells #[] 53) = w15 at *
      go_loopw [17, 18] (fun vo vi wr => ∃ i : Nat, i ≤ ps.length ∧ vi = .int .i64 i ∧ wr.ownsRow w14.heap.size 53 2 vo (mvL ps t i).length (pairC (mvL ps t i)) ∧ Below w14.heap.size w14 wr) (fun _ vi _ => ps.length - (intOf vi).toNat)
      case atStart => exact ⟨0, Nat.zero_le _, rfl, R15.out, B15.out⟩
      case round =>
        obtain ⟨i, hile, rfl, hrow, hbel⟩ := hrel
        have RW := Lib.hid hrow
        have BL := Lib.hid hbel
        have HOB := Lib.hid (own_blk hrow)
        clear hrow R15 B15
        by_cases hlt : i < ps.length
        · obtain ⟨g, o, rfl, hg, hc⟩ := HL1.out (by omega)
          have HC := hc.keep hg hbel
          obtain ⟨c1, c2⟩ := HC i hlt
          have w2 : IntKind.i64.wrap (i : Int) = (i : Int) := IntWalk.i64_in _ (by omega)
          have bj := HB.out i hlt
          have HT := Lib.hid (mvL_succ ps t i)
          have hol : (mvL ps t i).length ≤ 60 := by rw [mvL_len]; omega
          have hgw : g < wr.heap.size := Nat.lt_of_lt_of_le hg hbel.size
          have hwr := hbel.size
          clear hc HC HB hbel HL1 HLW CG XK LK GK TK LP14 S14 HA HOK
          generalize (pat ps i).1 = x at *
          generalize (pat ps i).2 = y at *
          have w4 : IntKind.i64.wrap (y + t) = y + t := IntWalk.i64_in _ (by omega)
          clear bj
          generalize mvL ps t i = out at *
          go_wp2_with fail
          go_region_law (refine step_append_lies _ (by rfl) _ _ 27 (by rfl) w14.heap.size 53 i0 (.agg #[.int .i64 0, .int .i64 0]) 2 16 Try.underlying27 hi hz0 hz1 hz2 (by rfl) (by decide) _ out.length (pairC out) (by rfl) ((own_heapR (W' := wr.drew) RW.out rfl).alloc _) ⟨wr.heap.size, 0, none⟩ 1 1 [.int .i64 x, .int .i64 (y + t)] (by rfl) (by rfl) (row_srcR _ _ _ _ _ (by rfl)) (by intro u hu; simp at hu; rcases hu with rfl | rfl <;> rfl) (by omega) (by unfold maxLen; omega) (by omega) (by simp; omega) _ (by rfl) ?_; intro g' cap' w5 hown5 hg5 hat5 hlt5; have N5 := Lib.hid hown5; have G5 := Lib.hid hg5; clear hown5 hg5 hat5 hlt5)
          all_goals go_wp2_with fail
          all_goals exact ⟨⟨i + 1, by omega, by go_num, by rw [HT.out, pairC_snoc, List.length_append]; exact N5.out, bel_grownR (bA BL.out.drew _) G5.out (by simp; omega) (fun r e => (HOB.out r e).1)⟩, by simp [intOf]; omega⟩
        · obtain rfl : i = ps.length := by omega
          have CM := Lib.hid (fun v W h => CG.out v t W h)
          have HL := Lib.hid (fun hr => HLW.out t hr)
          have VM := Lib.hid (slQ_of RW.out)
          have S16 := Lib.hid (S14.out.keep BL.out)
          have LP16 := Lib.hid (TK.out _ _ LP14.out BL.out)
          clear CG HLW RW HOB BL S14 LP14 HL1 HB hbel HOK
          generalize hM : mvL ps t ps.length = M at CM HL VM
          clear hM
          generalize ftE M = R at *
          obtain ⟨q, c⟩ := R
          simp only at CM HL
          go_wp2_with fail
          refine (CM.out _ _ VM.out).mono ?_
          rintro e w17 ⟨rfl, hb⟩
          have S17 := Lib.hid ((S16.out.keep hb).keep (bA (bR _) (.cells #[.int .i64 q.n, .int .i64 q.x, .int .i64 q.y, .int .i64 q.xx, .int .i64 q.xy] 41)))
          have LP17 := Lib.hid (TK.out _ _ (TK.out _ _ LP16.out hb) (bA (bR _) (.cells #[.int .i64 q.n, .int .i64 q.x, .int .i64 q.y, .int .i64 q.xx, .int .i64 q.xy] 41)))
          have X17 := Lib.hid (BoxL.new w17 [.int .i64 q.n, .int .i64 q.x, .int .i64 q.y, .int .i64 q.xx, .int .i64 q.xy] 41)
          have hpq : p < w17.heap.size := (S16.out.keep hb).lt
          clear hb S16 LP16 VM CM
          go_wp2_with fail
          refine (below_any _ p a len cap _ 10001 S17.out (by omega) (by omega) (by omega)).mono ?_
          rintro e w18 ⟨hr, r0, r1, rfl, s1, g1⟩
          have LP18 := Lib.hid (GK.out _ _ LP17.out g1)
          have X18 := Lib.hid (X17.out.grownF g1 (by simp; omega))
          clear s1 g1 S17 LP17 X17
          generalize w17.heap.size = bq at *
          have HL := HL.out hr
          have hbd := oaE_bd f hr
          have CO1 := Lib.hid (fun W => OffAtI_any f hr W)
          have CO2 := Lib.hid (fun W => OffAtI_any q hr W)
          have CR1 := Lib.hid (fun W => DailyRateI_any f W)
          have CR2 := Lib.hid (fun W => DailyRateI_any q W)
          generalize oaE f hr = oa at *
          generalize oaE q hr = ob at *
          generalize drE f = da at *
          generalize drE q = db at *
          obtain ⟨x1, k5⟩ := oa
          obtain ⟨y1, k6⟩ := ob
          obtain ⟨z1, k7⟩ := da
          obtain ⟨v1, k8⟩ := db
          simp only at HL hbd CO1 CO2 CR1 CR2
          have hw : IntKind.i64.wrap (x1 + t) = x1 + t := IntWalk.i64_in _ (by omega)
          have HQ := Lib.hid HL
          clear HL hbd
          obtain ⟨c0, c1, c2, c3, c4, c5⟩ := (XK.out _ LP18.out).c5
          go_wp2_with fail
          refine (CO1.out _).mono ?_
          rintro e w19 ⟨rfl, hb⟩
          have LP19 := Lib.hid (TK.out _ _ LP18.out hb)
          have X19 := Lib.hid (X18.out.keep hb)
          clear hb LP18 X18 c0 c1 c2 c3 c4 c5
          obtain ⟨c0, c1, c2, c3, c4, c5⟩ := X19.out.c5
          go_wp2_with fail
          refine (CO2.out _).mono ?_
          rintro e w20 ⟨rfl, hb⟩
          have LP20 := Lib.hid (TK.out _ _ LP19.out hb)
          have X20 := Lib.hid (X19.out.keep hb)
          clear hb LP19 X19 c0 c1 c2 c3 c4 c5
          obtain ⟨c0, c1, c2, c3, c4, c5⟩ := (XK.out _ LP20.out).c5
          go_wp2_with fail
          refine (CR1.out _).mono ?_
          rintro e w21 ⟨rfl, hb⟩
          have LP21 := Lib.hid (TK.out _ _ LP20.out hb)
          have X21 := Lib.hid (X20.out.keep hb)
          clear hb LP20 X20 c0 c1 c2 c3 c4 c5
          obtain ⟨c0, c1, c2, c3, c4, c5⟩ := X21.out.c5
          go_wp2_with fail
          refine (CR2.out _).mono ?_
          rintro e w22 ⟨rfl, hb⟩
          have LP22 := Lib.hid (TK.out _ _ LP21.out hb)
          clear hb LP21 X21 c0 c1 c2 c3 c4 c5 CO1 CO2 CR1 CR2
          rcases HQ.out with h0 | ⟨h0, h2, h3, h4 | ⟨h4, h6⟩⟩
          · clear HQ
            go_wp2_with fail
            go_ret
            exact ⟨rfl, LK.out _ LP22.out⟩
          · clear HQ
            cases h2
            subst h3
            have e1 : (k6 == k6) = true := by simp
            have e2 : (k7 == k7) = true := by simp
            have e3 : (z1 == z1) = true := by simp
            go_wp2_with fail
            go_ret
            exact ⟨rfl, LK.out _ LP22.out⟩
          · clear HQ
            cases h2
            subst h3
            subst h6
            have e1 : (k6 == k6) = true := by simp
            have e2 : (k7 == k7) = true := by simp
            have e3 : (z1 == z1) = true := by simp
            have e4 : (x1 + t == x1 + t) = true := by simp
            go_wp2_with fail
            go_ret
            exact ⟨rfl, LK.out _ LP22.out⟩
end Go.Proofs.Ytmmmbchlkjljaaa

/-
  The draw of readings: spec.l14Draw.
  Drawn readings for the laws; laws.f6same.
  Drawn sums of readings: spec.l14DrawFit, spec.DrawOffAt.
  Readings that lie on a line: their fitted line is this line; the plain words.
  The walk of laws.FnFittedLines.
-/
import Derived.Test.YtmmmbchlkjljaaaDrawT
import Derived.Test.YtmmmbchlkjljaaaAd
import Derived.Test.YtmmmbchlkjljaaaRgR
import Derived.Test.YtmmmbchlkjljaaaRoll
import Derived.Test.YtmmmbchlkjljaaaEq64
import Derived.Test.YtmmmbchlkjljaaaRgT
import Derived.Test.YtmmmbchlkjljaaaRgL
import Derived.Test.YtmmmbchlkjljaaaRgD
import Derived.Deep.AppendLies
import Derived.Deep.RegionLaw
namespace Go.Proofs.Ytmmmbchlkjljaaa
open Go.RowKit

/-- A source and a row of readings of one's own. -/
def RdS (w : World) (p : Nat) (a : Option Addr) (len cap c : Nat) (ps : List (Int × Int)) (vo : Value) (W : World) : Prop :=
  DS w p a len cap c W ∧ W.ownsRow w.heap.size 53 2 vo ps.length (pairC ps)
theorem RdS.step {w : World} {p : Nat} {a : Option Addr} {len cap c d : Nat} {ps : List (Int × Int)} {vo : Value} {W x : World} (h : RdS w p a len cap c ps vo W) (s : SrcAt x p a len cap d) (g : W.grownBy x (some p)) : RdS w p a len cap d ps vo x :=
  ⟨h.1.step s g, own_grown h.2 g h.1.pl⟩
theorem RdS.keep {w : World} {p : Nat} {a : Option Addr} {len cap c : Nat} {ps : List (Int × Int)} {vo : Value} {W x : World} (h : RdS w p a len cap c ps vo W) (hb : Below W.heap.size W x) : RdS w p a len cap c ps vo x := ⟨h.1.keep hb, own_keep h.2 hb⟩
theorem RdS.alloc {w : World} {p : Nat} {a : Option Addr} {len cap c : Nat} {ps : List (Int × Int)} {vo : Value} {W : World} (h : RdS w p a len cap c ps vo W) (ob : Obj) : RdS w p a len cap c ps vo (W.alloc ob) := h.keep (bA (bR _) _)
theorem RdS.mono {w : World} {p : Nat} {a : Option Addr} {len cap c d : Nat} {ps : List (Int × Int)} {vo : Value} {W : World} (h : RdS w p a len cap c ps vo W) (hd : c ≤ d) : RdS w p a len cap d ps vo W := ⟨h.1.mono hd, h.2⟩
theorem Apd.gr {v v' : Value} {w w' : World} (h : Apd v v' w w') : w.grownBy w' v.ownBlock := ⟨h.os, h.tape, h.output, h.size, fun k hk hn => h.blk k hk (fun e => hn e.symm)⟩
theorem DS.grow {w : World} {p : Nat} {a : Option Addr} {len cap c : Nat} {w' x : World} {row : Option Nat} (h : DS w p a len cap c w') (g : w'.grownBy x row) (hr : ∀ r, row = some r → w.heap.size ≤ r) : DS w p a len cap c x :=
  ⟨h.src.grown g (fun e => by have := hr p e; have := h.pl; omega) (fun hl xb xo e e2 => by have := hr xb e2; have := h.old hl xb xo e; omega), gGrown h.gr g hr, h.old, h.pl⟩
theorem RdS.app {w : World} {p : Nat} {a : Option Addr} {len cap c : Nat} {ps : List (Int × Int)} {vo v' : Value} {W x : World} {q : Int × Int} (h : RdS w p a len cap c ps vo W) (ho : x.ownsRow w.heap.size 53 2 v' (ps ++ [q]).length (pairC (ps ++ [q]))) (hap : Apd vo v' W x) : RdS w p a len cap c (ps ++ [q]) v' x :=
  ⟨h.1.grow hap.gr (fun r e => (own_blk h.2 r e).1), ho⟩
theorem RdS.size {w : World} {p : Nat} {a : Option Addr} {len cap c : Nat} {ps : List (Int × Int)} {vo : Value} {W : World} (h : RdS w p a len cap c ps vo W) : w.heap.size ≤ W.heap.size := h.1.gr.size
theorem RdS.nil {w : World} {p : Nat} {a : Option Addr} {len cap c : Nat} {ps : List (Int × Int)} {vo : Value} {W : World} (h : RdS w p a len cap c ps vo W) : RdS w p a len cap c [] (.slice none 0 0) W := ⟨h.1, World.ownsRow_nil _ _ _ _⟩
theorem RdS.set1 {w : World} {p : Nat} {a : Option Addr} {len cap c g cp i : Nat} {ps : List (Int × Int)} {W : World} {z : Int} (h : RdS w p a len cap c ps (.slice (some ⟨g, 0, none⟩) ps.length cp) W) (hi : i < ps.length) : RdS w p a len cap c (ps.set i (z, (pat ps i).2)) (.slice (some ⟨g, 0, none⟩) ps.length cp) (W.setCell ⟨g, i * 2, none⟩ (.int .i64 z)) := by
  refine ⟨h.1.set (own_blk h.2 g rfl).1, ?_⟩
  rw [List.length_set, pairC_set1 ps i z hi]
  exact (h.2.stored (i * 2) (.int .i64 z)).1
theorem RdS.set2 {w : World} {p : Nat} {a : Option Addr} {len cap c g cp i : Nat} {ps : List (Int × Int)} {W : World} {z : Int} (h : RdS w p a len cap c ps (.slice (some ⟨g, 0, none⟩) ps.length cp) W) (hi : i < ps.length) : RdS w p a len cap c (ps.set i ((pat ps i).1, z)) (.slice (some ⟨g, 0, none⟩) ps.length cp) (W.setCell ⟨g, i * 2 + 1, none⟩ (.int .i64 z)) := by
  refine ⟨h.1.set (own_blk h.2 g rfl).1, ?_⟩
  rw [List.length_set, pairC_set2 ps i z hi]
  exact (h.2.stored (i * 2 + 1) (.int .i64 z)).1
theorem pick_small (w : World) (p : Nat) (n : Int) (h : n ≤ 1) :
    Calls Try.prog 73 #[.pointer (some ⟨p, 0, none⟩), .int .i64 n] w fun e w' => e = .returned (.int .i64 0) ∧ w = w' := by
  go_enter Try.func73, Try.ntmps73
  go_wp2_with fail
  go_ret
  exact ⟨rfl, rfl⟩
theorem pickN_any (w : World) (p : Nat) (a : Option Addr) (len cap c n : Nat) (h : SrcAt w p a len cap c) (hc : c ≤ 900000) (h2 : n ≤ 1000) :
    Calls Try.prog 73 #[.pointer (some ⟨p, 0, none⟩), .int .i64 (n : Int)] w fun e w' => ∃ x : Int, 0 ≤ x ∧ (x < n ∨ x = 0) ∧ e = .returned (.int .i64 x) ∧ SrcAt w' p a len cap (c + 2) ∧ w.grownBy w' (some p) := by
  by_cases hn : 1 ≤ n
  · refine (pick_any w p a len cap c (n : Int) h hc (by omega) (by omega)).mono ?_
    rintro e w' ⟨x, x0, x1, rfl, s, g⟩
    exact ⟨x, x0, Or.inl (by omega), rfl, s, g⟩
  · refine (pick_small w p (n : Int) (by omega)).mono ?_
    rintro e w' ⟨rfl, rfl⟩
    exact ⟨0, by omega, Or.inr rfl, rfl, h.mono (by omega), gRefl _ _⟩
theorem rowLitR (W : World) (B n : Nat) (cs : Array Value) (t : TypeId) (hB : B ≤ W.heap.size) (hn : cs.size = n * 2) (hm : n ≤ maxLen) : (W.alloc (.cells cs t)).ownsRow B t 2 (.slice (some ⟨W.heap.size, 0, none⟩) n n) n cs.toList :=
  ⟨by simp [hn], .inr ⟨W.heap.size, n, cs, rfl, hB, (MapKept.heap_alloc W _).1, Nat.le_refl _, hm, by first | exact hn | simp [hn], by rw [← hn, ← Array.length_toList, List.take_length]⟩⟩
def RdPost (w : World) (p : Nat) (a : Option Addr) (len cap c : Nat) (e : Ending) (w' : World) : Prop :=
  ∃ (ps : List (Int × Int)) (v : Value), e = .returned v ∧ ps.length ≤ 64 ∧ RdS w p a len cap c ps v w'
set_option maxRecDepth 100000 in
set_option maxHeartbeats 8000000 in
theorem l14Draw_any (w : World) (p : Nat) (a : Option Addr) (len cap c : Nat) (h : SrcAt w p a len cap c) (hc : c ≤ 600000) :
    Calls Try.prog 64 #[.pointer (some ⟨p, 0, none⟩)] w (RdPost w p a len cap (c + 500)) := by
  have S0 := Lib.hid (show RdS w p a len cap c [] (.slice (some ⟨w.heap.size, 0, none⟩) 0 0) (w.alloc (.cells #[] 53)) from ⟨(DS.new h).alloc _, by simpa [pairC] using rowPair_new w 53⟩)
  have hp := h.lt
  have hle : w.heap.size ≤ (w.alloc (.cells #[] 53)).heap.size := by simp
  clear h
  go_enter Try.func64, Try.ntmps64
  go_wp2_with fail
  generalize w.alloc (.cells #[] 53) = W0 at *
  generalize hrow : (Value.slice (some ⟨w.heap.size, 0, none⟩) 0 0) = row0_ at *
  clear hrow
  refine (pick_any _ p a len cap _ 20 S0.out.1.src (by omega) (by omega) (by omega)).mono ?_
  rintro e w1 ⟨hr, hr0, hr1, rfl, s1, g1⟩
  have S1 := Lib.hid (S0.out.step s1 g1)
  clear s1 g1 S0
  go_wp2_with fail
  refine (pick_any _ p a len cap _ 2000 S1.out.1.src (by omega) (by omega) (by omega)).mono ?_
  rintro e w2 ⟨of, of0, of1, rfl, s1, g1⟩
  have S2 := Lib.hid (S1.out.step s1 g1)
  clear s1 g1 S1
  go_wp2_with fail
  refine (pick_any _ p a len cap _ 41 S2.out.1.src (by omega) (by omega) (by omega)).mono ?_
  rintro e w3 ⟨sl, sl0, sl1, rfl, s1, g1⟩
  have S3 := Lib.hid (S2.out.step s1 g1)
  clear s1 g1 S2
  go_wp2_with fail
  refine (oneQ_any _ p a len cap _ 4 S3.out.1.src (by omega) (by omega) (by omega)).mono ?_
  rintro e w4 ⟨ex, rfl, s1, g1⟩
  have S4 := Lib.hid (S3.out.step s1 g1)
  clear s1 g1 S3
  go_wp2_with fail
  refine (pick_any _ p a len cap _ 12 S4.out.1.src (by omega) (by omega) (by omega)).mono ?_
  rintro e w5 ⟨kk, kk0, kk1, rfl, s1, g1⟩
  have S5 := Lib.hid (S4.out.step s1 g1)
  clear s1 g1 S4
  go_wp2_with fail
  obtain ⟨k0, rfl⟩ := Int.eq_ofNat_of_zero_le kk0
  generalize hsl : sl - 20 = slo at *
  have hsb : -20 ≤ slo ∧ slo ≤ 20 := by omega
  clear hsl
  go_loopw [3, 4, 5, 8] (fun vo vh vf vk wr => ∃ (ps : List (Int × Int)) (hr of : Int) (k : Nat), ps.length + k ≤ 11 ∧ vk = .int .i64 k ∧ vh = .int .i64 hr ∧ vf = .int .i64 of ∧ (0 ≤ hr ∧ hr ≤ 20 + 41 * ps.length) ∧ (-(1000 + 2000 * ps.length) ≤ of ∧ of ≤ 1000 + 2000 * ps.length) ∧ RdS w p a len cap (c + 10 + 10 * ps.length) ps vo wr) (fun _ _ _ vk _ => (intOf vk).toNat)
  case atStart => exact ⟨[], hr, of - 1000, k0, by simp; omega, rfl, rfl, rfl, by simp; omega, by simp; omega, S5.out.mono (by simp)⟩
  case round =>
    obtain ⟨ps, hr, of, k, hk, rfl, rfl, rfl, hhr, hof, hs⟩ := hrel
    have S6 := Lib.hid hs
    have hsz := hs.size
    clear hs S5
    by_cases hlt : 0 < k
    · go_wp2_with (at_builtin; refine appRd rfl _ _ rfl _ _ hr of rfl S6.out.2 hsz (by show Value.slice (some ⟨wr.heap.size, 0, none⟩) 1 1 = _; rfl) (by omega) ?_)
      intro v' w7 hown hap
      have S7 := Lib.hid (S6.out.app (q := (hr, of)) (by rw [List.length_append]; exact hown) hap)
      clear hown hap S6
      go_wp2_with fail
      refine (pick_any _ p a len cap _ 40 S7.out.1.src (by omega) (by omega) (by omega)).mono ?_
      rintro e w8 ⟨st, st0, st1, rfl, s1, g1⟩
      have S8 := Lib.hid (S7.out.step s1 g1)
      clear s1 g1 S7
      have m1 := mulB (a := slo) (b := 1 + st) (A := 20) (B := 40) hsb.1 hsb.2 (by omega) (by omega)
      have HPL := Lib.hid (show (ps ++ [(hr, of)]).length = ps.length + 1 by simp)
      cases ex
      · go_wp2_with fail
        generalize slo * (1 + st) = dl at *
        refine (pick_any _ p a len cap _ 61 S8.out.1.src (by omega) (by omega) (by omega)).mono ?_
        rintro e w9 ⟨dv, dv0, dv1, rfl, s1, g1⟩
        have S9 := Lib.hid (S8.out.step s1 g1)
        clear s1 g1 S8
        go_wp2_with fail
        refine (oneQ_any _ p a len cap _ 16 S9.out.1.src (by omega) (by omega) (by omega)).mono ?_
        rintro e wb ⟨q16, rfl, s1, g1⟩
        have SB := Lib.hid (S9.out.step s1 g1)
        clear s1 g1 S9
        cases q16
        · go_wp2_with fail
          go_roundw
          case rel => exact ⟨ps ++ [(hr, of)], hr + (1 + st), of + dl + (dv - 30), k - 1, by rw [HPL.out]; omega, congrArg (Value.int .i64) (by omega), rfl, rfl, by rw [HPL.out]; omega, by rw [HPL.out]; omega, SB.out.mono (by rw [HPL.out]; omega)⟩
          case measure => simp [intOf]; omega
        · have hSB := SB.out.size
          go_wp2_with fail
          refine (among_any _ p a len cap _ _ 2 (-900) 900 (SB.out.alloc _).1.src (by omega) (by omega) (by omega) (by omega) (by simp) ?hnu).mono ?_
          case hnu =>
            intro i hi
            match i, hi with
            | 0, _ => exact ⟨_, by simp [go_sem]; rfl, by omega, by omega⟩
            | 1, _ => exact ⟨_, by simp [go_sem]; rfl, by omega, by omega⟩
          rintro e wc ⟨z, z0, z1, rfl, s1, g1⟩
          have SC := Lib.hid ((SB.out.alloc _).step s1 g1)
          clear s1 g1 SB
          go_wp2_with fail
          go_roundw
          case rel => exact ⟨ps ++ [(hr, of)], hr + (1 + st), of + dl + (dv - 30) + z, k - 1, by rw [HPL.out]; omega, congrArg (Value.int .i64) (by omega), rfl, rfl, by rw [HPL.out]; omega, by rw [HPL.out]; omega, SC.out.mono (by rw [HPL.out]; omega)⟩
          case measure => simp [intOf]; omega
      · go_wp2_with fail
        generalize slo * (1 + st) = dl at *
        refine (oneQ_any _ p a len cap _ 16 S8.out.1.src (by omega) (by omega) (by omega)).mono ?_
        rintro e wb ⟨q16, rfl, s1, g1⟩
        have SB := Lib.hid (S8.out.step s1 g1)
        clear s1 g1 S8
        cases q16
        · go_wp2_with fail
          go_roundw
          case rel => exact ⟨ps ++ [(hr, of)], hr + (1 + st), of + dl, k - 1, by rw [HPL.out]; omega, congrArg (Value.int .i64) (by omega), rfl, rfl, by rw [HPL.out]; omega, by rw [HPL.out]; omega, SB.out.mono (by rw [HPL.out]; omega)⟩
          case measure => simp [intOf]; omega
        · have hSB := SB.out.size
          go_wp2_with fail
          refine (among_any _ p a len cap _ _ 2 (-900) 900 (SB.out.alloc _).1.src (by omega) (by omega) (by omega) (by omega) (by simp) ?hnu).mono ?_
          case hnu =>
            intro i hi
            match i, hi with
            | 0, _ => exact ⟨_, by simp [go_sem]; rfl, by omega, by omega⟩
            | 1, _ => exact ⟨_, by simp [go_sem]; rfl, by omega, by omega⟩
          rintro e wc ⟨z, z0, z1, rfl, s1, g1⟩
          have SC := Lib.hid ((SB.out.alloc _).step s1 g1)
          clear s1 g1 SB
          go_wp2_with fail
          go_roundw
          case rel => exact ⟨ps ++ [(hr, of)], hr + (1 + st), of + dl + z, k - 1, by rw [HPL.out]; omega, congrArg (Value.int .i64) (by omega), rfl, rfl, by rw [HPL.out]; omega, by rw [HPL.out]; omega, SC.out.mono (by rw [HPL.out]; omega)⟩
          case measure => simp [intOf]; omega
    · obtain rfl : k = 0 := by omega
      have hpl : ps.length ≤ 11 := by omega
      clear hk hhr hof
      have hcc : c + 10 + 10 * ps.length ≤ c + 120 := by omega
      obtain ⟨ao, co, rfl, hsp⟩ := slP_of S6.out.2
      go_wp2_with fail
      refine (pickN_any _ p a len cap _ ps.length S6.out.1.src (by omega) (by omega)).mono ?_
      rintro e w7 ⟨at_, at0_, at1_, rfl, s1, g1⟩
      have S7 := Lib.hid (S6.out.step s1 g1)
      clear s1 g1 S6
      go_wp2_with fail
      refine (pick_any _ p a len cap _ 30 S7.out.1.src (by omega) (by omega) (by omega)).mono ?_
      rintro e w8 ⟨q, q0, q1, rfl, s1, g1⟩
      have S8 := Lib.hid (S7.out.step s1 g1)
      clear s1 g1 S7
      by_cases e0 : q = 0
      · subst e0
        by_cases hz : 0 < ps.length
        · obtain ⟨i, rfl⟩ := Int.eq_ofNat_of_zero_le at0_
          have hil : i < ps.length := by omega
          obtain ⟨g, rfl, _, _⟩ := hsp (by omega)
          have h8 := S8.out.size
          go_wp2_with fail
          refine (among_any _ p a len cap _ _ 3 (-1) 10001 (S8.out.alloc _).1.src (by omega) (by omega) (by omega) (by omega) (by simp) ?hnu).mono ?_
          case hnu =>
            intro i hi
            match i, hi with
            | 0, _ => exact ⟨_, by simp [go_sem]; rfl, by omega, by omega⟩
            | 1, _ => exact ⟨_, by simp [go_sem]; rfl, by omega, by omega⟩
            | 2, _ => exact ⟨_, by simp [go_sem]; rfl, by omega, by omega⟩
          rintro e w9 ⟨z, z0, z1, rfl, s1, g1⟩
          have S9 := Lib.hid ((S8.out.alloc _).step s1 g1)
          clear s1 g1 S8
          have f1 : w9.frozen? ⟨g, i * 2, none⟩ = false := S9.out.2.frozenAt (i * 2)
          obtain ⟨c1, c2⟩ := own_pairs S9.out.2 i hil
          have SF := Lib.hid (S9.out.set1 (z := z) hil)
          clear S9
          go_wp2_with fail
          go_ret
          exact ⟨ps.set i (z, (pat ps i).2), _, rfl, by rw [List.length_set]; omega, SF.out.mono (by omega)⟩
        · have hz0 : ¬ (0 : Int) < (ps.length : Int) := by omega
          go_wp2_with fail
          go_ret
          exact ⟨ps, _, rfl, by omega, S8.out.mono (by omega)⟩
      have b0 : (q == 0) = false := by simpa using e0
      by_cases e1 : q = 1
      · subst e1
        by_cases hz : 0 < ps.length
        · obtain ⟨i, rfl⟩ := Int.eq_ofNat_of_zero_le at0_
          have hil : i < ps.length := by omega
          obtain ⟨g, rfl, _, _⟩ := hsp (by omega)
          have h8 := S8.out.size
          go_wp2_with fail
          refine (among_any _ p a len cap _ _ 4 (-100001) 100001 (S8.out.alloc _).1.src (by omega) (by omega) (by omega) (by omega) (by simp) ?hnu).mono ?_
          case hnu =>
            intro i hi
            match i, hi with
            | 0, _ => exact ⟨_, by simp [go_sem]; rfl, by omega, by omega⟩
            | 1, _ => exact ⟨_, by simp [go_sem]; rfl, by omega, by omega⟩
            | 2, _ => exact ⟨_, by simp [go_sem]; rfl, by omega, by omega⟩
            | 3, _ => exact ⟨_, by simp [go_sem]; rfl, by omega, by omega⟩
          rintro e w9 ⟨z, z0, z1, rfl, s1, g1⟩
          have S9 := Lib.hid ((S8.out.alloc _).step s1 g1)
          clear s1 g1 S8
          have f1 : w9.frozen? ⟨g, i * 2 + 1, none⟩ = false := S9.out.2.frozenAt (i * 2 + 1)
          obtain ⟨c1, c2⟩ := own_pairs S9.out.2 i hil
          have SF := Lib.hid (S9.out.set2 (z := z) hil)
          clear S9
          go_wp2_with fail
          go_ret
          exact ⟨ps.set i ((pat ps i).1, z), _, rfl, by rw [List.length_set]; omega, SF.out.mono (by omega)⟩
        · have hz0 : ¬ (0 : Int) < (ps.length : Int) := by omega
          go_wp2_with fail
          go_ret
          exact ⟨ps, _, rfl, by omega, S8.out.mono (by omega)⟩
      have b1 : (q == 1) = false := by simpa using e1
      by_cases e2 : q = 2
      · subst e2
        have SN := Lib.hid (S8.out.nil)
        clear S8
        go_wp2_with fail
        go_loopw [3, 11] (fun vo vk wr => ∃ (ps : List (Int × Int)) (k : Nat), k ≤ ps.length ∧ ps.length ≤ k ∧ k ≤ 61 ∧ vk = .int .i64 k ∧ RdS w p a len cap (c + 200 + 2 * k) ps vo wr) (fun _ vk _ => 61 - (intOf vk).toNat)
        case atStart => exact ⟨[], 0, by simp, by simp, by omega, rfl, SN.out.mono (by omega)⟩
        case round =>
          obtain ⟨ps, k, hk1, hk2, hk3, rfl, hs⟩ := hrel
          have SA := Lib.hid hs
          clear hs SN
          go_wp2_with fail
          refine (pick_any _ p a len cap _ 2 SA.out.1.src (by omega) (by omega) (by omega)).mono ?_
          rintro e w9 ⟨x, x0, x1, rfl, s1, g1⟩
          have SB := Lib.hid (SA.out.step s1 g1)
          clear s1 g1 SA
          have hsz := SB.out.size
          by_cases hlt : (k : Int) < 60 + x
          · have m1 := mulB (a := (k : Int)) (b := (k : Int)) (A := 61) (B := 61) (by omega) (by omega) (by omega) (by omega)
            go_wp2_with (at_builtin; refine appRd rfl _ _ rfl _ _ ((k : Int) * 150) ((k : Int) * k) rfl SB.out.2 hsz (by show Value.slice (some ⟨w9.heap.size, 0, none⟩) 1 1 = _; rfl) (by omega) ?_)
            intro v' wa hown hap
            have SC := Lib.hid (SB.out.app (q := ((k : Int) * 150, (k : Int) * k)) (by rw [List.length_append]; exact hown) hap)
            clear hown hap SB
            go_wp2_with fail
            go_roundw
            case rel => exact ⟨_, k + 1, by simp; omega, by simp; omega, by omega, by go_num, SC.out.mono (by omega)⟩
            case measure => simp [intOf]; omega
          · go_wp2_with fail
            go_ret
            exact ⟨ps, _, rfl, by omega, SB.out.mono (by omega)⟩
      have b2 : (q == 2) = false := by simpa using e2
      by_cases e3 : q = 3
      · subst e3
        have SF := Lib.hid (show RdS w p a len cap (c + 500) [(0, -100000), (10000, 100000)] (.slice (some ⟨w8.heap.size, 0, none⟩) 2 2) (w8.alloc (.cells #[.int .i64 0, .int .i64 (-100000), .int .i64 10000, .int .i64 100000] 53)) from ⟨(S8.out.1.alloc _).mono (by omega), rowLitR w8 w.heap.size 2 _ _ S8.out.size rfl (by unfold maxLen; omega)⟩)
        clear S8
        go_wp2_with fail
        go_ret
        exact ⟨_, _, rfl, by simp, SF.out⟩
      have b3 : (q == 3) = false := by simpa using e3
      go_wp2_with fail
      go_ret
      exact ⟨ps, _, rfl, by omega, S8.out.mono (by omega)⟩
end Go.Proofs.Ytmmmbchlkjljaaa
namespace Go.Proofs.Ytmmmbchlkjljaaa
open Go.RowKit

def RdW (w : World) (e : Ending) (w' : World) : Prop := ∃ (ps : List (Int × Int)) (v : Value), e = .returned v ∧ ps.length ≤ 64 ∧ SlB w' v ps ∧ Below w.heap.size w w'
set_option maxRecDepth 100000 in
set_option maxHeartbeats 2000000 in
theorem DrawFitOf_any (w : World) (a : Option Addr) (len cap : Nat) (zs : List Int) (h : IsRow .u8 w a len cap zs) :
    Calls Try.prog 25 #[.slice a len cap] w (RdW w) := by
  go_enter Try.func25, Try.ntmps25
  go_wp2_with fail
  refine (l00From_any w a len cap zs h).mono ?_
  rintro e w1 ⟨rfl, s1, hb⟩
  have S1 := Lib.hid s1
  have L1 := Lib.hid hb
  clear s1 hb h
  generalize hpp : w.heap.size = p at S1 ⊢
  have hwp : w.heap.size ≤ p := by omega
  go_wp2_with fail
  refine (l14Draw_any w1 p a len cap 0 S1.out (by omega)).mono ?_
  rintro e w2 ⟨ps, v, rfl, hl, hs⟩
  have L2 := Lib.hid (below_grown L1.out hs.1.gr hwp)
  have O2 := Lib.hid (slB_of hs.2)
  clear hs L1 S1
  go_wp2_with fail
  go_ret
  exact ⟨ps, v, rfl, hl, O2.out, L2.out⟩
set_option maxRecDepth 100000 in
set_option maxHeartbeats 2000000 in
theorem DrawMedianOff_any (w : World) (a : Option Addr) (len cap : Nat) (zs : List Int) (h : IsRow .u8 w a len cap zs) :
    Calls Try.prog 48 #[.slice a len cap] w (RdW w) := by
  go_enter Try.func48, Try.ntmps48
  go_wp2_with fail
  refine (l00From_any w a len cap zs h).mono ?_
  rintro e w1 ⟨rfl, s1, hb⟩
  have S1 := Lib.hid s1
  have L1 := Lib.hid hb
  clear s1 hb h
  generalize hpp : w.heap.size = p at S1 ⊢
  have hwp : w.heap.size ≤ p := by omega
  go_wp2_with fail
  refine (l14Draw_any w1 p a len cap 0 S1.out (by omega)).mono ?_
  rintro e w2 ⟨ps, v, rfl, hl, hs⟩
  have L2 := Lib.hid (below_grown L1.out hs.1.gr hwp)
  have O2 := Lib.hid (slB_of hs.2)
  clear hs L1 S1
  go_wp2_with fail
  go_ret
  exact ⟨ps, v, rfl, hl, O2.out, L2.out⟩
set_option maxRecDepth 100000 in
set_option maxHeartbeats 2000000 in
theorem DrawBestChange_any (w : World) (a : Option Addr) (len cap : Nat) (zs : List Int) (h : IsRow .u8 w a len cap zs) :
    Calls Try.prog 50 #[.slice a len cap] w (RdW w) := by
  go_enter Try.func50, Try.ntmps50
  go_wp2_with fail
  refine (l00From_any w a len cap zs h).mono ?_
  rintro e w1 ⟨rfl, s1, hb⟩
  have S1 := Lib.hid s1
  have L1 := Lib.hid hb
  clear s1 hb h
  generalize hpp : w.heap.size = p at S1 ⊢
  have hwp : w.heap.size ≤ p := by omega
  go_wp2_with fail
  refine (l14Draw_any w1 p a len cap 0 S1.out (by omega)).mono ?_
  rintro e w2 ⟨ps, v, rfl, hl, hs⟩
  have L2 := Lib.hid (below_grown L1.out hs.1.gr hwp)
  have O2 := Lib.hid (slB_of hs.2)
  clear hs L1 S1
  go_wp2_with fail
  go_ret
  exact ⟨ps, v, rfl, hl, O2.out, L2.out⟩
set_option maxRecDepth 100000 in
set_option maxHeartbeats 2000000 in
theorem DrawResidualsOf_any (w : World) (a : Option Addr) (len cap : Nat) (zs : List Int) (h : IsRow .u8 w a len cap zs) :
    Calls Try.prog 42 #[.slice a len cap] w (RdW w) := by
  go_enter Try.func42, Try.ntmps42
  go_wp2_with fail
  refine (l00From_any w a len cap zs h).mono ?_
  rintro e w1 ⟨rfl, s1, hb⟩
  have S1 := Lib.hid s1
  have L1 := Lib.hid hb
  clear s1 hb h
  generalize hpp : w.heap.size = p at S1 ⊢
  have hwp : w.heap.size ≤ p := by omega
  go_wp2_with fail
  refine (l14Draw_any w1 p a len cap 0 S1.out (by omega)).mono ?_
  rintro e w2 ⟨ps, v, rfl, hl, hs⟩
  have L2 := Lib.hid (below_grown L1.out hs.1.gr hwp)
  have O2 := Lib.hid (slB_of hs.2)
  clear hs L1 S1
  go_wp2_with fail
  go_ret
  exact ⟨ps, v, rfl, hl, O2.out, L2.out⟩
def RdW2 (w : World) (e : Ending) (w' : World) : Prop := ∃ (ps : List (Int × Int)) (v : Value) (m : Int), e = .returned (.tuple #[v, .int .i64 m]) ∧ ps.length ≤ 64 ∧ SlB w' v ps ∧ Below w.heap.size w w'
set_option maxRecDepth 100000 in
set_option maxHeartbeats 4000000 in
theorem DrawJumpsOf_any (w : World) (a : Option Addr) (len cap : Nat) (zs : List Int) (h : IsRow .u8 w a len cap zs) :
    Calls Try.prog 49 #[.slice a len cap] w (RdW2 w) := by
  go_enter Try.func49, Try.ntmps49
  go_wp2_with fail
  refine (l00From_any w a len cap zs h).mono ?_
  rintro e w1 ⟨rfl, s1, hb⟩
  have S1 := Lib.hid s1
  have L1 := Lib.hid hb
  clear s1 hb h
  generalize hpp : w.heap.size = p at S1 ⊢
  have hwp : w.heap.size ≤ p := by omega
  have hp1 := S1.out.lt
  go_wp2_with fail
  refine (l14Draw_any w1 p a len cap 0 S1.out (by omega)).mono ?_
  rintro e w2 ⟨ps, v, rfl, hl, hs⟩
  have D2 := Lib.hid hs
  clear hs S1
  go_wp2_with fail
  refine (oneQ_any _ p a len cap _ 10 D2.out.1.src (by omega) (by omega) (by omega)).mono ?_
  rintro e w3 ⟨q, rfl, s1, g1⟩
  have D3 := Lib.hid (D2.out.step s1 g1)
  clear s1 g1 D2
  cases q
  · go_wp2_with fail
    refine (pick_any _ p a len cap _ 1000 D3.out.1.src (by omega) (by omega) (by omega)).mono ?_
    rintro e w4 ⟨m, _, _, rfl, s1, g1⟩
    have D4 := Lib.hid (D3.out.step s1 g1)
    have L4 := Lib.hid (below_grown L1.out D4.out.1.gr hwp)
    have O4 := Lib.hid (slB_of D4.out.2)
    clear s1 g1 D3 D4 L1
    go_wp2_with fail
    go_ret2
    exact ⟨ps, v, _, rfl, hl, O4.out, L4.out⟩
  · have hsz := D3.out.size
    go_wp2_with fail
    refine (among_any _ p a len cap _ _ 4 (-1) 200001 (D3.out.alloc _).1.src (by omega) (by omega) (by omega) (by omega) (by simp) ?hnu).mono ?_
    case hnu =>
      intro i hi
      match i, hi with
      | 0, _ => exact ⟨_, by simp [go_sem]; rfl, by omega, by omega⟩
      | 1, _ => exact ⟨_, by simp [go_sem]; rfl, by omega, by omega⟩
      | 2, _ => exact ⟨_, by simp [go_sem]; rfl, by omega, by omega⟩
      | 3, _ => exact ⟨_, by simp [go_sem]; rfl, by omega, by omega⟩
    rintro e w4 ⟨m, _, _, rfl, s1, g1⟩
    have D4 := Lib.hid ((D3.out.alloc _).step s1 g1)
    have L4 := Lib.hid (below_grown L1.out D4.out.1.gr hwp)
    have O4 := Lib.hid (slB_of D4.out.2)
    clear s1 g1 D3 D4 L1
    go_wp2_with fail
    go_ret2
    exact ⟨ps, v, _, rfl, hl, O4.out, L4.out⟩
set_option maxHeartbeats 1000000 in
theorem f6same_yes (ts : List Int) (va vb : Value) (w : World) (ha : Sl64 w va ts) (hb : Sl64 w vb ts) (hmax : ts.length ≤ 1000000000000) :
    Calls Try.prog 46 #[va, vb] w (DrewRet (.bool true) w) := by
  obtain ⟨ao, cap, rfl, ha⟩ := ha
  obtain ⟨bo, bcap, rfl, hb⟩ := hb
  have HA := Lib.hid ha
  have HB := Lib.hid hb
  clear ha hb
  have hne : ((ts.length : Int) != (ts.length : Int)) = false := by simp
  go_enter Try.func46, Try.ntmps46
  go_wp2_with fail
  go_loopw [5] (fun i wr => ∃ (k : Nat) (n : Nat), k ≤ ts.length ∧ i = .int .i64 k ∧ wr = w.drewN n) (fun i _ => ts.length - (intOf i).toNat)
  case atStart => exact ⟨0, 0, by omega, rfl, rfl⟩
  case round =>
    obtain ⟨k, n, hk, rfl, rfl⟩ := hrel
    by_cases hlt : k < ts.length
    · obtain ⟨g, rfl, hg, hc⟩ := HA.out (by omega)
      obtain ⟨g2, rfl, hg2, hc2⟩ := HB.out (by omega)
      have c1 : w.cell? ⟨g, k, none⟩ = some (.int .i64 (at0 ts k)) := hc k hlt
      have c2 : w.cell? ⟨g2, k, none⟩ = some (.int .i64 (at0 ts k)) := hc2 k hlt
      have hne2 : (at0 ts k != at0 ts k) = false := by simp
      clear hc hc2 HA HB
      go_wp2_with fail
      go_quiet (fail)
      go_wp2_with fail
      go_roundw
      case rel => exact ⟨k + 1, _, by omega, by go_num, rfl⟩
      case measure => simp [intOf]; omega
    · go_wp2_with fail
      go_ret
      exact ⟨rfl, n, rfl⟩
end Go.Proofs.Ytmmmbchlkjljaaa
namespace Go.Proofs.Ytmmmbchlkjljaaa
open Go.RowKit

theorem BoxL.grownH {w w' : World} {b : Nat} {vs : List Value} {row : Option Nat} (h : BoxL w b vs) (g : w.grownBy w' row) (hn : row ≠ some b) : BoxL w' b vs :=
  ⟨fun i u e => (World.cell?_of_block (g.block b h.lt (fun q => hn q.symm))).trans (h.c i u e), fun i u e => (World.frozen?_of_block (g.block b h.lt (fun q => hn q.symm))).trans (h.f i u e), Nat.lt_of_lt_of_le h.lt g.size⟩
/-- Any sums. -/
def FtS (w : World) (e : Ending) (w' : World) : Prop := ∃ f : Ft, e = .returned (.agg #[.int .i64 f.n, .int .i64 f.x, .int .i64 f.y, .int .i64 f.xx, .int .i64 f.xy]) ∧ Below w.heap.size w w'
set_option maxRecDepth 100000 in
set_option maxHeartbeats 4000000 in
theorem l14Fit_some (ps : List (Int × Int)) (v : Value) (w : World) (ha : SlQ w v ps) (hlen : ps.length ≤ 64) :
    Calls Try.prog 67 #[v] w (FtS w) := by
  obtain ⟨ao, cap, rfl, _, ha⟩ := ha
  have HA := Lib.hid ha
  clear ha
  go_enter Try.func67, Try.ntmps67
  go_wp2_with fail
  have R0 := Lib.hid ((BoxL.new w [.int .i64 0, .int .i64 0, .int .i64 0, .int .i64 0, .int .i64 0] 41).alloc (.cells #[.int .i64 (ps.length : Int), .int .i64 0, .int .i64 0, .int .i64 0, .int .i64 0] 41))
  have B0 := Lib.hid (show BoxL ((w.alloc (.cells #[.int .i64 0, .int .i64 0, .int .i64 0, .int .i64 0, .int .i64 0] 41)).alloc (.cells #[.int .i64 (ps.length : Int), .int .i64 0, .int .i64 0, .int .i64 0, .int .i64 0] 41)) (w.heap.size + 1) [.int .i64 (ps.length : Int), .int .i64 0, .int .i64 0, .int .i64 0, .int .i64 0] from BoxL.at_ (vs := [.int .i64 (ps.length : Int), .int .i64 0, .int .i64 0, .int .i64 0, .int .i64 0]) (by simp))
  have L0 := Lib.hid (bA (bA (bR w) (.cells #[.int .i64 0, .int .i64 0, .int .i64 0, .int .i64 0, .int .i64 0] 41)) (.cells #[.int .i64 (ps.length : Int), .int .i64 0, .int .i64 0, .int .i64 0, .int .i64 0] 41))
  go_loopw [4] (fun vi wr => ∃ (k : Nat) (s1 s2 s3 s4 : Int), k ≤ ps.length ∧ vi = .int .i64 k ∧ BoxL wr w.heap.size [.int .i64 0, .int .i64 0, .int .i64 0, .int .i64 0, .int .i64 0] ∧ BoxL wr (w.heap.size + 1) [.int .i64 (ps.length : Int), .int .i64 s1, .int .i64 s2, .int .i64 s3, .int .i64 s4] ∧ Below w.heap.size w wr) (fun vi _ => ps.length - (intOf vi).toNat)
  case atStart => exact ⟨0, 0, 0, 0, 0, Nat.zero_le _, rfl, R0.out, B0.out, L0.out⟩
  case round =>
    obtain ⟨k, s1, s2, s3, s4, hk, rfl, hres, hbox, hbel⟩ := hrel
    have BL := Lib.hid hbel
    have RS := Lib.hid hres
    have BX := Lib.hid hbox
    clear R0 B0 L0 hres hbox
    by_cases hlt : k < ps.length
    · obtain ⟨g, o, rfl, hg, hc⟩ := HA.out (by omega)
      obtain ⟨c1, c2⟩ := (hc.keep hg hbel) k hlt
      clear hc HA hbel
      generalize (pat ps k).1 = x at *
      generalize (pat ps k).2 = y at *
      obtain ⟨u1, hu1⟩ : ∃ u, IntKind.i64.wrap (s1 + x) = u := ⟨_, rfl⟩
      obtain ⟨u2, hu2⟩ : ∃ u, IntKind.i64.wrap (s2 + y) = u := ⟨_, rfl⟩
      obtain ⟨p3, hp3⟩ : ∃ u, IntKind.i64.wrap (x * x) = u := ⟨_, rfl⟩
      obtain ⟨u3, hu3⟩ : ∃ u, IntKind.i64.wrap (s3 + p3) = u := ⟨_, rfl⟩
      obtain ⟨p4, hp4⟩ : ∃ u, IntKind.i64.wrap (x * y) = u := ⟨_, rfl⟩
      obtain ⟨u4, hu4⟩ : ∃ u, IntKind.i64.wrap (s4 + p4) = u := ⟨_, rfl⟩
      obtain ⟨r0, r1, r2, r3, r4, r5⟩ := BX.out.c5
      obtain ⟨f0, f1, f2, f3, f4⟩ := BX.out.f5
      have NB := Lib.hid (BX.out.set5R (v0 := .int .i64 (ps.length : Int)) (v1 := .int .i64 u1) (v2 := .int .i64 u2) (v3 := .int .i64 u3) (v4 := .int .i64 u4))
      have NR := Lib.hid (RS.out.oth5R (b' := w.heap.size + 1) (v0 := .int .i64 (ps.length : Int)) (v1 := .int .i64 u1) (v2 := .int .i64 u2) (v3 := .int .i64 u3) (v4 := .int .i64 u4) (by omega))
      have NL := Lib.hid (bset5R (b := w.heap.size + 1) (v0 := .int .i64 (ps.length : Int)) (v1 := .int .i64 u1) (v2 := .int .i64 u2) (v3 := .int .i64 u3) (v4 := .int .i64 u4) BL.out (by omega))
      go_wp2_with fail
      go_roundw
      case rel => exact ⟨k + 1, _, _, _, _, by omega, by go_num, NR.out, NB.out, NL.out⟩
      case measure => simp [intOf]; omega
    · obtain rfl : k = ps.length := by omega
      clear HA
      obtain ⟨r0, r1, r2, r3, r4, r5⟩ := BX.out.c5
      obtain ⟨c0, c1, c2, c3, c4, c5⟩ := RS.out.c5
      obtain ⟨f0, f1, f2, f3, f4⟩ := RS.out.f5
      go_wp2_with fail
      exact bodyPost_ret (v := .agg #[.int .i64 (ps.length : Int), .int .i64 s1, .int .i64 s2, .int .i64 s3, .int .i64 s4]) (by simp [results, Try.results67, go_sem, c0, c1, c2, c3, c4]) rfl ⟨⟨ps.length, s1, s2, s3, s4⟩, rfl, bset5R BL.out (Nat.le_refl _)⟩
/-- Drawn sums beside the source. -/
def FtD (w : World) (p : Nat) (a : Option Addr) (len cap c : Nat) (e : Ending) (w' : World) : Prop := ∃ f : Ft, e = .returned (.agg #[.int .i64 f.n, .int .i64 f.x, .int .i64 f.y, .int .i64 f.xx, .int .i64 f.xy]) ∧ DS w p a len cap c w'
theorem DS.set5F {w : World} {p : Nat} {a : Option Addr} {len cap c r : Nat} {w' : World} {v0 v1 v2 v3 v4 : Value} (h : DS w p a len cap c w') (hr : w.heap.size ≤ r) : DS w p a len cap c (((((w'.setCell ⟨r, 0, none⟩ v0).setCell ⟨r, 1, none⟩ v1).setCell ⟨r, 2, none⟩ v2).setCell ⟨r, 3, none⟩ v3).setCell ⟨r, 4, none⟩ v4) := ((((h.set hr).set hr).set hr).set hr).set hr
set_option maxRecDepth 100000 in
set_option maxHeartbeats 8000000 in
theorem l14DrawFit_any (w : World) (p : Nat) (a : Option Addr) (len cap c : Nat) (h : SrcAt w p a len cap c) (hc : c ≤ 600000) :
    Calls Try.prog 72 #[.pointer (some ⟨p, 0, none⟩)] w (FtD w p a len cap (c + 600)) := by
  have hp := h.lt
  have D1 := Lib.hid ((DS.new h).alloc (.cells #[.int .i64 0, .int .i64 0, .int .i64 0, .int .i64 0, .int .i64 0] 41))
  have R1 := Lib.hid (BoxL.new w [.int .i64 0, .int .i64 0, .int .i64 0, .int .i64 0, .int .i64 0] 41)
  clear h
  go_enter Try.func72, Try.ntmps72
  go_wp2_with fail
  have hle : w.heap.size < (w.alloc (.cells #[.int .i64 0, .int .i64 0, .int .i64 0, .int .i64 0, .int .i64 0] 41)).heap.size := by simp
  generalize w.alloc (.cells #[.int .i64 0, .int .i64 0, .int .i64 0, .int .i64 0, .int .i64 0] 41) = w1 at *
  refine (l14Draw_any _ p a len cap c D1.out.src (by omega)).mono ?_
  rintro e w2 ⟨ps, v, rfl, hl, hs⟩
  have D2 := Lib.hid (D1.out.step hs.1.src hs.1.gr)
  have R2 := Lib.hid (R1.out.grownH hs.1.gr (by simp; omega))
  have V2 := Lib.hid (slQ_of hs.2)
  have hl2 := hs.1.gr.size
  clear hs D1 R1
  go_wp2_with fail
  refine (l14Fit_some ps v _ V2.out hl).mono ?_
  rintro e w3 ⟨f, rfl, hb⟩
  have D3 := Lib.hid ((D2.out.keep hb).alloc (.cells #[.int .i64 f.n, .int .i64 f.x, .int .i64 f.y, .int .i64 f.xx, .int .i64 f.xy] 41))
  have R3 := Lib.hid ((R2.out.keep hb).alloc (.cells #[.int .i64 f.n, .int .i64 f.x, .int .i64 f.y, .int .i64 f.xx, .int .i64 f.xy] 41))
  have X3 := Lib.hid (BoxL.new w3 [.int .i64 f.n, .int .i64 f.x, .int .i64 f.y, .int .i64 f.xx, .int .i64 f.xy] 41)
  have hl3 := hb.size
  clear hb D2 R2 V2
  obtain ⟨n, x, y, xx, xy⟩ := f
  simp only at D3 R3 X3
  go_wp2_with fail
  refine (pick_any _ p a len cap _ 30 D3.out.src (by omega) (by omega) (by omega)).mono ?_
  rintro e w4 ⟨q, q0, q1, rfl, s1, g1⟩
  have D4 := Lib.hid (D3.out.step s1 g1)
  have R4 := Lib.hid (R3.out.grownH g1 (by simp; omega))
  have X4 := Lib.hid (X3.out.grownH g1 (by simp; omega))
  clear s1 g1 D3 R3 X3
  have hkb : w.heap.size < w3.heap.size := by omega
  generalize w3.heap.size = kb at *
  by_cases e0 : q = 0
  · subst e0
    obtain ⟨M, hM⟩ : ∃ M : Nat, M = 0 := ⟨0, rfl⟩
    obtain ⟨c0, c1, c2, c3, c4, c5⟩ := X4.out.c5
    go_wp2_with fail
    refine (among_any _ p a len cap _ _ 4 (-(M : Int) - 100) (M + 100) (D4.out.alloc _).src (by omega) (by omega) (by omega) (by have := X4.out.lt; omega) (by simp) ?hnu).mono ?_
    case hnu =>
      intro i hi
      match i, hi with
      | 0, _ => exact ⟨_, by simp [go_sem]; rfl, by omega, by omega⟩
      | 1, _ => exact ⟨_, by simp [go_sem]; rfl, by omega, by omega⟩
      | 2, _ => exact ⟨_, by simp [go_sem]; rfl, by omega, by omega⟩
      | 3, _ => exact ⟨_, by simp [go_sem]; rfl, by omega, by omega⟩
    rintro e w5 ⟨z, z0, z1, rfl, s1, g1⟩
    have D5 := Lib.hid ((D4.out.alloc _).step s1 g1)
    have R5 := Lib.hid ((R4.out.alloc _).grownH g1 (by simp; omega))
    have X5 := Lib.hid ((X4.out.alloc _).grownH g1 (by simp; omega))
    clear s1 g1 D4 R4 X4 c0 c1 c2 c3 c4 c5
    obtain ⟨f0, f1, f2, f3, f4⟩ := X5.out.f5
    obtain ⟨c0, c1, c2, c3, c4, c5⟩ := X5.out.c5
    have D6 := Lib.hid (D5.out.set (o := 0) (v := .int .i64 z) (Nat.le_of_lt hkb))
    have R6 := Lib.hid (R5.out.other (o := 0) (x := .int .i64 z) (show w.heap.size ≠ kb by omega))
    have X6 := Lib.hid (show BoxL (w5.setCell ⟨kb, 0, none⟩ (.int .i64 z)) kb [.int .i64 z, .int .i64 x, .int .i64 y, .int .i64 xx, .int .i64 xy] from X5.out.setR (i := 0) (v := .int .i64 z) rfl)
    go_upto_region 11 with fail
    clear f0 f1 f2 f3 f4 c0 c1 c2 c3 c4 c5 D5 R5 X5
    generalize w5.setCell ⟨kb, 0, none⟩ (.int .i64 z) = w6 at *
    obtain ⟨c0, c1, c2, c3, c4, c5⟩ := X6.out.c5
    obtain ⟨r0, r1, r2, r3, r4, r5⟩ := R6.out.c5
    obtain ⟨f0, f1, f2, f3, f4⟩ := R6.out.f5
    go_wp2_with fail
    exact bodyPost_ret (v := .agg #[.int .i64 z, .int .i64 x, .int .i64 y, .int .i64 xx, .int .i64 xy]) (by simp [results, Try.results72, go_sem, r0, r1, r2, r3, r4]) rfl ⟨⟨z, x, y, xx, xy⟩, rfl, (D6.out.set5F (Nat.le_refl _)).mono (by omega)⟩
  by_cases e1 : q = 1
  · subst e1
    obtain ⟨u, hu⟩ : ∃ u, IntKind.i64.wrap (x + 1) = u := ⟨_, rfl⟩
    obtain ⟨M, hM1, hM2⟩ : ∃ M : Nat, -(M : Int) ≤ u ∧ u ≤ M := ⟨u.natAbs, by omega, by omega⟩
    obtain ⟨c0, c1, c2, c3, c4, c5⟩ := X4.out.c5
    go_wp2_with fail
    refine (among_any _ p a len cap _ _ 3 (-(M : Int) - 100) (M + 100) (D4.out.alloc _).src (by omega) (by omega) (by omega) (by have := X4.out.lt; omega) (by simp) ?hnu).mono ?_
    case hnu =>
      intro i hi
      match i, hi with
      | 0, _ => exact ⟨_, by simp [go_sem]; rfl, by omega, by omega⟩
      | 1, _ => exact ⟨_, by simp [go_sem]; rfl, by omega, by omega⟩
      | 2, _ => exact ⟨_, by simp [go_sem]; rfl, by omega, by omega⟩
    rintro e w5 ⟨z, z0, z1, rfl, s1, g1⟩
    have D5 := Lib.hid ((D4.out.alloc _).step s1 g1)
    have R5 := Lib.hid ((R4.out.alloc _).grownH g1 (by simp; omega))
    have X5 := Lib.hid ((X4.out.alloc _).grownH g1 (by simp; omega))
    clear s1 g1 D4 R4 X4 c0 c1 c2 c3 c4 c5
    obtain ⟨f0, f1, f2, f3, f4⟩ := X5.out.f5
    obtain ⟨c0, c1, c2, c3, c4, c5⟩ := X5.out.c5
    have D6 := Lib.hid (D5.out.set (o := 1) (v := .int .i64 z) (Nat.le_of_lt hkb))
    have R6 := Lib.hid (R5.out.other (o := 1) (x := .int .i64 z) (show w.heap.size ≠ kb by omega))
    have X6 := Lib.hid (show BoxL (w5.setCell ⟨kb, 1, none⟩ (.int .i64 z)) kb [.int .i64 n, .int .i64 z, .int .i64 y, .int .i64 xx, .int .i64 xy] from X5.out.setR (i := 1) (v := .int .i64 z) rfl)
    go_upto_region 11 with fail
    clear f0 f1 f2 f3 f4 c0 c1 c2 c3 c4 c5 D5 R5 X5
    generalize w5.setCell ⟨kb, 1, none⟩ (.int .i64 z) = w6 at *
    obtain ⟨c0, c1, c2, c3, c4, c5⟩ := X6.out.c5
    obtain ⟨r0, r1, r2, r3, r4, r5⟩ := R6.out.c5
    obtain ⟨f0, f1, f2, f3, f4⟩ := R6.out.f5
    go_wp2_with fail
    exact bodyPost_ret (v := .agg #[.int .i64 n, .int .i64 z, .int .i64 y, .int .i64 xx, .int .i64 xy]) (by simp [results, Try.results72, go_sem, r0, r1, r2, r3, r4]) rfl ⟨⟨n, z, y, xx, xy⟩, rfl, (D6.out.set5F (Nat.le_refl _)).mono (by omega)⟩
  by_cases e2 : q = 2
  · subst e2
    obtain ⟨u, hu⟩ : ∃ u, IntKind.i64.wrap (xx - 1) = u := ⟨_, rfl⟩
    obtain ⟨M, hM1, hM2⟩ : ∃ M : Nat, -(M : Int) ≤ u ∧ u ≤ M := ⟨u.natAbs, by omega, by omega⟩
    obtain ⟨c0, c1, c2, c3, c4, c5⟩ := X4.out.c5
    go_wp2_with fail
    refine (among_any _ p a len cap _ _ 3 (-(M : Int) - 100) (M + 100) (D4.out.alloc _).src (by omega) (by omega) (by omega) (by have := X4.out.lt; omega) (by simp) ?hnu).mono ?_
    case hnu =>
      intro i hi
      match i, hi with
      | 0, _ => exact ⟨_, by simp [go_sem]; rfl, by omega, by omega⟩
      | 1, _ => exact ⟨_, by simp [go_sem]; rfl, by omega, by omega⟩
      | 2, _ => exact ⟨_, by simp [go_sem]; rfl, by omega, by omega⟩
    rintro e w5 ⟨z, z0, z1, rfl, s1, g1⟩
    have D5 := Lib.hid ((D4.out.alloc _).step s1 g1)
    have R5 := Lib.hid ((R4.out.alloc _).grownH g1 (by simp; omega))
    have X5 := Lib.hid ((X4.out.alloc _).grownH g1 (by simp; omega))
    clear s1 g1 D4 R4 X4 c0 c1 c2 c3 c4 c5
    obtain ⟨f0, f1, f2, f3, f4⟩ := X5.out.f5
    obtain ⟨c0, c1, c2, c3, c4, c5⟩ := X5.out.c5
    have D6 := Lib.hid (D5.out.set (o := 3) (v := .int .i64 z) (Nat.le_of_lt hkb))
    have R6 := Lib.hid (R5.out.other (o := 3) (x := .int .i64 z) (show w.heap.size ≠ kb by omega))
    have X6 := Lib.hid (show BoxL (w5.setCell ⟨kb, 3, none⟩ (.int .i64 z)) kb [.int .i64 n, .int .i64 x, .int .i64 y, .int .i64 z, .int .i64 xy] from X5.out.setR (i := 3) (v := .int .i64 z) rfl)
    go_upto_region 11 with fail
    clear f0 f1 f2 f3 f4 c0 c1 c2 c3 c4 c5 D5 R5 X5
    generalize w5.setCell ⟨kb, 3, none⟩ (.int .i64 z) = w6 at *
    obtain ⟨c0, c1, c2, c3, c4, c5⟩ := X6.out.c5
    obtain ⟨r0, r1, r2, r3, r4, r5⟩ := R6.out.c5
    obtain ⟨f0, f1, f2, f3, f4⟩ := R6.out.f5
    go_wp2_with fail
    exact bodyPost_ret (v := .agg #[.int .i64 n, .int .i64 x, .int .i64 y, .int .i64 z, .int .i64 xy]) (by simp [results, Try.results72, go_sem, r0, r1, r2, r3, r4]) rfl ⟨⟨n, x, y, z, xy⟩, rfl, (D6.out.set5F (Nat.le_refl _)).mono (by omega)⟩
  by_cases e3 : q = 3
  · subst e3
    obtain ⟨u, hu⟩ : ∃ u, IntKind.i64.wrap (n * 100000) = u := ⟨_, rfl⟩
    obtain ⟨u2, hu2⟩ : ∃ t, IntKind.i64.wrap (u + 1) = t := ⟨_, rfl⟩
    obtain ⟨M, hM1, hM2, hM3, hM4⟩ : ∃ M : Nat, -(M : Int) ≤ u ∧ u ≤ M ∧ -(M : Int) ≤ u2 ∧ u2 ≤ M := ⟨u.natAbs + u2.natAbs, by omega, by omega, by omega, by omega⟩
    obtain ⟨c0, c1, c2, c3, c4, c5⟩ := X4.out.c5
    go_wp2_with fail
    refine (among_any _ p a len cap _ _ 2 (-(M : Int) - 100) (M + 100) (D4.out.alloc _).src (by omega) (by omega) (by omega) (by have := X4.out.lt; omega) (by simp) ?hnu).mono ?_
    case hnu =>
      intro i hi
      match i, hi with
      | 0, _ => exact ⟨_, by simp [go_sem]; rfl, by omega, by omega⟩
      | 1, _ => exact ⟨_, by simp [go_sem]; rfl, by omega, by omega⟩
    rintro e w5 ⟨z, z0, z1, rfl, s1, g1⟩
    have D5 := Lib.hid ((D4.out.alloc _).step s1 g1)
    have R5 := Lib.hid ((R4.out.alloc _).grownH g1 (by simp; omega))
    have X5 := Lib.hid ((X4.out.alloc _).grownH g1 (by simp; omega))
    clear s1 g1 D4 R4 X4 c0 c1 c2 c3 c4 c5
    obtain ⟨f0, f1, f2, f3, f4⟩ := X5.out.f5
    obtain ⟨c0, c1, c2, c3, c4, c5⟩ := X5.out.c5
    have D6 := Lib.hid (D5.out.set (o := 2) (v := .int .i64 z) (Nat.le_of_lt hkb))
    have R6 := Lib.hid (R5.out.other (o := 2) (x := .int .i64 z) (show w.heap.size ≠ kb by omega))
    have X6 := Lib.hid (show BoxL (w5.setCell ⟨kb, 2, none⟩ (.int .i64 z)) kb [.int .i64 n, .int .i64 x, .int .i64 z, .int .i64 xx, .int .i64 xy] from X5.out.setR (i := 2) (v := .int .i64 z) rfl)
    go_upto_region 11 with fail
    clear f0 f1 f2 f3 f4 c0 c1 c2 c3 c4 c5 D5 R5 X5
    generalize w5.setCell ⟨kb, 2, none⟩ (.int .i64 z) = w6 at *
    obtain ⟨c0, c1, c2, c3, c4, c5⟩ := X6.out.c5
    obtain ⟨r0, r1, r2, r3, r4, r5⟩ := R6.out.c5
    obtain ⟨f0, f1, f2, f3, f4⟩ := R6.out.f5
    go_wp2_with fail
    exact bodyPost_ret (v := .agg #[.int .i64 n, .int .i64 x, .int .i64 z, .int .i64 xx, .int .i64 xy]) (by simp [results, Try.results72, go_sem, r0, r1, r2, r3, r4]) rfl ⟨⟨n, x, z, xx, xy⟩, rfl, (D6.out.set5F (Nat.le_refl _)).mono (by omega)⟩
  obtain ⟨c0, c1, c2, c3, c4, c5⟩ := X4.out.c5
  obtain ⟨r0, r1, r2, r3, r4, r5⟩ := R4.out.c5
  obtain ⟨f0, f1, f2, f3, f4⟩ := R4.out.f5
  go_wp2_with fail
  exact bodyPost_ret (v := .agg #[.int .i64 n, .int .i64 x, .int .i64 y, .int .i64 xx, .int .i64 xy]) (by simp [results, Try.results72, go_sem, r0, r1, r2, r3, r4]) rfl ⟨⟨n, x, y, xx, xy⟩, rfl, (D4.out.set5F (Nat.le_refl _)).mono (by omega)⟩
end Go.Proofs.Ytmmmbchlkjljaaa
namespace Go.Proofs.Ytmmmbchlkjljaaa
open Go.RowKit

theorem sqd_ge (x : Int) : ∀ ps : List (Int × Int), (∀ i, i < ps.length → x + 1 ≤ (pat ps i).1) → (ps.length : Int) ≤ (ps.length : Int) * x * x - 2 * x * smF hrS ps + smF sqS ps
  | [], _ => by simp [smF]
  | p :: ps, h => by
    have ih := sqd_ge x ps (fun i hi => h (i + 1) (by simp; omega))
    have h0 : x + 1 ≤ p.1 := h 0 (by simp)
    have e : ((p :: ps).length : Int) * x * x - 2 * x * smF hrS (p :: ps) + smF sqS (p :: ps) = ((ps.length : Int) * x * x - 2 * x * smF hrS ps + smF sqS ps) + (p.1 - x) * (p.1 - x) := by
      simp only [List.length_cons, Int.natCast_add, smF, hrS, sqS]
      grind
    have q : 1 * 1 ≤ (p.1 - x) * (p.1 - x) := Int.mul_le_mul (by omega) (by omega) (by omega) (by omega)
    rw [e]
    simp only [List.length_cons, Int.natCast_add]
    omega
theorem var_gt {ps : List (Int × Int)} (h2 : 2 ≤ ps.length) (hu : ∀ i, i + 1 < ps.length → (pat ps 0).1 + 1 ≤ (pat ps (i + 1)).1) : 1 ≤ dF (fitL ps) := by
  match ps, h2, hu with
  | p :: ps, h2, hu =>
    have v := var_ge ps
    have c := sqd_ge p.1 ps (fun i hi => hu i (by simp; omega))
    have e : dF (fitL (p :: ps)) = ((ps.length : Int) * smF sqS ps - smF hrS ps * smF hrS ps) + ((ps.length : Int) * p.1 * p.1 - 2 * p.1 * smF hrS ps + smF sqS ps) := by
      simp only [dF, fitL, List.length_cons, Int.natCast_add, smF, hrS, sqS]
      grind
    simp only [List.length_cons] at h2
    rw [e]
    omega
theorem first_least {ps : List (Int × Int)} (h : okRd ps = true) : ∀ i, i + 1 < ps.length → (pat ps 0).1 + 1 ≤ (pat ps (i + 1)).1
  | 0, hi => okRd_up h hi
  | i + 1, hi => by
    have a := first_least h i (by omega)
    have b := okRd_up h (i := i + 1) hi
    omega
theorem line_dF {ps : List (Int × Int)} (h : okRd ps = true) (h2 : 2 ≤ ps.length) : 1 ≤ dF (fitL ps) := var_gt h2 (first_least h)
/-- The readings lie on the line from s on with the slope m. -/
def onL (ps : List (Int × Int)) (m s : Int) : Prop := ∀ i, i < ps.length → (pat ps i).2 = s + m * (pat ps i).1
theorem onL_sum (m s : Int) : ∀ {ps : List (Int × Int)}, onL ps m s → smF ofS ps = s * ps.length + m * smF hrS ps ∧ smF dgS ps = s * smF hrS ps + m * smF sqS ps
  | [], _ => by simp [smF]
  | p :: ps, h => by
    obtain ⟨i1, i2⟩ := onL_sum m s (ps := ps) (fun i hi => h (i + 1) (by simp; omega))
    have h0 : p.2 = s + m * p.1 := h 0 (by simp)
    simp only [smF, List.length_cons, Int.natCast_add, hrS, ofS, sqS, dgS, i1, i2, h0]
    refine ⟨by grind, by grind⟩
theorem onL_nF {ps : List (Int × Int)} {m s : Int} (h : onL ps m s) : nF (fitL ps) = m * dF (fitL ps) := by
  obtain ⟨a, b⟩ := onL_sum m s h
  simp only [nF, dF, fitL, a, b]
  grind
theorem onL_atF {ps : List (Int × Int)} {m s : Int} (h : onL ps m s) (t : Int) : atF (fitL ps) t = (s + m * t) * dF (fitL ps) := by
  obtain ⟨a, b⟩ := onL_sum m s h
  unfold atF
  rw [onL_nF h]
  simp only [dF, fitL, a, b]
  grind
theorem near_whole {c d : Int} (hd : 1 ≤ d) : near (c * d) d = c := by
  unfold near
  rw [show 2 * (c * d) + d = d + c * (2 * d) by grind, Int.add_mul_ediv_right _ _ (by omega), Int.ediv_eq_zero_of_lt (by omega) (by omega)]
  omega
theorem onL_oaF {ps : List (Int × Int)} {m s : Int} (h : onL ps m s) (hd : 1 ≤ dF (fitL ps)) (t : Int) : oaF (fitL ps) t = s + m * t := by
  unfold oaF
  rw [onL_atF h, near_whole hd]
theorem line_drE {ps : List (Int × Int)} {m s : Int} (hok : okRd ps = true) (h2 : 2 ≤ ps.length) (h : onL ps m s) : drE (fitL ps) = (24000 * m, 0) := by
  have hd := line_dF hok h2
  rw [drE_0 (fit_okR hok) (by omega), onL_nF h, show 24000 * (m * dF (fitL ps)) = 24000 * m * dF (fitL ps) by grind, near_whole hd]
theorem line_oaE {ps : List (Int × Int)} {m s : Int} (hok : okRd ps = true) (h2 : 2 ≤ ps.length) (h : onL ps m s) {t : Int} (ht : 0 ≤ t ∧ t ≤ 10000) : oaE (fitL ps) t = (s + m * t, 0) := by
  have hd := line_dF hok h2
  rw [oaE_0 (fit_okR hok) (by omega) (inB_true.2 ht), onL_oaF h hd]
theorem line_roE {ps : List (Int × Int)} {m s : Int} (hok : okRd ps = true) (h2 : 2 ≤ ps.length) (h : onL ps m s) : roE ps = (List.replicate ps.length 0, 0) := by
  have hd := line_dF hok h2
  rw [roE_0 hok (by omega)]
  have e : ∀ k, k ≤ ps.length → rsK ps (fitL ps) k = List.replicate k 0 := by
    intro k
    induction k with
    | zero => intro _; rfl
    | succ k ih =>
      intro hk
      rw [rsK_succ, ih (by omega), h k (by omega), onL_oaF h hd, Int.sub_self, List.replicate_succ']
  rw [e _ (Nat.le_refl _)]
end Go.Proofs.Ytmmmbchlkjljaaa
namespace Go.Proofs.Ytmmmbchlkjljaaa
open Go.RowKit

/-- Readings of a line, all before an hour. -/
def LnQ (ps : List (Int × Int)) (m s t : Int) : Prop := 0 ≤ t ∧ t ≤ 60 * ps.length ∧ ∀ i, i < ps.length → (pat ps i).2 = s + m * (pat ps i).1 ∧ 0 ≤ (pat ps i).1 ∧ (pat ps i).1 < t ∧ (i = 0 ∨ (pat ps (i - 1)).1 < (pat ps i).1)
theorem LnQ.nil (m s : Int) : LnQ [] m s 0 := ⟨by omega, by simp, fun i hi => by simp at hi⟩
theorem patS_lt {ps : List (Int × Int)} {q : Int × Int} {i : Nat} (h : i < ps.length) : pat (ps ++ [q]) i = pat ps i := by
  unfold pat
  rw [List.getElem?_append_left h]
theorem patS_eq {ps : List (Int × Int)} {q : Int × Int} : pat (ps ++ [q]) ps.length = q := by
  unfold pat
  rw [List.getElem?_append_right (Nat.le_refl _)]
  simp
theorem LnQ.snoc {ps : List (Int × Int)} {m s t d : Int} (h : LnQ ps m s t) (h0 : 0 ≤ d) (h1 : d ≤ 59) : LnQ (ps ++ [(t, s + m * t)]) m s (t + 1 + d) := by
  obtain ⟨a, b, c⟩ := h
  refine ⟨by omega, by simp; omega, fun i hi => ?_⟩
  rw [List.length_append, List.length_singleton] at hi
  by_cases hl : i < ps.length
  · obtain ⟨c1, c2, c3, c4⟩ := c i hl
    rw [patS_lt hl]
    refine ⟨c1, c2, by omega, ?_⟩
    rcases c4 with c4 | c4
    · exact .inl c4
    · right
      rw [patS_lt (by omega)]
      exact c4
  · obtain rfl : i = ps.length := by omega
    rw [patS_eq]
    refine ⟨rfl, a, by show t < _; omega, ?_⟩
    by_cases h0 : ps.length = 0
    · exact .inl h0
    · right
      rw [patS_lt (by omega)]
      exact (c (ps.length - 1) (by omega)).2.2.1
theorem LnQ.line {ps : List (Int × Int)} {m s t : Int} (h : LnQ ps m s t) : onL ps m s := fun i hi => (h.2.2 i hi).1
theorem LnQ.ok {ps : List (Int × Int)} {m s t : Int} (h : LnQ ps m s t) (hl : ps.length ≤ 9) (m0 : -5 ≤ m) (m1 : m ≤ 5) (s0 : -1000 ≤ s) (s1 : s ≤ 1000) : okRd ps = true := by
  obtain ⟨a, b, c⟩ := h
  refine okRd_iff.2 ⟨by omega, fun i hi => ?_⟩
  obtain ⟨c1, c2, c3, c4⟩ := c i hi
  have q := mulB (a := (pat ps i).1) (b := m) (A := 540) (B := 5) (by omega) (by omega) (by omega) (by omega)
  rw [Int.mul_comm (pat ps i).1 m] at q
  exact okAt_c (show pat ps i = ((pat ps i).1, (pat ps i).2) from rfl) (inB_true.2 (by omega)) (inB_true.2 (by omega)) c4
/-- A drawn pair of sums and an hour. -/
def FtHr (w : World) (e : Ending) (w' : World) : Prop := ∃ (f : Ft) (t : Int), e = .returned (.tuple #[.agg #[.int .i64 f.n, .int .i64 f.x, .int .i64 f.y, .int .i64 f.xx, .int .i64 f.xy], .int .i64 t]) ∧ Below w.heap.size w w'
set_option maxRecDepth 100000 in
set_option maxHeartbeats 4000000 in
theorem DrawOffAt_any (w : World) (a : Option Addr) (len cap : Nat) (zs : List Int) (h : IsRow .u8 w a len cap zs) :
    Calls Try.prog 37 #[.slice a len cap] w (FtHr w) := by
  have HA := Lib.hid (h.keep (bA (bR _) (.cells #[.int .i64 0, .int .i64 0, .int .i64 0, .int .i64 0, .int .i64 0] 41)))
  have R0 := Lib.hid (BoxL.new w [.int .i64 0, .int .i64 0, .int .i64 0, .int .i64 0, .int .i64 0] 41)
  have L0 := Lib.hid (bA (bR w) (.cells #[.int .i64 0, .int .i64 0, .int .i64 0, .int .i64 0, .int .i64 0] 41))
  have hle : w.heap.size < (w.alloc (.cells #[.int .i64 0, .int .i64 0, .int .i64 0, .int .i64 0, .int .i64 0] 41)).heap.size := by simp
  clear h
  go_enter Try.func37, Try.ntmps37
  go_wp2_with fail
  generalize w.alloc (.cells #[.int .i64 0, .int .i64 0, .int .i64 0, .int .i64 0, .int .i64 0] 41) = w0 at *
  refine (l00From_any w0 a len cap zs HA.out).mono ?_
  rintro e w1 ⟨rfl, s1, hb⟩
  have S1 := Lib.hid s1
  have L1 := Lib.hid (bT L0.out hb)
  have R1 := Lib.hid (R0.out.keep hb)
  clear s1 hb HA L0 R0
  generalize w0.heap.size = p at *
  have hwp : w.heap.size ≤ p := by omega
  go_wp2_with fail
  refine (l14DrawFit_any w1 p a len cap 0 S1.out (by omega)).mono ?_
  rintro e w2 ⟨f, rfl, hs⟩
  have S2 := Lib.hid (hs.src.keep (bA (bR _) (.cells #[.int .i64 f.n, .int .i64 f.x, .int .i64 f.y, .int .i64 f.xx, .int .i64 f.xy] 41)))
  have L2 := Lib.hid (bA (below_grown L1.out hs.gr hwp) (.cells #[.int .i64 f.n, .int .i64 f.x, .int .i64 f.y, .int .i64 f.xx, .int .i64 f.xy] 41))
  have R2 := Lib.hid ((R1.out.grownH hs.gr (by simp; omega)).alloc (.cells #[.int .i64 f.n, .int .i64 f.x, .int .i64 f.y, .int .i64 f.xx, .int .i64 f.xy] 41))
  have X2 := Lib.hid (BoxL.new w2 [.int .i64 f.n, .int .i64 f.x, .int .i64 f.y, .int .i64 f.xx, .int .i64 f.xy] 41)
  have hp2 : p < w2.heap.size := hs.src.lt
  clear hs S1 L1 R1
  go_wp2_with fail
  refine (pick_any _ p a len cap _ 400 S2.out (by omega) (by omega) (by omega)).mono ?_
  rintro e w3 ⟨t, t0, t1, rfl, s1, g1⟩
  have S3 := Lib.hid s1
  have L3 := Lib.hid (below_grown L2.out g1 hwp)
  have R3 := Lib.hid (R2.out.grownH g1 (by simp; omega))
  have X3 := Lib.hid (X2.out.grownH g1 (by simp; omega))
  clear s1 g1 S2 L2 R2 X2
  generalize w2.heap.size = kb at *
  go_wp2_with fail
  refine (oneQ_any _ p a len cap _ 8 S3.out (by omega) (by omega) (by omega)).mono ?_
  rintro e w4 ⟨q, rfl, s1, g1⟩
  have S4 := Lib.hid s1
  have L4 := Lib.hid (below_grown L3.out g1 hwp)
  have R4 := Lib.hid (R3.out.grownH g1 (by simp; omega))
  have X4 := Lib.hid (X3.out.grownH g1 (by simp; omega))
  clear s1 g1 S3 L3 R3 X3
  cases q
  · obtain ⟨c0, c1, c2, c3, c4, c5⟩ := X4.out.c5
    obtain ⟨r0, r1, r2, r3, r4, r5⟩ := R4.out.c5
    obtain ⟨f0, f1, f2, f3, f4⟩ := R4.out.f5
    go_wp2_with fail
    exact bodyPost_ret (v := .tuple #[.agg #[.int .i64 f.n, .int .i64 f.x, .int .i64 f.y, .int .i64 f.xx, .int .i64 f.xy], .int .i64 t]) (by simp [results, Try.results37, go_sem, r0, r1, r2, r3, r4]) rfl ⟨f, t, rfl, bset5R L4.out (Nat.le_refl _)⟩
  · go_wp2_with fail
    refine (among_any _ p a len cap _ _ 4 (-1) 10001 (S4.out.keep (bA (bR _) _)) (by omega) (by omega) (by omega) (by have := S4.out.lt; omega) (by simp) ?hnu).mono ?_
    case hnu =>
      intro i hi
      match i, hi with
      | 0, _ => exact ⟨_, by simp [go_sem]; rfl, by omega, by omega⟩
      | 1, _ => exact ⟨_, by simp [go_sem]; rfl, by omega, by omega⟩
      | 2, _ => exact ⟨_, by simp [go_sem]; rfl, by omega, by omega⟩
      | 3, _ => exact ⟨_, by simp [go_sem]; rfl, by omega, by omega⟩
    rintro e w5 ⟨z, z0, z1, rfl, s1, g1⟩
    have L5 := Lib.hid (below_grown (bA L4.out _) g1 hwp)
    have R5 := Lib.hid ((R4.out.alloc _).grownH g1 (by simp; omega))
    have X5 := Lib.hid ((X4.out.alloc _).grownH g1 (by simp; omega))
    clear s1 g1 S4 L4 R4 X4
    obtain ⟨c0, c1, c2, c3, c4, c5⟩ := X5.out.c5
    obtain ⟨r0, r1, r2, r3, r4, r5⟩ := R5.out.c5
    obtain ⟨f0, f1, f2, f3, f4⟩ := R5.out.f5
    go_wp2_with fail
    exact bodyPost_ret (v := .tuple #[.agg #[.int .i64 f.n, .int .i64 f.x, .int .i64 f.y, .int .i64 f.xx, .int .i64 f.xy], .int .i64 z]) (by simp [results, Try.results37, go_sem, r0, r1, r2, r3, r4]) rfl ⟨f, z, rfl, bset5R L5.out (Nat.le_refl _)⟩
set_option maxRecDepth 100000 in
set_option maxHeartbeats 16000000 in
theorem FnFittedLines_walk (a : Option Addr) (len cap : Nat) (zs : List Int) (w : World) (h : IsRow .u8 w a len cap zs) :
    Calls Try.prog 7 #[.slice a len cap] w fun e w' => e = .returned (.bool true) ∧ Below w.heap.size w w' := by
  have l1 := (row_of h).1
  unfold maxLen at l1
  have HA := Lib.hid h
  clear h
  by_cases hl : 4096 < len
  · have hd : decide (4096 < (len : Int)) = true := decide_eq_true (by omega)
    go_enter Try.func7, Try.ntmps7
    go_wp2_with fail
    refine (f6bigR_any _ _ _ _ (by omega)).mono ?_
    rw [hd]
    rintro e w1 ⟨rfl, rfl⟩
    go_wp2_with fail
    go_ret
    exact ⟨rfl, bR _⟩
  have hd : decide (4096 < (len : Int)) = false := decide_eq_false (by omega)
  go_enter Try.func7, Try.ntmps7
  go_wp2_with fail
  refine (f6bigR_any _ _ _ _ (by omega)).mono ?_
  rw [hd]
  rintro e w1 ⟨rfl, rfl⟩
  clear hd hl l1
  go_wp2_with fail
  refine (DrawOffAt_any w a len cap zs HA.out).mono ?_
  rintro e w1 ⟨f, t, rfl, hb⟩
  have X2 := Lib.hid (BoxL.new w1 [.int .i64 f.n, .int .i64 f.x, .int .i64 f.y, .int .i64 f.xx, .int .i64 f.xy] 41)
  have L2 := Lib.hid (bA hb (.cells #[.int .i64 f.n, .int .i64 f.x, .int .i64 f.y, .int .i64 f.xx, .int .i64 f.xy] 41))
  have CO1 := Lib.hid (fun W => OffAtI_any f t W)
  have CO2 := Lib.hid (fun W => OffAtS_any f t W)
  have CR1 := Lib.hid (fun W => DailyRateI_any f W)
  have CR2 := Lib.hid (fun W => DailyRateS_any f W)
  have CV1 := Lib.hid (fun W => ValidFitI_any f.n f.x f.y f.xx f.xy W)
  have CV2 := Lib.hid (fun W => ValidFitS_any f.n f.x f.y f.xx f.xy W)
  clear hb
  generalize oaE f t = oa at *
  generalize drE f = da at *
  generalize okFt ⟨f.n, f.x, f.y, f.xx, f.xy⟩ = vf at *
  obtain ⟨x1, k5⟩ := oa
  obtain ⟨z1, k7⟩ := da
  simp only at CO1 CO2 CR1 CR2
  have e1 : (k5 != k5) = false := by simp
  have e2 : (x1 != x1) = false := by simp
  have e3 : (k7 != k7) = false := by simp
  have e4 : (z1 != z1) = false := by simp
  have e5 : (vf != vf) = false := by simp
  obtain ⟨c0, c1, c2, c3, c4, c5⟩ := X2.out.c5
  go_wp2_with fail
  generalize w1.alloc (.cells #[.int .i64 f.n, .int .i64 f.x, .int .i64 f.y, .int .i64 f.xx, .int .i64 f.xy] 41) = w2 at *
  generalize w1.heap.size = kb at *
  refine (CO1.out _).mono ?_
  rintro e w3 ⟨rfl, hb⟩
  have X3 := Lib.hid (X2.out.keep hb)
  have L3 := Lib.hid (bT L2.out hb)
  clear hb X2 L2 CO1 c0 c1 c2 c3 c4 c5
  obtain ⟨c0, c1, c2, c3, c4, c5⟩ := X3.out.c5
  go_wp2_with fail
  refine (CO2.out _).mono ?_
  rintro e w4 ⟨rfl, hb⟩
  have X4 := Lib.hid (X3.out.keep hb)
  have L4 := Lib.hid (bT L3.out hb)
  clear hb X3 L3 CO2 c0 c1 c2 c3 c4 c5
  obtain ⟨c0, c1, c2, c3, c4, c5⟩ := X4.out.c5
  go_wp2_with fail
  refine (CR1.out _).mono ?_
  rintro e w5 ⟨rfl, hb⟩
  have X5 := Lib.hid (X4.out.keep hb)
  have L5 := Lib.hid (bT L4.out hb)
  clear hb X4 L4 CR1 c0 c1 c2 c3 c4 c5
  obtain ⟨c0, c1, c2, c3, c4, c5⟩ := X5.out.c5
  go_wp2_with fail
  refine (CR2.out _).mono ?_
  rintro e w6 ⟨rfl, hb⟩
  have X6 := Lib.hid (X5.out.keep hb)
  have L6 := Lib.hid (bT L5.out hb)
  clear hb X5 L5 CR2 c0 c1 c2 c3 c4 c5
  go_upto_region 8 with fail
  have HK := Lib.hid (fun (w' : World) (hb : Below w6.heap.size w6 w') => And.intro (X6.out.keep hb).c5 hb)
  go_cut [81] (fun s81 wx => s81 = .bool false ∧ Below w6.heap.size w6 wx)
  case first =>
    go_region_held3 (fun w' => (w'.cell? ⟨kb, 0, none⟩ = some (.int .i64 f.n) ∧ w'.cell? ⟨kb, 1, none⟩ = some (.int .i64 f.x) ∧ w'.cell? ⟨kb, 2, none⟩ = some (.int .i64 f.y) ∧ w'.cell? ⟨kb, 3, none⟩ = some (.int .i64 f.xx) ∧ w'.cell? ⟨kb, 4, none⟩ = some (.int .i64 f.xy) ∧ kb < w'.heap.size) ∧ Below w6.heap.size w6 w') (first | exact HK.out _ (bR _).drew | exact HK.out _ (bT (And.right (by assumption)) hb))
      (first
        | (go_at_call 34; refine (CV1.out _).mono ?_; rintro en x5 ⟨rfl, hb⟩; have hT := Lib.hid (bT (And.right (by assumption)) hb))
        | (go_at_call 40; refine (CV2.out _).mono ?_; rintro en x5 ⟨rfl, hb⟩; have hT := Lib.hid (bT (And.right (by assumption)) hb)))
    all_goals (go_wp2_with fail; go_meet; exact ⟨rfl, And.right (by assumption)⟩)
  case rest =>
    obtain ⟨rfl, hB⟩ := hcut
    have L7 := Lib.hid (bT L6.out hB)
    clear hB HK X6 L6 CV1 CV2 e1 e2 e3 e4 e5
    generalize wc = w7 at *
    go_wp2_with fail
    refine (f6roll_any _ a len cap zs 1402 (IsRow.keep HA.out L7.out)).mono ?_
    rintro e w8 ⟨rfl, s1, hb⟩
    have L8 := Lib.hid (bT L7.out hb)
    have hp := L7.out.size
    have D8 := Lib.hid (DS.new s1)
    clear s1 hb L7
    generalize w7.heap.size = p at *
    go_wp2_with fail
    refine (below_any _ p a len cap _ 11 D8.out.src (by omega) (by omega) (by omega)).mono ?_
    rintro e w9 ⟨m', m0, m1, rfl, s1, g1⟩
    have D9 := Lib.hid (D8.out.step s1 g1)
    clear s1 g1 D8
    go_wp2_with fail
    refine (below_any _ p a len cap _ 2000 D9.out.src (by omega) (by omega) (by omega)).mono ?_
    rintro e w10 ⟨s', u0, u1, rfl, s1, g1⟩
    have D10 := Lib.hid (D9.out.step s1 g1)
    clear s1 g1 D9
    go_upto_region 13 with fail
    generalize hm : m' - 5 = m at *
    generalize hs' : s' - 1000 = s at *
    have hm5 : -5 ≤ m ∧ m ≤ 5 := by omega
    have hs5 : -1000 ≤ s ∧ s ≤ 1000 := by omega
    clear hm hs' m0 m1 u0 u1
    have R10 := own_lower (B' := w8.heap.size) (row0p w10 53) D10.out.gr.size
    have S11 := Lib.hid (show RdS w8 p a len cap _ [] (.slice (some ⟨w10.heap.size, 0, none⟩) 0 0) (w10.alloc (.cells #[] 53)) from ⟨D10.out.alloc _, by simpa [pairC] using R10⟩)
    clear R10 D10
    go_wp2_with fail
    generalize w10.alloc (.cells #[] 53) = w11 at *
    refine (below_any _ p a len cap _ 8 S11.out.1.src (by omega) (by omega) (by omega)).mono ?_
    rintro e w12 ⟨n', n0, n1, rfl, s1, g1⟩
    have S12 := Lib.hid (((S11.out.step s1 g1).mono (show _ ≤ 1000 by omega)))
    clear s1 g1 S11
    generalize (Value.slice (some ⟨w10.heap.size, 0, none⟩) 0 0) = v0 at *
    go_wp2_with fail
    have hK : 2 ≤ 2 + n' ∧ 2 + n' ≤ 9 := by omega
    generalize 2 + n' = K at *
    clear n0 n1
    go_loopw [16, 17, 18] (fun vo va vk wr => ∃ (ps : List (Int × Int)) (t k : Int), va = .int .i64 t ∧ vk = .int .i64 k ∧ 0 ≤ k ∧ ps.length + k = K ∧ LnQ ps m s t ∧ RdS w8 p a len cap (1000 + 2 * ps.length) ps vo wr) (fun _ _ vk _ => (intOf vk).toNat)
    case atStart => exact ⟨[], 0, K, rfl, rfl, by omega, by simp, LnQ.nil m s, S12.out⟩
    case round =>
      obtain ⟨ps, t, k, rfl, rfl, hk0, hkN, hq, hs⟩ := hrel
      have S := Lib.hid hs
      have HQ := Lib.hid hq
      have hsz := hs.size
      have ht0 := hq.1
      have ht1 := hq.2.1
      have hps : ps.length ≤ 9 := by omega
      clear hs hq S12
      have qm := mulB (a := t) (b := m) (A := 540) (B := 5) (by omega) (by omega) (by omega) (by omega)
      rw [Int.mul_comm t m] at qm
      have hw1 : IntKind.i64.wrap (m * t) = m * t := IntWalk.i64_in _ (by omega)
      have hw2 : IntKind.i64.wrap (s + m * t) = s + m * t := IntWalk.i64_in _ (by omega)
      by_cases hlt : 0 < k
      · have HN := Lib.hid (fun d (h0 : 0 ≤ d) (h1 : d ≤ 59) => HQ.out.snoc (d := d) h0 h1)
        clear HQ
        go_wp2_with (at_builtin; refine appRd rfl _ _ rfl _ _ t (s + m * t) rfl S.out.2 hsz (by show Value.slice (some ⟨wr.heap.size, 0, none⟩) 1 1 = _; rfl) (by omega) ?_)
        intro v' wa hown hap
        have SA := Lib.hid (RdS.app (q := (t, s + m * t)) S.out (by rw [List.length_append]; exact hown) hap)
        clear hown hap S
        go_wp2_with fail
        refine (below_any _ p a len cap _ 60 SA.out.1.src (by omega) (by omega) (by omega)).mono ?_
        rintro e wb ⟨d, d0, d1, rfl, s1, g1⟩
        have SB := Lib.hid ((SA.out.step s1 g1).mono (show _ ≤ 1000 + 2 * (ps ++ [(t, s + m * t)]).length by rw [List.length_append, List.length_singleton]; omega))
        clear s1 g1 SA
        go_wp2_with fail
        go_roundw
        case rel => exact ⟨ps ++ [(t, s + m * t)], t + 1 + d, k - 1, by first | rfl | exact congrArg (Value.int .i64) (by omega), by first | rfl | exact congrArg (Value.int .i64) (by omega), by omega, by first | (rw [List.length_append, List.length_singleton]; omega) | (simp; omega) | omega, HN.out d d0 (by omega), SB.out⟩
        case measure => simp [intOf]; omega
      · obtain rfl : k = 0 := by omega
        have h2 : 2 ≤ ps.length := by omega
        have hok := HQ.out.ok hps hm5.1 hm5.2 hs5.1 hs5.2
        have VV := slQ_of S.out.2
        have L13 := Lib.hid (below_grown L8.out S.out.1.gr (by omega))
        obtain ⟨ao, cp, rfl, _, _⟩ := id VV
        have V13 := Lib.hid VV
        have hmax : ps.length ≤ 1000000000000 := by omega
        have CF := Lib.hid (fun W (h : SlQ W (.slice ao ps.length cp) ps) => FitOfI_any ps _ W h hmax)
        have CZ := Lib.hid (fun W (h : SlQ W (.slice ao ps.length cp) ps) => ResidualsOfI_any ps _ W h hmax)
        have CD := Lib.hid (fun W => DailyRateI_any (fitL ps) W)
        have CO := Lib.hid (fun W => OffAtI_any (fitL ps) t W)
        rw [ftE_0 hok] at CF
        rw [line_drE hok h2 HQ.out.line] at CD
        rw [line_oaE hok h2 HQ.out.line (by omega)] at CO
        rw [line_roE hok h2 HQ.out.line] at CZ
        simp only at CF CZ CD CO
        clear VV S HQ hok hmax L8
        generalize fitL ps = q at *
        generalize hzs : List.replicate ps.length (0 : Int) = zz at *
        have hzl : zz.length = ps.length := by rw [← hzs, List.length_replicate]
        have hz0 : ∀ i, i < zz.length → zz[i]? = some 0 := fun i hi => by rw [← hzs, List.getElem?_replicate, if_pos (by omega)]
        have HZ := Lib.hid hz0
        clear hzs hz0
        have e6 : IntKind.i64.wrap (24000 * m) = 24000 * m := IntWalk.i64_in _ (by omega)
        have e7 : (24000 * m == 24000 * m) = true := by simp
        have e8 : (s + m * t == s + m * t) = true := by simp
        go_wp2_with fail
        refine (CF.out _ V13.out).mono ?_
        rintro e w14 ⟨rfl, hb⟩
        have X14 := Lib.hid (BoxL.new w14 [.int .i64 q.n, .int .i64 q.x, .int .i64 q.y, .int .i64 q.xx, .int .i64 q.xy] 41)
        have V14 := Lib.hid ((V13.out.keep hb).keep (bA (bR _) (.cells #[.int .i64 q.n, .int .i64 q.x, .int .i64 q.y, .int .i64 q.xx, .int .i64 q.xy] 41)))
        have L14 := Lib.hid (bA (bT L13.out hb) (.cells #[.int .i64 q.n, .int .i64 q.x, .int .i64 q.y, .int .i64 q.xx, .int .i64 q.xy] 41))
        clear hb V13 L13 CF
        obtain ⟨c0, c1, c2, c3, c4, c5⟩ := X14.out.c5
        go_wp2_with fail
        refine (CD.out _).mono ?_
        rintro e w15 ⟨rfl, hb⟩
        have X15 := Lib.hid (X14.out.keep hb)
        have V15 := Lib.hid (V14.out.keep hb)
        have L15 := Lib.hid (bT L14.out hb)
        clear hb X14 V14 L14 CD c0 c1 c2 c3 c4 c5
        obtain ⟨c0, c1, c2, c3, c4, c5⟩ := X15.out.c5
        go_wp2_with fail
        refine (CO.out _).mono ?_
        rintro e w16 ⟨rfl, hb⟩
        have V16 := Lib.hid (V15.out.keep hb)
        have L16 := Lib.hid (bT L15.out hb)
        clear hb X15 V15 L15 CO c0 c1 c2 c3 c4 c5
        go_wp2_with fail
        refine (CZ.out _ V16.out).mono ?_
        rintro e w17 ⟨u, rfl, hr, hb⟩
        have L17 := Lib.hid (bT L16.out hb)
        obtain ⟨au, cu, rfl, hsu⟩ := sl64_of hr
        have HU := Lib.hid hsu
        clear hb hr hsu V16 L16 CZ
        go_wp2_with fail
        have e9 : ((zz.length : Int) == (ps.length : Int)) = true := by rw [hzl]; simp
        go_loopw [27] (fun vi wr => ∃ i : Nat, i ≤ zz.length ∧ vi = .int .i64 i ∧ Below w17.heap.size w17 wr) (fun vi _ => zz.length - (intOf vi).toNat)
        case atStart => exact ⟨0, Nat.zero_le _, rfl, bR _⟩
        case round =>
          obtain ⟨i, hi, rfl, hbel⟩ := hrel
          have BL := Lib.hid hbel
          by_cases hlz : i < zz.length
          · obtain ⟨g, rfl, hg, hci⟩ := HU.out (by omega)
            have z0 := HZ.out i hlz
            have c1 : wr.cell? ⟨g, i, none⟩ = some (.int .i64 0) := (hbel.cell (p := ⟨g, i, none⟩) hg).trans (by have := hci i hlz; rw [show at0 zz i = 0 by unfold at0; rw [z0]; rfl] at this; exact this)
            clear hci hbel
            go_wp2_with fail
            go_roundw
            case rel => exact ⟨i + 1, by omega, by go_num, by first | exact BL.out | exact BL.out.drew⟩
            case measure => simp [intOf]; omega
          · obtain rfl : i = zz.length := by omega
            clear hbel
            go_wp2_with fail
            go_ret
            exact ⟨rfl, bT L17.out BL.out⟩
end Go.Proofs.Ytmmmbchlkjljaaa

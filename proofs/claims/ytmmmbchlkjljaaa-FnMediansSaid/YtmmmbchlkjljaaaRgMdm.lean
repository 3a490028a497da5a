/-
  The draw of readings: spec.l14Draw.
  Drawn readings for the laws; laws.f6same.
  The walk of laws.FnMedians.
-/
import Derived.Test.YtmmmbchlkjljaaaDrawT
import Derived.Test.YtmmmbchlkjljaaaAd
import Derived.Test.YtmmmbchlkjljaaaRgR
import Derived.Test.YtmmmbchlkjljaaaRoll
import Derived.Test.YtmmmbchlkjljaaaEq64
import Derived.Test.YtmmmbchlkjljaaaRgG
import Derived.Test.YtmmmbchlkjljaaaRgJ
namespace Go.Proofs.Ytmmmbchlkjljaaa
open Go.RowKit

/-- A source and a row of readings of one's own. -/
def RdS (w : World) (p : Nat) (a : Option Addr) (len cap c : Nat) (ps : List (Int × Int)) (vo : Value) (W : World) : Prop :=
  DS w p a len cap c W ∧ W.ownsRow w.heap.size 53 2 vo ps.length (pairC ps)
theorem RdS.step {w : World} {p : Nat} {a : Option Addr} {len cap c d : Nat} {ps : List (Int × Int)} {vo : Value} {W x : World} (h : RdS w p a len cap c ps vo W) (s : SrcAt x p a len cap d) (g : W.grownBy x (some p)) : RdS w p a len cap d ps vo x :=
  ⟨h.1.step s g, own_grown h.2 g h.1.pl⟩
theorem RdS.keep {w : World} {p : Nat} {a : Option Addr} {len cap c : Nat} {ps : List (Int × Int)} {vo : Value} {W x : World} (h : RdS w p a len cap c ps vo W) (hb : Below W.heap.size W x) : RdS w p a len cap c ps vo x := ⟨h.1.keep hb, own_keep h.2 hb⟩
theorem RdS.alloc {w : World} {p : Nat} {a : Option Addr} {len cap c : Nat} {ps : List (Int × Int)} {vo : Value} {W : World} (h : RdS w p a len cap c ps vo W) (ob : Obj) : RdS w p a len cap c ps vo (W.alloc ob) := h.keep (bA (bR _) _)
theorem RdS.mono {w : World} {p : Nat} {a : Option Addr} {len cap c d : Nat} {ps : List (Int × Int)} {vo : Value} {W : World} (h : RdS w p a len cap c ps vo W) (hd : c ≤ d) : RdS w p a len cap d ps vo W := ⟨h.1.mono hd, h.2⟩
theorem Apd.gr {v v' : Value} {w w' : World} (h : Apd v v' w w') : w.grownBy w' v.ownBlock := ⟨h.os, h.tape, h.output, h.size, fun k hk hn => h.blk k hk (fun e => hn e.symm)⟩
theorem DS.grow {w : World} {p : Nat} {a : Option Addr} {len cap c : Nat} {w' x : World} {row : Option Nat} (h : DS w p a len cap c w') (g : w'.grownBy x row) (hr : ∀ r, row = some r → w.heap.size ≤ r) : DS w p a len cap c x :=
  ⟨h.src.grown g (fun e => by have := hr p e; have := h.pl; omega) (fun hl xb xo e e2 => by have := hr xb e2; have := h.old hl xb xo e; omega), gGrown h.gr g hr, h.old, h.pl⟩
theorem RdS.app {w : World} {p : Nat} {a : Option Addr} {len cap c : Nat} {ps : List (Int × Int)} {vo v' : Value} {W x : World} {q : Int × Int} (h : RdS w p a len cap c ps vo W) (ho : x.ownsRow w.heap.size 53 2 v' (ps ++ [q]).length (pairC (ps ++ [q]))) (hap : Apd vo v' W x) : RdS w p a len cap c (ps ++ [q]) v' x :=
  ⟨h.1.grow hap.gr (fun r e => (own_blk h.2 r e).1), ho⟩
theorem RdS.size {w : World} {p : Nat} {a : Option Addr} {len cap c : Nat} {ps : List (Int × Int)} {vo : Value} {W : World} (h : RdS w p a len cap c ps vo W) : w.heap.size ≤ W.heap.size := h.1.gr.size
theorem RdS.nil {w : World} {p : Nat} {a : Option Addr} {len cap c : Nat} {ps : List (Int × Int)} {vo : Value} {W : World} (h : RdS w p a len cap c ps vo W) : RdS w p a len cap c [] (.slice none 0 0) W := ⟨h.1, World.ownsRow_nil _ _ _ _⟩
theorem RdS.set1 {w : World} {p : Nat} {a : Option Addr} {len cap c g cp i : Nat} {ps : List (Int × Int)} {W : World} {z : Int} (h : RdS w p a len cap c ps (.slice (some ⟨g, 0, none⟩) ps.length cp) W) (hi : i < ps.length) : RdS w p a len cap c (ps.set i (z, (pat ps i).2)) (.slice (some ⟨g, 0, none⟩) ps.length cp) (W.setCell ⟨g, i * 2, none⟩ (.int .i64 z)) := by
  refine ⟨h.1.set (own_blk h.2 g rfl).1, ?_⟩
  rw [List.length_set, pairC_set1 ps i z hi]
  exact (h.2.stored (i * 2) (.int .i64 z)).1
theorem RdS.set2 {w : World} {p : Nat} {a : Option Addr} {len cap c g cp i : Nat} {ps : List (Int × Int)} {W : World} {z : Int} (h : RdS w p a len cap c ps (.slice (some ⟨g, 0, none⟩) ps.length cp) W) (hi : i < ps.length) : RdS w p a len cap c (ps.set i ((pat ps i).1, z)) (.slice (some ⟨g, 0, none⟩) ps.length cp) (W.setCell ⟨g, i * 2 + 1, none⟩ (.int .i64 z)) := by
  refine ⟨h.1.set (own_blk h.2 g rfl).1, ?_⟩
  rw [List.length_set, pairC_set2 ps i z hi]
  exact (h.2.stored (i * 2 + 1) (.int .i64 z)).1
theorem pick_small (w : World) (p : Nat) (n : Int) (h : n ≤ 1) :
    Calls Try.prog 73 #[.pointer (some ⟨p, 0, none⟩), .int .i64 n] w fun e w' => e = .returned (.int .i64 0) ∧ w = w' := by
  go_enter Try.func73, Try.ntmps73
  go_wp2_with fail
  go_ret
  exact ⟨rfl, rfl⟩
theorem pickN_any (w : World) (p : Nat) (a : Option Addr) (len cap c n : Nat) (h : SrcAt w p a len cap c) (hc : c ≤ 900000) (h2 : n ≤ 1000) :
    Calls Try.prog 73 #[.pointer (some ⟨p, 0, none⟩), .int .i64 (n : Int)] w fun e w' => ∃ x : Int, 0 ≤ x ∧ (x < n ∨ x = 0) ∧ e = .returned (.int .i64 x) ∧ SrcAt w' p a len cap (c + 2) ∧ w.grownBy w' (some p) := by
  by_cases hn : 1 ≤ n
  · refine (pick_any w p a len cap c (n : Int) h hc (by omega) (by omega)).mono ?_
    rintro e w' ⟨x, x0, x1, rfl, s, g⟩
    exact ⟨x, x0, Or.inl (by omega), rfl, s, g⟩
  · refine (pick_small w p (n : Int) (by omega)).mono ?_
    rintro e w' ⟨rfl, rfl⟩
    exact ⟨0, by omega, Or.inr rfl, rfl, h.mono (by omega), gRefl _ _⟩
theorem rowLitR (W : World) (B n : Nat) (cs : Array Value) (t : TypeId) (hB : B ≤ W.heap.size) (hn : cs.size = n * 2) (hm : n ≤ maxLen) : (W.alloc (.cells cs t)).ownsRow B t 2 (.slice (some ⟨W.heap.size, 0, none⟩) n n) n cs.toList :=
  ⟨by simp [hn], .inr ⟨W.heap.size, n, cs, rfl, hB, (MapKept.heap_alloc W _).1, Nat.le_refl _, hm, by first | exact hn | simp [hn], by rw [← hn, ← Array.length_toList, List.take_length]⟩⟩
def RdPost (w : World) (p : Nat) (a : Option Addr) (len cap c : Nat) (e : Ending) (w' : World) : Prop :=
  ∃ (ps : List (Int × Int)) (v : Value), e = .returned v ∧ ps.length ≤ 64 ∧ RdS w p a len cap c ps v w'
set_option maxRecDepth 100000 in
set_option maxHeartbeats 8000000 in
theorem l14Draw_any (w : World) (p : Nat) (a : Option Addr) (len cap c : Nat) (h : SrcAt w p a len cap c) (hc : c ≤ 600000) :
    Calls Try.prog 64 #[.pointer (some ⟨p, 0, none⟩)] w (RdPost w p a len cap (c + 500)) := by
  have S0 := Lib.hid (show RdS w p a len cap c [] (.slice (some ⟨w.heap.size, 0, none⟩) 0 0) (w.alloc (.cells #[] 53)) from ⟨(DS.new h).alloc _, by simpa [pairC] using rowPair_new w 53⟩)
  have hp := h.lt
  have hle : w.heap.size ≤ (w.alloc (.cells #[] 53)).heap.size := by simp
  clear h
  go_enter Try.func64, Try.ntmps64
  go_wp2_with fail
  generalize w.alloc (.cells #[] 53) = W0 at *
  generalize hrow : (Value.slice (some ⟨w.heap.size, 0, none⟩) 0 0) = row0_ at *
  clear hrow
  refine (pick_any _ p a len cap _ 20 S0.out.1.src (by omega) (by omega) (by omega)).mono ?_
  rintro e w1 ⟨hr, hr0, hr1, rfl, s1, g1⟩
  have S1 := Lib.hid (S0.out.step s1 g1)
  clear s1 g1 S0
  go_wp2_with fail
  refine (pick_any _ p a len cap _ 2000 S1.out.1.src (by omega) (by omega) (by omega)).mono ?_
  rintro e w2 ⟨of, of0, of1, rfl, s1, g1⟩
  have S2 := Lib.hid (S1.out.step s1 g1)
  clear s1 g1 S1
  go_wp2_with fail
  refine (pick_any _ p a len cap _ 41 S2.out.1.src (by omega) (by omega) (by omega)).mono ?_
  rintro e w3 ⟨sl, sl0, sl1, rfl, s1, g1⟩
  have S3 := Lib.hid (S2.out.step s1 g1)
  clear s1 g1 S2
  go_wp2_with fail
  refine (oneQ_any _ p a len cap _ 4 S3.out.1.src (by omega) (by omega) (by omega)).mono ?_
  rintro e w4 ⟨ex, rfl, s1, g1⟩
  have S4 := Lib.hid (S3.out.step s1 g1)
  clear s1 g1 S3
  go_wp2_with fail
  refine (pick_any _ p a len cap _ 12 S4.out.1.src (by omega) (by omega) (by omega)).mono ?_
  rintro e w5 ⟨kk, kk0, kk1, rfl, s1, g1⟩
  have S5 := Lib.hid (S4.out.step s1 g1)
  clear s1 g1 S4
  go_wp2_with fail
  obtain ⟨k0, rfl⟩ := Int.eq_ofNat_of_zero_le kk0
  generalize hsl : sl - 20 = slo at *
  have hsb : -20 ≤ slo ∧ slo ≤ 20 := by omega
  clear hsl
  go_loopw [3, 4, 5, 8] (fun vo vh vf vk wr => ∃ (ps : List (Int × Int)) (hr of : Int) (k : Nat), ps.length + k ≤ 11 ∧ vk = .int .i64 k ∧ vh = .int .i64 hr ∧ vf = .int .i64 of ∧ (0 ≤ hr ∧ hr ≤ 20 + 41 * ps.length) ∧ (-(1000 + 2000 * ps.length) ≤ of ∧ of ≤ 1000 + 2000 * ps.length) ∧ RdS w p a len cap (c + 10 + 10 * ps.length) ps vo wr) (fun _ _ _ vk _ => (intOf vk).toNat)
  case atStart => exact ⟨[], hr, of - 1000, k0, by simp; omega, rfl, rfl, rfl, by simp; omega, by simp; omega, S5.out.mono (by simp)⟩
  case round =>
    obtain ⟨ps, hr, of, k, hk, rfl, rfl, rfl, hhr, hof, hs⟩ := hrel
    have S6 := Lib.hid hs
    have hsz := hs.size
    clear hs S5
    by_cases hlt : 0 < k
    · go_wp2_with (at_builtin; refine appRd rfl _ _ rfl _ _ hr of rfl S6.out.2 hsz (by show Value.slice (some ⟨wr.heap.size, 0, none⟩) 1 1 = _; rfl) (by omega) ?_)
      intro v' w7 hown hap
      have S7 := Lib.hid (S6.out.app (q := (hr, of)) (by rw [List.length_append]; exact hown) hap)
      clear hown hap S6
      go_wp2_with fail
      refine (pick_any _ p a len cap _ 40 S7.out.1.src (by omega) (by omega) (by omega)).mono ?_
      rintro e w8 ⟨st, st0, st1, rfl, s1, g1⟩
      have S8 := Lib.hid (S7.out.step s1 g1)
      clear s1 g1 S7
      have m1 := mulB (a := slo) (b := 1 + st) (A := 20) (B := 40) hsb.1 hsb.2 (by omega) (by omega)
      have HPL := Lib.hid (show (ps ++ [(hr, of)]).length = ps.length + 1 by simp)
      cases ex
      · go_wp2_with fail
        generalize slo * (1 + st) = dl at *
        refine (pick_any _ p a len cap _ 61 S8.out.1.src (by omega) (by omega) (by omega)).mono ?_
        rintro e w9 ⟨dv, dv0, dv1, rfl, s1, g1⟩
        have S9 := Lib.hid (S8.out.step s1 g1)
        clear s1 g1 S8
        go_wp2_with fail
        refine (oneQ_any _ p a len cap _ 16 S9.out.1.src (by omega) (by omega) (by omega)).mono ?_
        rintro e wb ⟨q16, rfl, s1, g1⟩
        have SB := Lib.hid (S9.out.step s1 g1)
        clear s1 g1 S9
        cases q16
        · go_wp2_with fail
          go_roundw
          case rel => exact ⟨ps ++ [(hr, of)], hr + (1 + st), of + dl + (dv - 30), k - 1, by rw [HPL.out]; omega, congrArg (Value.int .i64) (by omega), rfl, rfl, by rw [HPL.out]; omega, by rw [HPL.out]; omega, SB.out.mono (by rw [HPL.out]; omega)⟩
          case measure => simp [intOf]; omega
        · have hSB := SB.out.size
          go_wp2_with fail
          refine (among_any _ p a len cap _ _ 2 (-900) 900 (SB.out.alloc _).1.src (by omega) (by omega) (by omega) (by omega) (by simp) ?hnu).mono ?_
          case hnu =>
            intro i hi
            match i, hi with
            | 0, _ => exact ⟨_, by simp [go_sem]; rfl, by omega, by omega⟩
            | 1, _ => exact ⟨_, by simp [go_sem]; rfl, by omega, by omega⟩
          rintro e wc ⟨z, z0, z1, rfl, s1, g1⟩
          have SC := Lib.hid ((SB.out.alloc _).step s1 g1)
          clear s1 g1 SB
          go_wp2_with fail
          go_roundw
          case rel => exact ⟨ps ++ [(hr, of)], hr + (1 + st), of + dl + (dv - 30) + z, k - 1, by rw [HPL.out]; omega, congrArg (Value.int .i64) (by omega), rfl, rfl, by rw [HPL.out]; omega, by rw [HPL.out]; omega, SC.out.mono (by rw [HPL.out]; omega)⟩
          case measure => simp [intOf]; omega
      · go_wp2_with fail
        generalize slo * (1 + st) = dl at *
        refine (oneQ_any _ p a len cap _ 16 S8.out.1.src (by omega) (by omega) (by omega)).mono ?_
        rintro e wb ⟨q16, rfl, s1, g1⟩
        have SB := Lib.hid (S8.out.step s1 g1)
        clear s1 g1 S8
        cases q16
        · go_wp2_with fail
          go_roundw
          case rel => exact ⟨ps ++ [(hr, of)], hr + (1 + st), of + dl, k - 1, by rw [HPL.out]; omega, congrArg (Value.int .i64) (by omega), rfl, rfl, by rw [HPL.out]; omega, by rw [HPL.out]; omega, SB.out.mono (by rw [HPL.out]; omega)⟩
          case measure => simp [intOf]; omega
        · have hSB := SB.out.size
          go_wp2_with fail
          refine (among_any _ p a len cap _ _ 2 (-900) 900 (SB.out.alloc _).1.src (by omega) (by omega) (by omega) (by omega) (by simp) ?hnu).mono ?_
          case hnu =>
            intro i hi
            match i, hi with
            | 0, _ => exact ⟨_, by simp [go_sem]; rfl, by omega, by omega⟩
            | 1, _ => exact ⟨_, by simp [go_sem]; rfl, by omega, by omega⟩
          rintro e wc ⟨z, z0, z1, rfl, s1, g1⟩
          have SC := Lib.hid ((SB.out.alloc _).step s1 g1)
          clear s1 g1 SB
          go_wp2_with fail
          go_roundw
          case rel => exact ⟨ps ++ [(hr, of)], hr + (1 + st), of + dl + z, k - 1, by rw [HPL.out]; omega, congrArg (Value.int .i64) (by omega), rfl, rfl, by rw [HPL.out]; omega, by rw [HPL.out]; omega, SC.out.mono (by rw [HPL.out]; omega)⟩
          case measure => simp [intOf]; omega
    · obtain rfl : k = 0 := by omega
      have hpl : ps.length ≤ 11 := by omega
      clear hk hhr hof
      have hcc : c + 10 + 10 * ps.length ≤ c + 120 := by omega
      obtain ⟨ao, co, rfl, hsp⟩ := slP_of S6.out.2
      go_wp2_with fail
      refine (pickN_any _ p a len cap _ ps.length S6.out.1.src (by omega) (by omega)).mono ?_
      rintro e w7 ⟨at_, at0_, at1_, rfl, s1, g1⟩
      have S7 := Lib.hid (S6.out.step s1 g1)
      clear s1 g1 S6
      go_wp2_with fail
      refine (pick_any _ p a len cap _ 30 S7.out.1.src (by omega) (by omega) (by omega)).mono ?_
      rintro e w8 ⟨q, q0, q1, rfl, s1, g1⟩
      have S8 := Lib.hid (S7.out.step s1 g1)
      clear s1 g1 S7
      by_cases e0 : q = 0
      · subst e0
        by_cases hz : 0 < ps.length
        · obtain ⟨i, rfl⟩ := Int.eq_ofNat_of_zero_le at0_
          have hil : i < ps.length := by omega
          obtain ⟨g, rfl, _, _⟩ := hsp (by omega)
          have h8 := S8.out.size
          go_wp2_with fail
          refine (among_any _ p a len cap _ _ 3 (-1) 10001 (S8.out.alloc _).1.src (by omega) (by omega) (by omega) (by omega) (by simp) ?hnu).mono ?_
          case hnu =>
            intro i hi
            match i, hi with
            | 0, _ => exact ⟨_, by simp [go_sem]; rfl, by omega, by omega⟩
            | 1, _ => exact ⟨_, by simp [go_sem]; rfl, by omega, by omega⟩
            | 2, _ => exact ⟨_, by simp [go_sem]; rfl, by omega, by omega⟩
          rintro e w9 ⟨z, z0, z1, rfl, s1, g1⟩
          have S9 := Lib.hid ((S8.out.alloc _).step s1 g1)
          clear s1 g1 S8
          have f1 : w9.frozen? ⟨g, i * 2, none⟩ = false := S9.out.2.frozenAt (i * 2)
          obtain ⟨c1, c2⟩ := own_pairs S9.out.2 i hil
          have SF := Lib.hid (S9.out.set1 (z := z) hil)
          clear S9
          go_wp2_with fail
          go_ret
          exact ⟨ps.set i (z, (pat ps i).2), _, rfl, by rw [List.length_set]; omega, SF.out.mono (by omega)⟩
        · have hz0 : ¬ (0 : Int) < (ps.length : Int) := by omega
          go_wp2_with fail
          go_ret
          exact ⟨ps, _, rfl, by omega, S8.out.mono (by omega)⟩
      have b0 : (q == 0) = false := by simpa using e0
      by_cases e1 : q = 1
      · subst e1
        by_cases hz : 0 < ps.length
        · obtain ⟨i, rfl⟩ := Int.eq_ofNat_of_zero_le at0_
          have hil : i < ps.length := by omega
          obtain ⟨g, rfl, _, _⟩ := hsp (by omega)
          have h8 := S8.out.size
          go_wp2_with fail
          refine (among_any _ p a len cap _ _ 4 (-100001) 100001 (S8.out.alloc _).1.src (by omega) (by omega) (by omega) (by omega) (by simp) ?hnu).mono ?_
          case hnu =>
            intro i hi
            match i, hi with
            | 0, _ => exact ⟨_, by simp [go_sem]; rfl, by omega, by omega⟩
            | 1, _ => exact ⟨_, by simp [go_sem]; rfl, by omega, by omega⟩
            | 2, _ => exact ⟨_, by simp [go_sem]; rfl, by omega, by omega⟩
            | 3, _ => exact ⟨_, by simp [go_sem]; rfl, by omega, by omega⟩
          rintro e w9 ⟨z, z0, z1, rfl, s1, g1⟩
          have S9 := Lib.hid ((S8.out.alloc _).step s1 g1)
          clear s1 g1 S8
          have f1 : w9.frozen? ⟨g, i * 2 + 1, none⟩ = false := S9.out.2.frozenAt (i * 2 + 1)
          obtain ⟨c1, c2⟩ := own_pairs S9.out.2 i hil
          have SF := Lib.hid (S9.out.set2 (z := z) hil)
          clear S9
          go_wp2_with fail
          go_ret
          exact ⟨ps.set i ((pat ps i).1, z), _, rfl, by rw [List.length_set]; omega, SF.out.mono (by omega)⟩
        · have hz0 : ¬ (0 : Int) < (ps.length : Int) := by omega
          go_wp2_with fail
          go_ret
          exact ⟨ps, _, rfl, by omega, S8.out.mono (by omega)⟩
      have b1 : (q == 1) = false := by simpa using e1
      by_cases e2 : q = 2
      · subst e2
        have SN := Lib.hid (S8.out.nil)
        clear S8
        go_wp2_with fail
        go_loopw [3, 11] (fun vo vk wr => ∃ (ps : List (Int × Int)) (k : Nat), k ≤ ps.length ∧ ps.length ≤ k ∧ k ≤ 61 ∧ vk = .int .i64 k ∧ RdS w p a len cap (c + 200 + 2 * k) ps vo wr) (fun _ vk _ => 61 - (intOf vk).toNat)
        case atStart => exact ⟨[], 0, by simp, by simp, by omega, rfl, SN.out.mono (by omega)⟩
        case round =>
          obtain ⟨ps, k, hk1, hk2, hk3, rfl, hs⟩ := hrel
          have SA := Lib.hid hs
          clear hs SN
          go_wp2_with fail
          refine (pick_any _ p a len cap _ 2 SA.out.1.src (by omega) (by omega) (by omega)).mono ?_
          rintro e w9 ⟨x, x0, x1, rfl, s1, g1⟩
          have SB := Lib.hid (SA.out.step s1 g1)
          clear s1 g1 SA
          have hsz := SB.out.size
          by_cases hlt : (k : Int) < 60 + x
          · have m1 := mulB (a := (k : Int)) (b := (k : Int)) (A := 61) (B := 61) (by omega) (by omega) (by omega) (by omega)
            go_wp2_with (at_builtin; refine appRd rfl _ _ rfl _ _ ((k : Int) * 150) ((k : Int) * k) rfl SB.out.2 hsz (by show Value.slice (some ⟨w9.heap.size, 0, none⟩) 1 1 = _; rfl) (by omega) ?_)
            intro v' wa hown hap
            have SC := Lib.hid (SB.out.app (q := ((k : Int) * 150, (k : Int) * k)) (by rw [List.length_append]; exact hown) hap)
            clear hown hap SB
            go_wp2_with fail
            go_roundw
            case rel => exact ⟨_, k + 1, by simp; omega, by simp; omega, by omega, by go_num, SC.out.mono (by omega)⟩
            case measure => simp [intOf]; omega
          · go_wp2_with fail
            go_ret
            exact ⟨ps, _, rfl, by omega, SB.out.mono (by omega)⟩
      have b2 : (q == 2) = false := by simpa using e2
      by_cases e3 : q = 3
      · subst e3
        have SF := Lib.hid (show RdS w p a len cap (c + 500) [(0, -100000), (10000, 100000)] (.slice (some ⟨w8.heap.size, 0, none⟩) 2 2) (w8.alloc (.cells #[.int .i64 0, .int .i64 (-100000), .int .i64 10000, .int .i64 100000] 53)) from ⟨(S8.out.1.alloc _).mono (by omega), rowLitR w8 w.heap.size 2 _ _ S8.out.size rfl (by unfold maxLen; omega)⟩)
        clear S8
        go_wp2_with fail
        go_ret
        exact ⟨_, _, rfl, by simp, SF.out⟩
      have b3 : (q == 3) = false := by simpa using e3
      go_wp2_with fail
      go_ret
      exact ⟨ps, _, rfl, by omega, S8.out.mono (by omega)⟩
end Go.Proofs.Ytmmmbchlkjljaaa
namespace Go.Proofs.Ytmmmbchlkjljaaa
open Go.RowKit

def RdW (w : World) (e : Ending) (w' : World) : Prop := ∃ (ps : List (Int × Int)) (v : Value), e = .returned v ∧ ps.length ≤ 64 ∧ SlB w' v ps ∧ Below w.heap.size w w'
set_option maxRecDepth 100000 in
set_option maxHeartbeats 2000000 in
theorem DrawFitOf_any (w : World) (a : Option Addr) (len cap : Nat) (zs : List Int) (h : IsRow .u8 w a len cap zs) :
    Calls Try.prog 25 #[.slice a len cap] w (RdW w) := by
  go_enter Try.func25, Try.ntmps25
  go_wp2_with fail
  refine (l00From_any w a len cap zs h).mono ?_
  rintro e w1 ⟨rfl, s1, hb⟩
  have S1 := Lib.hid s1
  have L1 := Lib.hid hb
  clear s1 hb h
  generalize hpp : w.heap.size = p at S1 ⊢
  have hwp : w.heap.size ≤ p := by omega
  go_wp2_with fail
  refine (l14Draw_any w1 p a len cap 0 S1.out (by omega)).mono ?_
  rintro e w2 ⟨ps, v, rfl, hl, hs⟩
  have L2 := Lib.hid (below_grown L1.out hs.1.gr hwp)
  have O2 := Lib.hid (slB_of hs.2)
  clear hs L1 S1
  go_wp2_with fail
  go_ret
  exact ⟨ps, v, rfl, hl, O2.out, L2.out⟩
set_option maxRecDepth 100000 in
set_option maxHeartbeats 2000000 in
theorem DrawMedianOff_any (w : World) (a : Option Addr) (len cap : Nat) (zs : List Int) (h : IsRow .u8 w a len cap zs) :
    Calls Try.prog 48 #[.slice a len cap] w (RdW w) := by
  go_enter Try.func48, Try.ntmps48
  go_wp2_with fail
  refine (l00From_any w a len cap zs h).mono ?_
  rintro e w1 ⟨rfl, s1, hb⟩
  have S1 := Lib.hid s1
  have L1 := Lib.hid hb
  clear s1 hb h
  generalize hpp : w.heap.size = p at S1 ⊢
  have hwp : w.heap.size ≤ p := by omega
  go_wp2_with fail
  refine (l14Draw_any w1 p a len cap 0 S1.out (by omega)).mono ?_
  rintro e w2 ⟨ps, v, rfl, hl, hs⟩
  have L2 := Lib.hid (below_grown L1.out hs.1.gr hwp)
  have O2 := Lib.hid (slB_of hs.2)
  clear hs L1 S1
  go_wp2_with fail
  go_ret
  exact ⟨ps, v, rfl, hl, O2.out, L2.out⟩
set_option maxRecDepth 100000 in
set_option maxHeartbeats 2000000 in
theorem DrawBestChange_any (w : World) (a : Option Addr) (len cap : Nat) (zs : List Int) (h : IsRow .u8 w a len cap zs) :
    Calls Try.prog 50 #[.slice a len cap] w (RdW w) := by
  go_enter Try.func50, Try.ntmps50
  go_wp2_with fail
  refine (l00From_any w a len cap zs h).mono ?_
  rintro e w1 ⟨rfl, s1, hb⟩
  have S1 := Lib.hid s1
  have L1 := Lib.hid hb
  clear s1 hb h
  generalize hpp : w.heap.size = p at S1 ⊢
  have hwp : w.heap.size ≤ p := by omega
  go_wp2_with fail
  refine (l14Draw_any w1 p a len cap 0 S1.out (by omega)).mono ?_
  rintro e w2 ⟨ps, v, rfl, hl, hs⟩
  have L2 := Lib.hid (below_grown L1.out hs.1.gr hwp)
  have O2 := Lib.hid (slB_of hs.2)
  clear hs L1 S1
  go_wp2_with fail
  go_ret
  exact ⟨ps, v, rfl, hl, O2.out, L2.out⟩
set_option maxRecDepth 100000 in
set_option maxHeartbeats 2000000 in
theorem DrawResidualsOf_any (w : World) (a : Option Addr) (len cap : Nat) (zs : List Int) (h : IsRow .u8 w a len cap zs) :
    Calls Try.prog 42 #[.slice a len cap] w (RdW w) := by
  go_enter Try.func42, Try.ntmps42
  go_wp2_with fail
  refine (l00From_any w a len cap zs h).mono ?_
  rintro e w1 ⟨rfl, s1, hb⟩
  have S1 := Lib.hid s1
  have L1 := Lib.hid hb
  clear s1 hb h
  generalize hpp : w.heap.size = p at S1 ⊢
  have hwp : w.heap.size ≤ p := by omega
  go_wp2_with fail
  refine (l14Draw_any w1 p a len cap 0 S1.out (by omega)).mono ?_
  rintro e w2 ⟨ps, v, rfl, hl, hs⟩
  have L2 := Lib.hid (below_grown L1.out hs.1.gr hwp)
  have O2 := Lib.hid (slB_of hs.2)
  clear hs L1 S1
  go_wp2_with fail
  go_ret
  exact ⟨ps, v, rfl, hl, O2.out, L2.out⟩
def RdW2 (w : World) (e : Ending) (w' : World) : Prop := ∃ (ps : List (Int × Int)) (v : Value) (m : Int), e = .returned (.tuple #[v, .int .i64 m]) ∧ ps.length ≤ 64 ∧ SlB w' v ps ∧ Below w.heap.size w w'
set_option maxRecDepth 100000 in
set_option maxHeartbeats 4000000 in
theorem DrawJumpsOf_any (w : World) (a : Option Addr) (len cap : Nat) (zs : List Int) (h : IsRow .u8 w a len cap zs) :
    Calls Try.prog 49 #[.slice a len cap] w (RdW2 w) := by
  go_enter Try.func49, Try.ntmps49
  go_wp2_with fail
  refine (l00From_any w a len cap zs h).mono ?_
  rintro e w1 ⟨rfl, s1, hb⟩
  have S1 := Lib.hid s1
  have L1 := Lib.hid hb
  clear s1 hb h
  generalize hpp : w.heap.size = p at S1 ⊢
  have hwp : w.heap.size ≤ p := by omega
  have hp1 := S1.out.lt
  go_wp2_with fail
  refine (l14Draw_any w1 p a len cap 0 S1.out (by omega)).mono ?_
  rintro e w2 ⟨ps, v, rfl, hl, hs⟩
  have D2 := Lib.hid hs
  clear hs S1
  go_wp2_with fail
  refine (oneQ_any _ p a len cap _ 10 D2.out.1.src (by omega) (by omega) (by omega)).mono ?_
  rintro e w3 ⟨q, rfl, s1, g1⟩
  have D3 := Lib.hid (D2.out.step s1 g1)
  clear s1 g1 D2
  cases q
  · go_wp2_with fail
    refine (pick_any _ p a len cap _ 1000 D3.out.1.src (by omega) (by omega) (by omega)).mono ?_
    rintro e w4 ⟨m, _, _, rfl, s1, g1⟩
    have D4 := Lib.hid (D3.out.step s1 g1)
    have L4 := Lib.hid (below_grown L1.out D4.out.1.gr hwp)
    have O4 := Lib.hid (slB_of D4.out.2)
    clear s1 g1 D3 D4 L1
    go_wp2_with fail
    go_ret2
    exact ⟨ps, v, _, rfl, hl, O4.out, L4.out⟩
  · have hsz := D3.out.size
    go_wp2_with fail
    refine (among_any _ p a len cap _ _ 4 (-1) 200001 (D3.out.alloc _).1.src (by omega) (by omega) (by omega) (by omega) (by simp) ?hnu).mono ?_
    case hnu =>
      intro i hi
      match i, hi with
      | 0, _ => exact ⟨_, by simp [go_sem]; rfl, by omega, by omega⟩
      | 1, _ => exact ⟨_, by simp [go_sem]; rfl, by omega, by omega⟩
      | 2, _ => exact ⟨_, by simp [go_sem]; rfl, by omega, by omega⟩
      | 3, _ => exact ⟨_, by simp [go_sem]; rfl, by omega, by omega⟩
    rintro e w4 ⟨m, _, _, rfl, s1, g1⟩
    have D4 := Lib.hid ((D3.out.alloc _).step s1 g1)
    have L4 := Lib.hid (below_grown L1.out D4.out.1.gr hwp)
    have O4 := Lib.hid (slB_of D4.out.2)
    clear s1 g1 D3 D4 L1
    go_wp2_with fail
    go_ret2
    exact ⟨ps, v, _, rfl, hl, O4.out, L4.out⟩
set_option maxHeartbeats 1000000 in
theorem f6same_yes (ts : List Int) (va vb : Value) (w : World) (ha : Sl64 w va ts) (hb : Sl64 w vb ts) (hmax : ts.length ≤ 1000000000000) :
    Calls Try.prog 46 #[va, vb] w (DrewRet (.bool true) w) := by
  obtain ⟨ao, cap, rfl, ha⟩ := ha
  obtain ⟨bo, bcap, rfl, hb⟩ := hb
  have HA := Lib.hid ha
  have HB := Lib.hid hb
  clear ha hb
  have hne : ((ts.length : Int) != (ts.length : Int)) = false := by simp
  go_enter Try.func46, Try.ntmps46
  go_wp2_with fail
  go_loopw [5] (fun i wr => ∃ (k : Nat) (n : Nat), k ≤ ts.length ∧ i = .int .i64 k ∧ wr = w.drewN n) (fun i _ => ts.length - (intOf i).toNat)
  case atStart => exact ⟨0, 0, by omega, rfl, rfl⟩
  case round =>
    obtain ⟨k, n, hk, rfl, rfl⟩ := hrel
    by_cases hlt : k < ts.length
    · obtain ⟨g, rfl, hg, hc⟩ := HA.out (by omega)
      obtain ⟨g2, rfl, hg2, hc2⟩ := HB.out (by omega)
      have c1 : w.cell? ⟨g, k, none⟩ = some (.int .i64 (at0 ts k)) := hc k hlt
      have c2 : w.cell? ⟨g2, k, none⟩ = some (.int .i64 (at0 ts k)) := hc2 k hlt
      have hne2 : (at0 ts k != at0 ts k) = false := by simp
      clear hc hc2 HA HB
      go_wp2_with fail
      go_quiet (fail)
      go_wp2_with fail
      go_roundw
      case rel => exact ⟨k + 1, _, by omega, by go_num, rfl⟩
      case measure => simp [intOf]; omega
    · go_wp2_with fail
      go_ret
      exact ⟨rfl, n, rfl⟩
end Go.Proofs.Ytmmmbchlkjljaaa
namespace Go.Proofs.Ytmmmbchlkjljaaa
open Go.RowKit

theorem at0_get {ts : List Int} {i : Nat} (h : i < ts.length) : at0 ts i = ts[i] := by
  unfold at0
  rw [List.getElem?_eq_getElem h]; rfl
theorem srt_mono {ts : List Int} {i j : Nat} (hij : i ≤ j) (hj : j < (srtL ts).length) : at0 (srtL ts) i ≤ at0 (srtL ts) j := by
  rw [at0_get (show i < (srtL ts).length by omega), at0_get hj]
  by_cases e : i = j
  · subst e; exact Int.le_refl _
  · exact List.pairwise_iff_getElem.1 (srt_pw ts) i j (by omega) hj (by omega)
theorem med_lo {ts : List Int} {n : Nat} (hn : ts.length = n) (h1 : 1 ≤ n) : n ≤ 2 * ts.countP (fun y => decide (y ≤ at0 (srtL ts) ((n - 1) / 2))) := by
  have hl : (srtL ts).length = n := by rw [srt_len]; exact hn
  rw [← (srt_perm ts).countP_eq]
  have h2 : ((srtL ts).take ((n - 1) / 2 + 1)).countP (fun y => decide (y ≤ at0 (srtL ts) ((n - 1) / 2))) = ((srtL ts).take ((n - 1) / 2 + 1)).length := by
    refine List.countP_eq_length.2 fun y hy => ?_
    obtain ⟨i, hi, e⟩ := List.getElem_of_mem hy
    rw [List.length_take] at hi
    rw [List.getElem_take] at e
    have := srt_mono (ts := ts) (i := i) (j := (n - 1) / 2) (by omega) (by omega)
    rw [at0_get (show i < (srtL ts).length by omega), e] at this
    exact decide_eq_true this
  have h3 := (List.take_sublist ((n - 1) / 2 + 1) (srtL ts)).countP_le (p := fun y => decide (y ≤ at0 (srtL ts) ((n - 1) / 2)))
  rw [h2, List.length_take] at h3
  omega
theorem med_hi {ts : List Int} {n : Nat} (hn : ts.length = n) (h1 : 1 ≤ n) : n ≤ 2 * ts.countP (fun y => decide (at0 (srtL ts) ((n - 1) / 2) ≤ y)) := by
  have hl : (srtL ts).length = n := by rw [srt_len]; exact hn
  rw [← (srt_perm ts).countP_eq]
  have h2 : ((srtL ts).drop ((n - 1) / 2)).countP (fun y => decide (at0 (srtL ts) ((n - 1) / 2) ≤ y)) = ((srtL ts).drop ((n - 1) / 2)).length := by
    refine List.countP_eq_length.2 fun y hy => ?_
    obtain ⟨i, hi, e⟩ := List.getElem_of_mem hy
    rw [List.length_drop] at hi
    rw [List.getElem_drop] at e
    have := srt_mono (ts := ts) (i := (n - 1) / 2) (j := (n - 1) / 2 + i) (by omega) (by omega)
    rw [at0_get (show (n - 1) / 2 + i < (srtL ts).length by omega), e] at this
    exact decide_eq_true this
  have h3 := (List.drop_sublist ((n - 1) / 2) (srtL ts)).countP_le (p := fun y => decide (at0 (srtL ts) ((n - 1) / 2) ≤ y))
  rw [h2, List.length_drop] at h3
  omega
theorem med_in {ts : List Int} {n : Nat} (hn : ts.length = n) (h1 : 1 ≤ n) : ts.any (fun y => y == at0 (srtL ts) ((n - 1) / 2)) = true := by
  have hl : (srtL ts).length = n := by rw [srt_len]; exact hn
  rw [List.any_eq_true]
  refine ⟨at0 (srtL ts) ((n - 1) / 2), (srt_perm ts).mem_iff.1 ?_, by simp⟩
  rw [at0_get (show (n - 1) / 2 < (srtL ts).length by omega)]
  exact List.getElem_mem _
theorem ofK_at {ps : List (Int × Int)} {i k : Nat} (h : i < k) : at0 (ofK ps k) i = (pat ps i).2 := by
  unfold at0 ofK; rw [List.getElem?_map, List.getElem?_range h]; rfl
/-- The counts behind the first k readings. -/
def ctL (ps : List (Int × Int)) (m : Int) (k : Nat) : Int := ((ofK ps k).countP (fun y => decide (y ≤ m)) : Nat)
def ctH (ps : List (Int × Int)) (m : Int) (k : Nat) : Int := ((ofK ps k).countP (fun y => decide (m ≤ y)) : Nat)
def ctF (ps : List (Int × Int)) (m : Int) (k : Nat) : Bool := (ofK ps k).any (fun y => y == m)
theorem ctL_succ (ps : List (Int × Int)) (m : Int) (k : Nat) : ctL ps m (k + 1) = if (pat ps k).2 ≤ m then ctL ps m k + 1 else ctL ps m k := by
  unfold ctL
  rw [ofK_succ, List.countP_append]
  by_cases h : (pat ps k).2 ≤ m
  · rw [if_pos h]; simp [h]
  · rw [if_neg h]; simp [h]
theorem ctH_succ (ps : List (Int × Int)) (m : Int) (k : Nat) : ctH ps m (k + 1) = if m ≤ (pat ps k).2 then ctH ps m k + 1 else ctH ps m k := by
  unfold ctH
  rw [ofK_succ, List.countP_append]
  by_cases h : m ≤ (pat ps k).2
  · rw [if_pos h]; simp [h]
  · rw [if_neg h]; simp [h]
theorem ctF_succ (ps : List (Int × Int)) (m : Int) (k : Nat) : ctF ps m (k + 1) = (ctF ps m k || (pat ps k).2 == m) := by
  unfold ctF
  rw [ofK_succ, List.any_append]
  simp
theorem ct_bd (ps : List (Int × Int)) (m : Int) (k : Nat) : (0 ≤ ctL ps m k ∧ ctL ps m k ≤ k) ∧ 0 ≤ ctH ps m k ∧ ctH ps m k ≤ k := by
  have h1 := List.countP_le_length (p := fun y => decide (y ≤ m)) (l := ofK ps k)
  have h2 := List.countP_le_length (p := fun y => decide (m ≤ y)) (l := ofK ps k)
  rw [ofK_len] at h1 h2
  unfold ctL ctH
  omega
theorem moE_c {ps : List (Int × Int)} {m c : Int} (h : moE ps = (m, c)) : (c != 0) = true ∨ ((c != 0) = false ∧ ctF ps m ps.length = true ∧ (ps.length : Int) ≤ 2 * ctL ps m ps.length ∧ (ps.length : Int) ≤ 2 * ctH ps m ps.length) := by
  cases h1 : okRd ps
  · rw [moE_1 h1] at h; cases h; exact .inl rfl
  · by_cases h2 : ps.length = 0
    · rw [moE_6 h1 h2] at h; cases h; exact .inl rfl
    · rw [moE_0 h1 h2] at h
      cases h
      have hn := ofK_len ps ps.length
      have a := med_lo hn (by omega)
      have b := med_hi hn (by omega)
      have c := med_in hn (by omega)
      refine .inr ⟨rfl, c, ?_, ?_⟩
      · unfold ctL; omega
      · unfold ctH; omega
set_option maxRecDepth 100000 in
set_option maxHeartbeats 16000000 in
theorem FnMedians_walk (a : Option Addr) (len cap : Nat) (zs : List Int) (w : World) (h : IsRow .u8 w a len cap zs) :
    Calls Try.prog 9 #[.slice a len cap] w fun e w' => e = .returned (.bool true) ∧ Below w.heap.size w w' := by
  have l1 := (row_of h).1
  unfold maxLen at l1
  have HA := Lib.hid h
  clear h
  by_cases hl : 4096 < len
  · have hd : decide (4096 < (len : Int)) = true := decide_eq_true (by omega)
    go_enter Try.func9, Try.ntmps9
    go_wp2_with fail
    refine (f6bigR_any _ _ _ _ (by omega)).mono ?_
    rw [hd]
    rintro e w1 ⟨rfl, rfl⟩
    go_wp2_with fail
    go_ret
    exact ⟨rfl, bR _⟩
  have hd : decide (4096 < (len : Int)) = false := decide_eq_false (by omega)
  go_enter Try.func9, Try.ntmps9
  go_wp2_with fail
  refine (f6bigR_any _ _ _ _ (by omega)).mono ?_
  rw [hd]
  rintro e w1 ⟨rfl, rfl⟩
  clear hd hl l1
  go_wp2_with fail
  refine (DrawMedianOff_any w a len cap zs HA.out).mono ?_
  rintro e w1 ⟨ps, v, rfl, hps, hs, hb⟩
  have L1 := Lib.hid hb
  have V1 := Lib.hid hs
  have hmax : ps.length ≤ 1000000000000 := by omega
  have CI := Lib.hid (fun W (h : SlB W v ps) => MedianOffI_any ps v W h.2 hmax)
  have CS := Lib.hid (fun W (h : SlB W v ps) => MedianOffS_any ps v W h.2 hmax)
  have HC := Lib.hid (fun m c => moE_c (ps := ps) (m := m) (c := c))
  clear hb hs hmax
  generalize hmo : moE ps = mo at *
  obtain ⟨m, c⟩ := mo
  simp only at CI CS
  have HM := Lib.hid (HC.out m c rfl)
  have n0 : (m != m) = false := by simp
  have n1 : (c != c) = false := by simp
  clear hmo HC
  go_wp2_with fail
  refine (CI.out _ V1.out).mono ?_
  rintro e w2 ⟨rfl, hb⟩
  have V2 := Lib.hid (V1.out.keep hb)
  have L2 := Lib.hid (bT L1.out hb)
  clear hb V1 L1
  go_wp2_with fail
  refine (CS.out _ V2.out).mono ?_
  rintro e w3 ⟨rfl, hb⟩
  have V3 := Lib.hid (V2.out.keep hb)
  have L3 := Lib.hid (bT L2.out hb)
  clear hb V2 L2 CI CS
  go_wp2_with fail
  refine (DrawJumpsOf_any w3 a len cap zs (IsRow.keep HA.out L3.out)).mono ?_
  rintro e w4 ⟨qs, u, k, rfl, hqs, hs, hb⟩
  have V4 := Lib.hid (V3.out.keep hb)
  have U4 := Lib.hid hs
  have L4 := Lib.hid (bT L3.out hb)
  have hmax : qs.length ≤ 1000000000000 := by omega
  have CI := Lib.hid (fun W (h : SlB W u qs) => JumpsOfI_any qs u k W h.2 hmax)
  have CS := Lib.hid (fun W (h : SlB W u qs) => JumpsOfS_any qs u k W h.2 hmax)
  have hjl := joE_len qs k
  generalize joE qs k = jo at *
  obtain ⟨ts, d⟩ := jo
  simp only at CI CS hjl
  have n2 : (d != d) = false := by simp
  clear hb hs hmax V3 L3
  go_wp2_with fail
  refine (CI.out _ U4.out).mono ?_
  rintro e w5 ⟨vx, rfl, hr, hb⟩
  have X5 := Lib.hid (sl64_of hr)
  have V5 := Lib.hid (V4.out.keep hb)
  have U5 := Lib.hid (U4.out.keep hb)
  have L5 := Lib.hid (bT L4.out hb)
  clear hb hr V4 U4 L4
  go_wp2_with fail
  refine (CS.out _ U5.out).mono ?_
  rintro e w6 ⟨vy, rfl, hr, hb⟩
  have X6 := Lib.hid (X5.out.keep hb)
  have Y6 := Lib.hid (sl64_of hr)
  have V6 := Lib.hid (V5.out.keep hb)
  have L6 := Lib.hid (bT L5.out hb)
  clear hb hr V5 U5 L5 X5 CI CS
  go_wp2_with fail
  refine (f6same_yes ts vx vy _ X6.out Y6.out (by omega)).mono ?_
  rintro e w7 ⟨rfl, nq, rfl⟩
  have V7 := Lib.hid (V6.out.keep (bD (bR _) nq))
  have L7 := Lib.hid (bD L6.out nq)
  clear V6 L6 X6 Y6
  generalize World.drewN _ nq = w7 at *
  rcases HM.out with hc | ⟨hc, hf, hlo, hhi⟩
  · go_wp2_with fail
    go_ret
    exact ⟨rfl, L7.out⟩
  obtain ⟨ao, cp, rfl, hsp⟩ := id V7.out.1
  have HSP := Lib.hid hsp
  have HCB := Lib.hid (ct_bd ps m)
  have HFI := Lib.hid (And.intro hf (And.intro hlo hhi))
  clear HM hsp hf hlo hhi
  go_wp2_with fail
  go_loopw [14, 15, 16, 17] (fun vl vh vf vi wr => ∃ i : Nat, i ≤ ps.length ∧ vi = .int .i64 i ∧ vl = .int .i64 (ctL ps m i) ∧ vh = .int .i64 (ctH ps m i) ∧ vf = .bool (ctF ps m i) ∧ wr = w7) (fun _ _ _ vi _ => ps.length - (intOf vi).toNat)
  case atStart => exact ⟨0, Nat.zero_le _, rfl, rfl, rfl, rfl, rfl⟩
  case round =>
    obtain ⟨i, hi, rfl, rfl, rfl, rfl, rfl⟩ := hrel
    by_cases hlt : i < ps.length
    · obtain ⟨g, rfl, hg, hcc⟩ := HSP.out (by omega)
      obtain ⟨c1, c2⟩ := hcc i hlt
      have HL := Lib.hid (ctL_succ ps m i)
      have HH := Lib.hid (ctH_succ ps m i)
      have HF := Lib.hid (ctF_succ ps m i)
      obtain ⟨b1, b2⟩ := HCB.out i
      clear hcc HFI HCB
      generalize (pat ps i).1 = x at *
      generalize (pat ps i).2 = y at *
      generalize ctL ps m i = lo at *
      generalize ctH ps m i = hi_ at *
      generalize ctF ps m i = fo at *
      rcases Int.lt_trichotomy y m with h1 | h1 | h1
      · have h2 : y ≤ m := by omega
        have h3 : ¬ m ≤ y := by omega
        have h4 : (y == m) = false := by simp; omega
        rw [if_pos h2] at HL
        rw [if_neg h3] at HH
        rw [h4] at HF
        cases fo
        · go_wp2_with fail
          go_roundw
          case rel => exact ⟨i + 1, by omega, by go_num, by rw [HL.out], by rw [HH.out], by first | (rw [HF.out]; done) | (rw [HF.out]; rfl), by first | rfl | trivial⟩
          case measure => simp [intOf]; omega
        · go_wp2_with fail
          go_roundw
          case rel => exact ⟨i + 1, by omega, by go_num, by rw [HL.out], by rw [HH.out], by first | (rw [HF.out]; done) | (rw [HF.out]; rfl), by first | rfl | trivial⟩
          case measure => simp [intOf]; omega
      · subst h1
        have h4 : (y == y) = true := by simp
        rw [if_pos (Int.le_refl _)] at HL HH
        rw [h4] at HF
        cases fo
        · go_wp2_with fail
          go_roundw
          case rel => exact ⟨i + 1, by omega, by go_num, by rw [HL.out], by rw [HH.out], by first | (rw [HF.out]; done) | (rw [HF.out]; rfl), by first | rfl | trivial⟩
          case measure => simp [intOf]; omega
        · go_wp2_with fail
          go_roundw
          case rel => exact ⟨i + 1, by omega, by go_num, by rw [HL.out], by rw [HH.out], by first | (rw [HF.out]; done) | (rw [HF.out]; rfl), by first | rfl | trivial⟩
          case measure => simp [intOf]; omega
      · have h2 : ¬ y ≤ m := by omega
        have h3 : m ≤ y := by omega
        have h4 : (y == m) = false := by simp; omega
        rw [if_neg h2] at HL
        rw [if_pos h3] at HH
        rw [h4] at HF
        cases fo
        · go_wp2_with fail
          go_roundw
          case rel => exact ⟨i + 1, by omega, by go_num, by rw [HL.out], by rw [HH.out], by first | (rw [HF.out]; done) | (rw [HF.out]; rfl), by first | rfl | trivial⟩
          case measure => simp [intOf]; omega
        · go_wp2_with fail
          go_roundw
          case rel => exact ⟨i + 1, by omega, by go_num, by rw [HL.out], by rw [HH.out], by first | (rw [HF.out]; done) | (rw [HF.out]; rfl), by first | rfl | trivial⟩
          case measure => simp [intOf]; omega
    · obtain rfl : i = ps.length := by omega
      obtain ⟨h1, h2, h3⟩ := HFI.out
      obtain ⟨b1, b2⟩ := HCB.out ps.length
      rw [h1]
      clear HFI HCB HSP h1
      generalize ctL ps m ps.length = lo at *
      generalize ctH ps m ps.length = hi_ at *
      have e1 : decide ((ps.length : Int) ≤ 2 * lo) = true := decide_eq_true h2
      have e2 : decide ((ps.length : Int) ≤ 2 * hi_) = true := decide_eq_true h3
      go_wp2_with fail
      go_ret
      exact ⟨rfl, L7.out⟩
end Go.Proofs.Ytmmmbchlkjljaaa

/-
  The draw of readings: spec.l14Draw.
  Drawn readings for the laws; laws.f6same.
  Best changes between two levels; the walk of laws.FnBestChanges.
-/
import Derived.Test.YtmmmbchlkjljaaaDrawT
import Derived.Test.YtmmmbchlkjljaaaAd
import Derived.Test.YtmmmbchlkjljaaaRgR
import Derived.Test.YtmmmbchlkjljaaaRoll
import Derived.Test.YtmmmbchlkjljaaaEq64
import Derived.Test.YtmmmbchlkjljaaaRgE
import Derived.Test.YtmmmbchlkjljaaaRgJ
namespace Go.Proofs.Ytmmmbchlkjljaaa
open Go.RowKit

/-- A source and a row of readings of one's own. -/
def RdS (w : World) (p : Nat) (a : Option Addr) (len cap c : Nat) (ps : List (Int × Int)) (vo : Value) (W : World) : Prop :=
  DS w p a len cap c W ∧ W.ownsRow w.heap.size 53 2 vo ps.length (pairC ps)
theorem RdS.step {w : World} {p : Nat} {a : Option Addr} {len cap c d : Nat} {ps : List (Int × Int)} {vo : Value} {W x : World} (h : RdS w p a len cap c ps vo W) (s : SrcAt x p a len cap d) (g : W.grownBy x (some p)) : RdS w p a len cap d ps vo x :=
  ⟨h.1.step s g, own_grown h.2 g h.1.pl⟩
theorem RdS.keep {w : World} {p : Nat} {a : Option Addr} {len cap c : Nat} {ps : List (Int × Int)} {vo : Value} {W x : World} (h : RdS w p a len cap c ps vo W) (hb : Below W.heap.size W x) : RdS w p a len cap c ps vo x := ⟨h.1.keep hb, own_keep h.2 hb⟩
theorem RdS.alloc {w : World} {p : Nat} {a : Option Addr} {len cap c : Nat} {ps : List (Int × Int)} {vo : Value} {W : World} (h : RdS w p a len cap c ps vo W) (ob : Obj) : RdS w p a len cap c ps vo (W.alloc ob) := h.keep (bA (bR _) _)
theorem RdS.mono {w : World} {p : Nat} {a : Option Addr} {len cap c d : Nat} {ps : List (Int × Int)} {vo : Value} {W : World} (h : RdS w p a len cap c ps vo W) (hd : c ≤ d) : RdS w p a len cap d ps vo W := ⟨h.1.mono hd, h.2⟩
theorem Apd.gr {v v' : Value} {w w' : World} (h : Apd v v' w w') : w.grownBy w' v.ownBlock := ⟨h.os, h.tape, h.output, h.size, fun k hk hn => h.blk k hk (fun e => hn e.symm)⟩
theorem DS.grow {w : World} {p : Nat} {a : Option Addr} {len cap c : Nat} {w' x : World} {row : Option Nat} (h : DS w p a len cap c w') (g : w'.grownBy x row) (hr : ∀ r, row = some r → w.heap.size ≤ r) : DS w p a len cap c x :=
  ⟨h.src.grown g (fun e => by have := hr p e; have := h.pl; omega) (fun hl xb xo e e2 => by have := hr xb e2; have := h.old hl xb xo e; omega), gGrown h.gr g hr, h.old, h.pl⟩
theorem RdS.app {w : World} {p : Nat} {a : Option Addr} {len cap c : Nat} {ps : List (Int × Int)} {vo v' : Value} {W x : World} {q : Int × Int} (h : RdS w p a len cap c ps vo W) (ho : x.ownsRow w.heap.size 53 2 v' (ps ++ [q]).length (pairC (ps ++ [q]))) (hap : Apd vo v' W x) : RdS w p a len cap c (ps ++ [q]) v' x :=
  ⟨h.1.grow hap.gr (fun r e => (own_blk h.2 r e).1), ho⟩
theorem RdS.size {w : World} {p : Nat} {a : Option Addr} {len cap c : Nat} {ps : List (Int × Int)} {vo : Value} {W : World} (h : RdS w p a len cap c ps vo W) : w.heap.size ≤ W.heap.size := h.1.gr.size
theorem RdS.nil {w : World} {p : Nat} {a : Option Addr} {len cap c : Nat} {ps : List (Int × Int)} {vo : Value} {W : World} (h : RdS w p a len cap c ps vo W) : RdS w p a len cap c [] (.slice none 0 0) W := ⟨h.1, World.ownsRow_nil _ _ _ _⟩
theorem RdS.set1 {w : World} {p : Nat} {a : Option Addr} {len cap c g cp i : Nat} {ps : List (Int × Int)} {W : World} {z : Int} (h : RdS w p a len cap c ps (.slice (some ⟨g, 0, none⟩) ps.length cp) W) (hi : i < ps.length) : RdS w p a len cap c (ps.set i (z, (pat ps i).2)) (.slice (some ⟨g, 0, none⟩) ps.length cp) (W.setCell ⟨g, i * 2, none⟩ (.int .i64 z)) := by
  refine ⟨h.1.set (own_blk h.2 g rfl).1, ?_⟩
  rw [List.length_set, pairC_set1 ps i z hi]
  exact (h.2.stored (i * 2) (.int .i64 z)).1
theorem RdS.set2 {w : World} {p : Nat} {a : Option Addr} {len cap c g cp i : Nat} {ps : List (Int × Int)} {W : World} {z : Int} (h : RdS w p a len cap c ps (.slice (some ⟨g, 0, none⟩) ps.length cp) W) (hi : i < ps.length) : RdS w p a len cap c (ps.set i ((pat ps i).1, z)) (.slice (some ⟨g, 0, none⟩) ps.length cp) (W.setCell ⟨g, i * 2 + 1, none⟩ (.int .i64 z)) := by
  refine ⟨h.1.set (own_blk h.2 g rfl).1, ?_⟩
  rw [List.length_set, pairC_set2 ps i z hi]
  exact (h.2.stored (i * 2 + 1) (.int .i64 z)).1
theorem pick_small (w : World) (p : Nat) (n : Int) (h : n ≤ 1) :
    Calls Try.prog 73 #[.pointer (some ⟨p, 0, none⟩), .int .i64 n] w fun e w' => e = .returned (.int .i64 0) ∧ w = w' := by
  go_enter Try.func73, Try.ntmps73
  go_wp2_with fail
  go_ret
  exact ⟨rfl, rfl⟩
theorem pickN_any (w : World) (p : Nat) (a : Option Addr) (len cap c n : Nat) (h : SrcAt w p a len cap c) (hc : c ≤ 900000) (h2 : n ≤ 1000) :
    Calls Try.prog 73 #[.pointer (some ⟨p, 0, none⟩), .int .i64 (n : Int)] w fun e w' => ∃ x : Int, 0 ≤ x ∧ (x < n ∨ x = 0) ∧ e = .returned (.int .i64 x) ∧ SrcAt w' p a len cap (c + 2) ∧ w.grownBy w' (some p) := by
  by_cases hn : 1 ≤ n
  · refine (pick_any w p a len cap c (n : Int) h hc (by omega) (by omega)).mono ?_
    rintro e w' ⟨x, x0, x1, rfl, s, g⟩
    exact ⟨x, x0, Or.inl (by omega), rfl, s, g⟩
  · refine (pick_small w p (n : Int) (by omega)).mono ?_
    rintro e w' ⟨rfl, rfl⟩
    exact ⟨0, by omega, Or.inr rfl, rfl, h.mono (by omega), gRefl _ _⟩
theorem rowLitR (W : World) (B n : Nat) (cs : Array Value) (t : TypeId) (hB : B ≤ W.heap.size) (hn : cs.size = n * 2) (hm : n ≤ maxLen) : (W.alloc (.cells cs t)).ownsRow B t 2 (.slice (some ⟨W.heap.size, 0, none⟩) n n) n cs.toList :=
  ⟨by simp [hn], .inr ⟨W.heap.size, n, cs, rfl, hB, (MapKept.heap_alloc W _).1, Nat.le_refl _, hm, by first | exact hn | simp [hn], by rw [← hn, ← Array.length_toList, List.take_length]⟩⟩
def RdPost (w : World) (p : Nat) (a : Option Addr) (len cap c : Nat) (e : Ending) (w' : World) : Prop :=
  ∃ (ps : List (Int × Int)) (v : Value), e = .returned v ∧ ps.length ≤ 64 ∧ RdS w p a len cap c ps v w'
set_option maxRecDepth 100000 in
set_option maxHeartbeats 8000000 in
theorem l14Draw_any (w : World) (p : Nat) (a : Option Addr) (len cap c : Nat) (h : SrcAt w p a len cap c) (hc : c ≤ 600000) :
    Calls Try.prog 64 #[.pointer (some ⟨p, 0, none⟩)] w (RdPost w p a len cap (c + 500)) := by
  have S0 := Lib.hid (show RdS w p a len cap c [] (.slice (some ⟨w.heap.size, 0, none⟩) 0 0) (w.alloc (.cells #[] 53)) from ⟨(DS.new h).alloc _, by simpa [pairC] using rowPair_new w 53⟩)
  have hp := h.lt
  have hle : w.heap.size ≤ (w.alloc (.cells #[] 53)).heap.size := by simp
  clear h
  go_enter Try.func64, Try.ntmps64
  go_wp2_with fail
  generalize w.alloc (.cells #[] 53) = W0 at *
  generalize hrow : (Value.slice (some ⟨w.heap.size, 0, none⟩) 0 0) = row0_ at *
  clear hrow
  refine (pick_any _ p a len cap _ 20 S0.out.1.src (by omega) (by omega) (by omega)).mono ?_
  rintro e w1 ⟨hr, hr0, hr1, rfl, s1, g1⟩
  have S1 := Lib.hid (S0.out.step s1 g1)
  clear s1 g1 S0
  go_wp2_with fail
  refine (pick_any _ p a len cap _ 2000 S1.out.1.src (by omega) (by omega) (by omega)).mono ?_
  rintro e w2 ⟨of, of0, of1, rfl, s1, g1⟩
  have S2 := Lib.hid (S1.out.step s1 g1)
  clear s1 g1 S1
  go_wp2_with fail
  refine (pick_any _ p a len cap _ 41 S2.out.1.src (by omega) (by omega) (by omega)).mono ?_
  rintro e w3 ⟨sl, sl0, sl1, rfl, s1, g1⟩
  have S3 := Lib.hid (S2.out.step s1 g1)
  clear s1 g1 S2
  go_wp2_with fail
  refine (oneQ_any _ p a len cap _ 4 S3.out.1.src (by omega) (by omega) (by omega)).mono ?_
  rintro e w4 ⟨ex, rfl, s1, g1⟩
  have S4 := Lib.hid (S3.out.step s1 g1)
  clear s1 g1 S3
  go_wp2_with fail
  refine (pick_any _ p a len cap _ 12 S4.out.1.src (by omega) (by omega) (by omega)).mono ?_
  rintro e w5 ⟨kk, kk0, kk1, rfl, s1, g1⟩
  have S5 := Lib.hid (S4.out.step s1 g1)
  clear s1 g1 S4
  go_wp2_with fail
  obtain ⟨k0, rfl⟩ := Int.eq_ofNat_of_zero_le kk0
  generalize hsl : sl - 20 = slo at *
  have hsb : -20 ≤ slo ∧ slo ≤ 20 := by omega
  clear hsl
  go_loopw [3, 4, 5, 8] (fun vo vh vf vk wr => ∃ (ps : List (Int × Int)) (hr of : Int) (k : Nat), ps.length + k ≤ 11 ∧ vk = .int .i64 k ∧ vh = .int .i64 hr ∧ vf = .int .i64 of ∧ (0 ≤ hr ∧ hr ≤ 20 + 41 * ps.length) ∧ (-(1000 + 2000 * ps.length) ≤ of ∧ of ≤ 1000 + 2000 * ps.length) ∧ RdS w p a len cap (c + 10 + 10 * ps.length) ps vo wr) (fun _ _ _ vk _ => (intOf vk).toNat)
  case atStart => exact ⟨[], hr, of - 1000, k0, by simp; omega, rfl, rfl, rfl, by simp; omega, by simp; omega, S5.out.mono (by simp)⟩
  case round =>
    obtain ⟨ps, hr, of, k, hk, rfl, rfl, rfl, hhr, hof, hs⟩ := hrel
    have S6 := Lib.hid hs
    have hsz := hs.size
    clear hs S5
    by_cases hlt : 0 < k
    · go_wp2_with (at_builtin; refine appRd rfl _ _ rfl _ _ hr of rfl S6.out.2 hsz (by show Value.slice (some ⟨wr.heap.size, 0, none⟩) 1 1 = _; rfl) (by omega) ?_)
      intro v' w7 hown hap
      have S7 := Lib.hid (S6.out.app (q := (hr, of)) (by rw [List.length_append]; exact hown) hap)
      clear hown hap S6
      go_wp2_with fail
      refine (pick_any _ p a len cap _ 40 S7.out.1.src (by omega) (by omega) (by omega)).mono ?_
      rintro e w8 ⟨st, st0, st1, rfl, s1, g1⟩
      have S8 := Lib.hid (S7.out.step s1 g1)
      clear s1 g1 S7
      have m1 := mulB (a := slo) (b := 1 + st) (A := 20) (B := 40) hsb.1 hsb.2 (by omega) (by omega)
      have HPL := Lib.hid (show (ps ++ [(hr, of)]).length = ps.length + 1 by simp)
      cases ex
      · go_wp2_with fail
        generalize slo * (1 + st) = dl at *
        refine (pick_any _ p a len cap _ 61 S8.out.1.src (by omega) (by omega) (by omega)).mono ?_
        rintro e w9 ⟨dv, dv0, dv1, rfl, s1, g1⟩
        have S9 := Lib.hid (S8.out.step s1 g1)
        clear s1 g1 S8
        go_wp2_with fail
        refine (oneQ_any _ p a len cap _ 16 S9.out.1.src (by omega) (by omega) (by omega)).mono ?_
        rintro e wb ⟨q16, rfl, s1, g1⟩
        have SB := Lib.hid (S9.out.step s1 g1)
        clear s1 g1 S9
        cases q16
        · go_wp2_with fail
          go_roundw
          case rel => exact ⟨ps ++ [(hr, of)], hr + (1 + st), of + dl + (dv - 30), k - 1, by rw [HPL.out]; omega, congrArg (Value.int .i64) (by omega), rfl, rfl, by rw [HPL.out]; omega, by rw [HPL.out]; omega, SB.out.mono (by rw [HPL.out]; omega)⟩
          case measure => simp [intOf]; omega
        · have hSB := SB.out.size
          go_wp2_with fail
          refine (among_any _ p a len cap _ _ 2 (-900) 900 (SB.out.alloc _).1.src (by omega) (by omega) (by omega) (by omega) (by simp) ?hnu).mono ?_
          case hnu =>
            intro i hi
            match i, hi with
            | 0, _ => exact ⟨_, by simp [go_sem]; rfl, by omega, by omega⟩
            | 1, _ => exact ⟨_, by simp [go_sem]; rfl, by omega, by omega⟩
          rintro e wc ⟨z, z0, z1, rfl, s1, g1⟩
          have SC := Lib.hid ((SB.out.alloc _).step s1 g1)
          clear s1 g1 SB
          go_wp2_with fail
          go_roundw
          case rel => exact ⟨ps ++ [(hr, of)], hr + (1 + st), of + dl + (dv - 30) + z, k - 1, by rw [HPL.out]; omega, congrArg (Value.int .i64) (by omega), rfl, rfl, by rw [HPL.out]; omega, by rw [HPL.out]; omega, SC.out.mono (by rw [HPL.out]; omega)⟩
          case measure => simp [intOf]; omega
      · go_wp2_with fail
        generalize slo * (1 + st) = dl at *
        refine (oneQ_any _ p a len cap _ 16 S8.out.1.src (by omega) (by omega) (by omega)).mono ?_
        rintro e wb ⟨q16, rfl, s1, g1⟩
        have SB := Lib.hid (S8.out.step s1 g1)
        clear s1 g1 S8
        cases q16
        · go_wp2_with fail
          go_roundw
          case rel => exact ⟨ps ++ [(hr, of)], hr + (1 + st), of + dl, k - 1, by rw [HPL.out]; omega, congrArg (Value.int .i64) (by omega), rfl, rfl, by rw [HPL.out]; omega, by rw [HPL.out]; omega, SB.out.mono (by rw [HPL.out]; omega)⟩
          case measure => simp [intOf]; omega
        · have hSB := SB.out.size
          go_wp2_with fail
          refine (among_any _ p a len cap _ _ 2 (-900) 900 (SB.out.alloc _).1.src (by omega) (by omega) (by omega) (by omega) (by simp) ?hnu).mono ?_
          case hnu =>
            intro i hi
            match i, hi with
            | 0, _ => exact ⟨_, by simp [go_sem]; rfl, by omega, by omega⟩
            | 1, _ => exact ⟨_, by simp [go_sem]; rfl, by omega, by omega⟩
          rintro e wc ⟨z, z0, z1, rfl, s1, g1⟩
          have SC := Lib.hid ((SB.out.alloc _).step s1 g1)
          clear s1 g1 SB
          go_wp2_with fail
          go_roundw
          case rel => exact ⟨ps ++ [(hr, of)], hr + (1 + st), of + dl + z, k - 1, by rw [HPL.out]; omega, congrArg (Value.int .i64) (by omega), rfl, rfl, by rw [HPL.out]; omega, by rw [HPL.out]; omega, SC.out.mono (by rw [HPL.out]; omega)⟩
          case measure => simp [intOf]; omega
    · obtain rfl : k = 0 := by omega
      have hpl : ps.length ≤ 11 := by omega
      clear hk hhr hof
      have hcc : c + 10 + 10 * ps.length ≤ c + 120 := by omega
      obtain ⟨ao, co, rfl, hsp⟩ := slP_of S6.out.2
      go_wp2_with fail
      refine (pickN_any _ p a len cap _ ps.length S6.out.1.src (by omega) (by omega)).mono ?_
      rintro e w7 ⟨at_, at0_, at1_, rfl, s1, g1⟩
      have S7 := Lib.hid (S6.out.step s1 g1)
      clear s1 g1 S6
      go_wp2_with fail
      refine (pick_any _ p a len cap _ 30 S7.out.1.src (by omega) (by omega) (by omega)).mono ?_
      rintro e w8 ⟨q, q0, q1, rfl, s1, g1⟩
      have S8 := Lib.hid (S7.out.step s1 g1)
      clear s1 g1 S7
      by_cases e0 : q = 0
      · subst e0
        by_cases hz : 0 < ps.length
        · obtain ⟨i, rfl⟩ := Int.eq_ofNat_of_zero_le at0_
          have hil : i < ps.length := by omega
          obtain ⟨g, rfl, _, _⟩ := hsp (by omega)
          have h8 := S8.out.size
          go_wp2_with fail
          refine (among_any _ p a len cap _ _ 3 (-1) 10001 (S8.out.alloc _).1.src (by omega) (by omega) (by omega) (by omega) (by simp) ?hnu).mono ?_
          case hnu =>
            intro i hi
            match i, hi with
            | 0, _ => exact ⟨_, by simp [go_sem]; rfl, by omega, by omega⟩
            | 1, _ => exact ⟨_, by simp [go_sem]; rfl, by omega, by omega⟩
            | 2, _ => exact ⟨_, by simp [go_sem]; rfl, by omega, by omega⟩
          rintro e w9 ⟨z, z0, z1, rfl, s1, g1⟩
          have S9 := Lib.hid ((S8.out.alloc _).step s1 g1)
          clear s1 g1 S8
          have f1 : w9.frozen? ⟨g, i * 2, none⟩ = false := S9.out.2.frozenAt (i * 2)
          obtain ⟨c1, c2⟩ := own_pairs S9.out.2 i hil
          have SF := Lib.hid (S9.out.set1 (z := z) hil)
          clear S9
          go_wp2_with fail
          go_ret
          exact ⟨ps.set i (z, (pat ps i).2), _, rfl, by rw [List.length_set]; omega, SF.out.mono (by omega)⟩
        · have hz0 : ¬ (0 : Int) < (ps.length : Int) := by omega
          go_wp2_with fail
          go_ret
          exact ⟨ps, _, rfl, by omega, S8.out.mono (by omega)⟩
      have b0 : (q == 0) = false := by simpa using e0
      by_cases e1 : q = 1
      · subst e1
        by_cases hz : 0 < ps.length
        · obtain ⟨i, rfl⟩ := Int.eq_ofNat_of_zero_le at0_
          have hil : i < ps.length := by omega
          obtain ⟨g, rfl, _, _⟩ := hsp (by omega)
          have h8 := S8.out.size
          go_wp2_with fail
          refine (among_any _ p a len cap _ _ 4 (-100001) 100001 (S8.out.alloc _).1.src (by omega) (by omega) (by omega) (by omega) (by simp) ?hnu).mono ?_
          case hnu =>
            intro i hi
            match i, hi with
            | 0, _ => exact ⟨_, by simp [go_sem]; rfl, by omega, by omega⟩
            | 1, _ => exact ⟨_, by simp [go_sem]; rfl, by omega, by omega⟩
            | 2, _ => exact ⟨_, by simp [go_sem]; rfl, by omega, by omega⟩
            | 3, _ => exact ⟨_, by simp [go_sem]; rfl, by omega, by omega⟩
          rintro e w9 ⟨z, z0, z1, rfl, s1, g1⟩
          have S9 := Lib.hid ((S8.out.alloc _).step s1 g1)
          clear s1 g1 S8
          have f1 : w9.frozen? ⟨g, i * 2 + 1, none⟩ = false := S9.out.2.frozenAt (i * 2 + 1)
          obtain ⟨c1, c2⟩ := own_pairs S9.out.2 i hil
          have SF := Lib.hid (S9.out.set2 (z := z) hil)
          clear S9
          go_wp2_with fail
          go_ret
          exact ⟨ps.set i ((pat ps i).1, z), _, rfl, by rw [List.length_set]; omega, SF.out.mono (by omega)⟩
        · have hz0 : ¬ (0 : Int) < (ps.length : Int) := by omega
          go_wp2_with fail
          go_ret
          exact ⟨ps, _, rfl, by omega, S8.out.mono (by omega)⟩
      have b1 : (q == 1) = false := by simpa using e1
      by_cases e2 : q = 2
      · subst e2
        have SN := Lib.hid (S8.out.nil)
        clear S8
        go_wp2_with fail
        go_loopw [3, 11] (fun vo vk wr => ∃ (ps : List (Int × Int)) (k : Nat), k ≤ ps.length ∧ ps.length ≤ k ∧ k ≤ 61 ∧ vk = .int .i64 k ∧ RdS w p a len cap (c + 200 + 2 * k) ps vo wr) (fun _ vk _ => 61 - (intOf vk).toNat)
        case atStart => exact ⟨[], 0, by simp, by simp, by omega, rfl, SN.out.mono (by omega)⟩
        case round =>
          obtain ⟨ps, k, hk1, hk2, hk3, rfl, hs⟩ := hrel
          have SA := Lib.hid hs
          clear hs SN
          go_wp2_with fail
          refine (pick_any _ p a len cap _ 2 SA.out.1.src (by omega) (by omega) (by omega)).mono ?_
          rintro e w9 ⟨x, x0, x1, rfl, s1, g1⟩
          have SB := Lib.hid (SA.out.step s1 g1)
          clear s1 g1 SA
          have hsz := SB.out.size
          by_cases hlt : (k : Int) < 60 + x
          · have m1 := mulB (a := (k : Int)) (b := (k : Int)) (A := 61) (B := 61) (by omega) (by omega) (by omega) (by omega)
            go_wp2_with (at_builtin; refine appRd rfl _ _ rfl _ _ ((k : Int) * 150) ((k : Int) * k) rfl SB.out.2 hsz (by show Value.slice (some ⟨w9.heap.size, 0, none⟩) 1 1 = _; rfl) (by omega) ?_)
            intro v' wa hown hap
            have SC := Lib.hid (SB.out.app (q := ((k : Int) * 150, (k : Int) * k)) (by rw [List.length_append]; exact hown) hap)
            clear hown hap SB
            go_wp2_with fail
            go_roundw
            case rel => exact ⟨_, k + 1, by simp; omega, by simp; omega, by omega, by go_num, SC.out.mono (by omega)⟩
            case measure => simp [intOf]; omega
          · go_wp2_with fail
            go_ret
            exact ⟨ps, _, rfl, by omega, SB.out.mono (by omega)⟩
      have b2 : (q == 2) = false := by simpa using e2
      by_cases e3 : q = 3
      · subst e3
        have SF := Lib.hid (show RdS w p a len cap (c + 500) [(0, -100000), (10000, 100000)] (.slice (some ⟨w8.heap.size, 0, none⟩) 2 2) (w8.alloc (.cells #[.int .i64 0, .int .i64 (-100000), .int .i64 10000, .int .i64 100000] 53)) from ⟨(S8.out.1.alloc _).mono (by omega), rowLitR w8 w.heap.size 2 _ _ S8.out.size rfl (by unfold maxLen; omega)⟩)
        clear S8
        go_wp2_with fail
        go_ret
        exact ⟨_, _, rfl, by simp, SF.out⟩
      have b3 : (q == 3) = false := by simpa using e3
      go_wp2_with fail
      go_ret
      exact ⟨ps, _, rfl, by omega, S8.out.mono (by omega)⟩
end Go.Proofs.Ytmmmbchlkjljaaa
namespace Go.Proofs.Ytmmmbchlkjljaaa
open Go.RowKit

def RdW (w : World) (e : Ending) (w' : World) : Prop := ∃ (ps : List (Int × Int)) (v : Value), e = .returned v ∧ ps.length ≤ 64 ∧ SlB w' v ps ∧ Below w.heap.size w w'
set_option maxRecDepth 100000 in
set_option maxHeartbeats 2000000 in
theorem DrawFitOf_any (w : World) (a : Option Addr) (len cap : Nat) (zs : List Int) (h : IsRow .u8 w a len cap zs) :
    Calls Try.prog 25 #[.slice a len cap] w (RdW w) := by
  go_enter Try.func25, Try.ntmps25
  go_wp2_with fail
  refine (l00From_any w a len cap zs h).mono ?_
  rintro e w1 ⟨rfl, s1, hb⟩
  have S1 := Lib.hid s1
  have L1 := Lib.hid hb
  clear s1 hb h
  generalize hpp : w.heap.size = p at S1 ⊢
  have hwp : w.heap.size ≤ p := by omega
  go_wp2_with fail
  refine (l14Draw_any w1 p a len cap 0 S1.out (by omega)).mono ?_
  rintro e w2 ⟨ps, v, rfl, hl, hs⟩
  have L2 := Lib.hid (below_grown L1.out hs.1.gr hwp)
  have O2 := Lib.hid (slB_of hs.2)
  clear hs L1 S1
  go_wp2_with fail
  go_ret
  exact ⟨ps, v, rfl, hl, O2.out, L2.out⟩
set_option maxRecDepth 100000 in
set_option maxHeartbeats 2000000 in
theorem DrawMedianOff_any (w : World) (a : Option Addr) (len cap : Nat) (zs : List Int) (h : IsRow .u8 w a len cap zs) :
    Calls Try.prog 48 #[.slice a len cap] w (RdW w) := by
  go_enter Try.func48, Try.ntmps48
  go_wp2_with fail
  refine (l00From_any w a len cap zs h).mono ?_
  rintro e w1 ⟨rfl, s1, hb⟩
  have S1 := Lib.hid s1
  have L1 := Lib.hid hb
  clear s1 hb h
  generalize hpp : w.heap.size = p at S1 ⊢
  have hwp : w.heap.size ≤ p := by omega
  go_wp2_with fail
  refine (l14Draw_any w1 p a len cap 0 S1.out (by omega)).mono ?_
  rintro e w2 ⟨ps, v, rfl, hl, hs⟩
  have L2 := Lib.hid (below_grown L1.out hs.1.gr hwp)
  have O2 := Lib.hid (slB_of hs.2)
  clear hs L1 S1
  go_wp2_with fail
  go_ret
  exact ⟨ps, v, rfl, hl, O2.out, L2.out⟩
set_option maxRecDepth 100000 in
set_option maxHeartbeats 2000000 in
theorem DrawBestChange_any (w : World) (a : Option Addr) (len cap : Nat) (zs : List Int) (h : IsRow .u8 w a len cap zs) :
    Calls Try.prog 50 #[.slice a len cap] w (RdW w) := by
  go_enter Try.func50, Try.ntmps50
  go_wp2_with fail
  refine (l00From_any w a len cap zs h).mono ?_
  rintro e w1 ⟨rfl, s1, hb⟩
  have S1 := Lib.hid s1
  have L1 := Lib.hid hb
  clear s1 hb h
  generalize hpp : w.heap.size = p at S1 ⊢
  have hwp : w.heap.size ≤ p := by omega
  go_wp2_with fail
  refine (l14Draw_any w1 p a len cap 0 S1.out (by omega)).mono ?_
  rintro e w2 ⟨ps, v, rfl, hl, hs⟩
  have L2 := Lib.hid (below_grown L1.out hs.1.gr hwp)
  have O2 := Lib.hid (slB_of hs.2)
  clear hs L1 S1
  go_wp2_with fail
  go_ret
  exact ⟨ps, v, rfl, hl, O2.out, L2.out⟩
set_option maxRecDepth 100000 in
set_option maxHeartbeats 2000000 in
theorem DrawResidualsOf_any (w : World) (a : Option Addr) (len cap : Nat) (zs : List Int) (h : IsRow .u8 w a len cap zs) :
    Calls Try.prog 42 #[.slice a len cap] w (RdW w) := by
  go_enter Try.func42, Try.ntmps42
  go_wp2_with fail
  refine (l00From_any w a len cap zs h).mono ?_
  rintro e w1 ⟨rfl, s1, hb⟩
  have S1 := Lib.hid s1
  have L1 := Lib.hid hb
  clear s1 hb h
  generalize hpp : w.heap.size = p at S1 ⊢
  have hwp : w.heap.size ≤ p := by omega
  go_wp2_with fail
  refine (l14Draw_any w1 p a len cap 0 S1.out (by omega)).mono ?_
  rintro e w2 ⟨ps, v, rfl, hl, hs⟩
  have L2 := Lib.hid (below_grown L1.out hs.1.gr hwp)
  have O2 := Lib.hid (slB_of hs.2)
  clear hs L1 S1
  go_wp2_with fail
  go_ret
  exact ⟨ps, v, rfl, hl, O2.out, L2.out⟩
def RdW2 (w : World) (e : Ending) (w' : World) : Prop := ∃ (ps : List (Int × Int)) (v : Value) (m : Int), e = .returned (.tuple #[v, .int .i64 m]) ∧ ps.length ≤ 64 ∧ SlB w' v ps ∧ Below w.heap.size w w'
set_option maxRecDepth 100000 in
set_option maxHeartbeats 4000000 in
theorem DrawJumpsOf_any (w : World) (a : Option Addr) (len cap : Nat) (zs : List Int) (h : IsRow .u8 w a len cap zs) :
    Calls Try.prog 49 #[.slice a len cap] w (RdW2 w) := by
  go_enter Try.func49, Try.ntmps49
  go_wp2_with fail
  refine (l00From_any w a len cap zs h).mono ?_
  rintro e w1 ⟨rfl, s1, hb⟩
  have S1 := Lib.hid s1
  have L1 := Lib.hid hb
  clear s1 hb h
  generalize hpp : w.heap.size = p at S1 ⊢
  have hwp : w.heap.size ≤ p := by omega
  have hp1 := S1.out.lt
  go_wp2_with fail
  refine (l14Draw_any w1 p a len cap 0 S1.out (by omega)).mono ?_
  rintro e w2 ⟨ps, v, rfl, hl, hs⟩
  have D2 := Lib.hid hs
  clear hs S1
  go_wp2_with fail
  refine (oneQ_any _ p a len cap _ 10 D2.out.1.src (by omega) (by omega) (by omega)).mono ?_
  rintro e w3 ⟨q, rfl, s1, g1⟩
  have D3 := Lib.hid (D2.out.step s1 g1)
  clear s1 g1 D2
  cases q
  · go_wp2_with fail
    refine (pick_any _ p a len cap _ 1000 D3.out.1.src (by omega) (by omega) (by omega)).mono ?_
    rintro e w4 ⟨m, _, _, rfl, s1, g1⟩
    have D4 := Lib.hid (D3.out.step s1 g1)
    have L4 := Lib.hid (below_grown L1.out D4.out.1.gr hwp)
    have O4 := Lib.hid (slB_of D4.out.2)
    clear s1 g1 D3 D4 L1
    go_wp2_with fail
    go_ret2
    exact ⟨ps, v, _, rfl, hl, O4.out, L4.out⟩
  · have hsz := D3.out.size
    go_wp2_with fail
    refine (among_any _ p a len cap _ _ 4 (-1) 200001 (D3.out.alloc _).1.src (by omega) (by omega) (by omega) (by omega) (by simp) ?hnu).mono ?_
    case hnu =>
      intro i hi
      match i, hi with
      | 0, _ => exact ⟨_, by simp [go_sem]; rfl, by omega, by omega⟩
      | 1, _ => exact ⟨_, by simp [go_sem]; rfl, by omega, by omega⟩
      | 2, _ => exact ⟨_, by simp [go_sem]; rfl, by omega, by omega⟩
      | 3, _ => exact ⟨_, by simp [go_sem]; rfl, by omega, by omega⟩
    rintro e w4 ⟨m, _, _, rfl, s1, g1⟩
    have D4 := Lib.hid ((D3.out.alloc _).step s1 g1)
    have L4 := Lib.hid (below_grown L1.out D4.out.1.gr hwp)
    have O4 := Lib.hid (slB_of D4.out.2)
    clear s1 g1 D3 D4 L1
    go_wp2_with fail
    go_ret2
    exact ⟨ps, v, _, rfl, hl, O4.out, L4.out⟩
set_option maxHeartbeats 1000000 in
theorem f6same_yes (ts : List Int) (va vb : Value) (w : World) (ha : Sl64 w va ts) (hb : Sl64 w vb ts) (hmax : ts.length ≤ 1000000000000) :
    Calls Try.prog 46 #[va, vb] w (DrewRet (.bool true) w) := by
  obtain ⟨ao, cap, rfl, ha⟩ := ha
  obtain ⟨bo, bcap, rfl, hb⟩ := hb
  have HA := Lib.hid ha
  have HB := Lib.hid hb
  clear ha hb
  have hne : ((ts.length : Int) != (ts.length : Int)) = false := by simp
  go_enter Try.func46, Try.ntmps46
  go_wp2_with fail
  go_loopw [5] (fun i wr => ∃ (k : Nat) (n : Nat), k ≤ ts.length ∧ i = .int .i64 k ∧ wr = w.drewN n) (fun i _ => ts.length - (intOf i).toNat)
  case atStart => exact ⟨0, 0, by omega, rfl, rfl⟩
  case round =>
    obtain ⟨k, n, hk, rfl, rfl⟩ := hrel
    by_cases hlt : k < ts.length
    · obtain ⟨g, rfl, hg, hc⟩ := HA.out (by omega)
      obtain ⟨g2, rfl, hg2, hc2⟩ := HB.out (by omega)
      have c1 : w.cell? ⟨g, k, none⟩ = some (.int .i64 (at0 ts k)) := hc k hlt
      have c2 : w.cell? ⟨g2, k, none⟩ = some (.int .i64 (at0 ts k)) := hc2 k hlt
      have hne2 : (at0 ts k != at0 ts k) = false := by simp
      clear hc hc2 HA HB
      go_wp2_with fail
      go_quiet (fail)
      go_wp2_with fail
      go_roundw
      case rel => exact ⟨k + 1, _, by omega, by go_num, rfl⟩
      case measure => simp [intOf]; omega
    · go_wp2_with fail
      go_ret
      exact ⟨rfl, n, rfl⟩
end Go.Proofs.Ytmmmbchlkjljaaa
namespace Go.Proofs.Ytmmmbchlkjljaaa
open Go.RowKit

/-- Two levels, the first one for F readings. -/
def own (F : Nat) (J : Int) (n : Nat) : List (Int × Int) := (List.range n).map fun (i : Nat) => (7 * (i : Int), if i < F then J else -J)
theorem own_len (F : Nat) (J : Int) (n : Nat) : (own F J n).length = n := by simp [own]
theorem own_succ (F : Nat) (J : Int) (n : Nat) : own F J (n + 1) = own F J n ++ [(7 * (n : Int), if n < F then J else -J)] := by simp [own, List.range_succ]
theorem own_at {F : Nat} {J : Int} {n i : Nat} (h : i < n) : pat (own F J n) i = (7 * (i : Int), if i < F then J else -J) := by
  unfold own
  rw [pat, List.getElem?_map, List.getElem?_range h]
  rfl
theorem own_ok {F : Nat} {J : Int} {n : Nat} (hn : n ≤ 12) (h1 : 1 ≤ J) (h2 : J ≤ 500) : okRd (own F J n) = true := by
  refine okRd_iff.2 ⟨by rw [own_len]; omega, fun i hi => ?_⟩
  rw [own_len] at hi
  refine okAt_c (own_at hi) (inB_true.2 (by omega)) ?_ ?_
  · refine inB_true.2 ?_
    by_cases h : i < F
    · rw [if_pos h]; omega
    · rw [if_neg h]; omega
  · by_cases h0 : i = 0
    · exact .inl h0
    · right
      rw [own_at (show i - 1 < n by omega)]
      show 7 * ((i - 1 : Nat) : Int) < 7 * (i : Int)
      omega
theorem own_sum {F : Nat} {J : Int} {n : Nat} : ∀ k, k ≤ n → smF ofS ((own F J n).take k) = (if k ≤ F then J * k else J * (2 * F - k)) ∧ smF yyS ((own F J n).take k) = J * J * k
  | 0, _ => by simp [smF]
  | k + 1, h => by
    obtain ⟨h1, h2⟩ := own_sum (F := F) (J := J) (n := n) k (by omega)
    have hl : k < (own F J n).length := by rw [own_len]; omega
    rw [smF_take _ hl, smF_take _ hl, h1, h2, own_at (show k < n by omega)]
    unfold ofS yyS
    by_cases hF : k + 1 ≤ F
    · rw [if_pos (show k ≤ F by omega), if_pos hF, if_pos (show k < F by omega)]
      refine ⟨by push_cast; grind, by push_cast; grind⟩
    · rw [if_neg hF, if_neg (show ¬ k < F by omega)]
      by_cases hk : k ≤ F
      · have e : k = F := by omega
        rw [if_pos hk, e]
        refine ⟨by push_cast; grind, by push_cast; grind⟩
      · rw [if_neg hk]
        refine ⟨by push_cast; grind, by push_cast; grind⟩
theorem own_all {F : Nat} {J : Int} {n : Nat} (h : F ≤ n) : smF ofS (own F J n) = J * (2 * F - n) ∧ smF yyS (own F J n) = J * J * n := by
  have := own_sum (F := F) (J := J) (n := n) n (Nat.le_refl _)
  rw [List.take_of_length_le (by rw [own_len]; exact Nat.le_refl _)] at this
  refine ⟨?_, this.2⟩
  rw [this.1]
  by_cases e : n ≤ F
  · have : n = F := by omega
    rw [if_pos e, this]
    grind
  · rw [if_neg e]
theorem own_cd {F : Nat} {J : Int} {n k : Nat} (hJ : 1 ≤ J) (hF : 1 ≤ F) (hn : F < n) (h1 : 1 ≤ k) (h2 : k < n) : (k = F → cdN (own F J n) k = 0) ∧ (k ≠ F → 0 < cdN (own F J n) k) := by
  obtain ⟨a1, a2⟩ := own_sum (F := F) (J := J) (n := n) k (by omega)
  obtain ⟨b1, b2⟩ := own_all (F := F) (J := J) (n := n) (by omega)
  have c1 := smF_split ofS (own F J n) k
  have c2 := smF_split yyS (own F J n) k
  have l1 : (((own F J n).take k).length : Int) = k := by rw [List.length_take, own_len]; omega
  have l2 : (((own F J n).drop k).length : Int) = (n : Int) - k := by rw [List.length_drop, own_len]; omega
  have l3 : ((own F J n).length : Int) = n := by rw [own_len]
  unfold cdN spN
  rw [l1, l2, l3, a2]
  have d1 : smF ofS ((own F J n).drop k) = J * (2 * F - n) - smF ofS ((own F J n).take k) := by omega
  have d2 : smF yyS ((own F J n).drop k) = J * J * n - J * J * k := by omega
  rw [d1, d2, a1]
  have hJJ : 1 ≤ J * J := by have := Int.mul_le_mul hJ hJ (by omega) (by omega); omega
  refine ⟨fun e => ?_, fun e => ?_⟩
  · subst e
    rw [if_pos (Nat.le_refl _)]
    grind
  · by_cases hk : k ≤ F
    · rw [if_pos hk]
      have e1 : ((k : Int) * (J * J * k) - J * k * (J * k)) * ((n : Int) - k) + (((n : Int) - k) * (J * J * n - J * J * k) - (J * (2 * F - n) - J * k) * (J * (2 * F - n) - J * k)) * k = (J * J) * (((F : Int) - k) * ((n : Int) - F)) * (4 * k) := by grind
      rw [e1]
      have p1 := Int.mul_pos (show (0 : Int) < (F : Int) - k by omega) (show (0 : Int) < (n : Int) - F by omega)
      exact Int.mul_pos (Int.mul_pos (by omega) p1) (by omega)
    · rw [if_neg hk]
      have e1 : ((k : Int) * (J * J * k) - J * (2 * F - k) * (J * (2 * F - k))) * ((n : Int) - k) + (((n : Int) - k) * (J * J * n - J * J * k) - (J * (2 * F - n) - J * (2 * F - k)) * (J * (2 * F - n) - J * (2 * F - k))) * k = (J * J) * ((F : Int) * ((k : Int) - F)) * (4 * ((n : Int) - k)) := by grind
      rw [e1]
      have p1 := Int.mul_pos (show (0 : Int) < (F : Int) by omega) (show (0 : Int) < (k : Int) - F by omega)
      exact Int.mul_pos (Int.mul_pos (by omega) p1) (by omega)
theorem own_best {F : Nat} {J : Int} {n : Nat} (hJ : 1 ≤ J) (hF : 1 ≤ F) (hn : F < n) : cnK (own F J n) (n - 1) = F := by
  have V := cnK_inv (ps := own F J n) (k := n - 1) (by omega) (by rw [own_len]; omega)
  generalize cnK (own F J n) (n - 1) = b at *
  have h1 := V.lo
  have h2 := V.hi
  by_cases e : b = F
  · exact e
  · exfalso
    refine V.none F hF (by omega) ?_
    rw [← cd_less (by rw [own_len]; omega) (by rw [own_len]; omega), (own_cd hJ hF hn hF hn).1 rfl]
    have p1 := (own_cd hJ hF hn h1 (show b < n by omega)).2 e
    have p2 := cnD_pos (ps := own F J n) (k := F) hF (by rw [own_len]; exact hn)
    have := Int.mul_pos p1 (show 0 < cnD (own F J n) F by omega)
    omega
theorem own_jump {F : Nat} {J : Int} {n : Nat} (hJ : 1 ≤ J) (hF : 1 ≤ F) : ∀ k, k + 1 ≤ n → jpK (stL (own F J n)) (2 * J) k = if k < F then [] else [(F : Int)]
  | 0, _ => by rw [if_pos (by omega)]; rfl
  | k + 1, h => by
    have ih := own_jump (F := F) (J := J) (n := n) hJ hF k (by omega)
    have e : (pat (stL (own F J n)) k).2 = (if k + 1 < F then J else -J) - (if k < F then J else -J) := by
      rw [stL_at (by rw [own_len]; omega), own_at (show k + 1 < n by omega), own_at (show k < n by omega)]
    by_cases h1 : k + 1 = F
    · rw [if_neg (show ¬ k + 1 < F by omega), if_pos (show k < F by omega)] at e
      rw [jpK_yes (by rw [e]; omega), ih, if_pos (show k < F by omega), if_neg (show ¬ k + 1 < F by omega)]
      simp; omega
    · by_cases h2 : k < F
      · rw [if_pos (show k + 1 < F by omega), if_pos h2] at e
        rw [jpK_no (by rw [e]; omega), ih, if_pos h2, if_pos (show k + 1 < F by omega)]
      · rw [if_neg (show ¬ k + 1 < F by omega), if_neg h2] at e
        rw [jpK_no (by rw [e]; omega), ih, if_neg h2, if_neg (show ¬ k + 1 < F by omega)]
theorem own_bcE {F : Nat} {J : Int} {n : Nat} (hJ : 1 ≤ J) (hJ2 : J ≤ 500) (hF : 1 ≤ F) (hn : F < n) (hn2 : n ≤ 12) : bcE (own F J n) = ((F : Int), 0) ∧ joE (own F J n) (2 * J) = ([(F : Int)], 0) := by
  have hok := own_ok (F := F) hn2 hJ hJ2
  refine ⟨?_, ?_⟩
  · rw [bcE_0 hok (by rw [own_len]; omega), own_len, own_best hJ hF hn]
  · rw [joE_0 hok (inB_true.2 (by omega)), own_len, own_jump hJ hF (n - 1) (by omega), if_neg (by omega)]
set_option maxRecDepth 100000 in
set_option maxHeartbeats 16000000 in
theorem FnBestChanges_walk (a : Option Addr) (len cap : Nat) (zs : List Int) (w : World) (h : IsRow .u8 w a len cap zs) :
    Calls Try.prog 10 #[.slice a len cap] w fun e w' => e = .returned (.bool true) ∧ Below w.heap.size w w' := by
  have l1 := (row_of h).1
  unfold maxLen at l1
  have HA := Lib.hid h
  clear h
  by_cases hl : 4096 < len
  · have hd : decide (4096 < (len : Int)) = true := decide_eq_true (by omega)
    go_enter Try.func10, Try.ntmps10
    go_wp2_with fail
    refine (f6bigR_any _ _ _ _ (by omega)).mono ?_
    rw [hd]
    rintro e w1 ⟨rfl, rfl⟩
    go_wp2_with fail
    go_ret
    exact ⟨rfl, bR _⟩
  have hd : decide (4096 < (len : Int)) = false := decide_eq_false (by omega)
  go_enter Try.func10, Try.ntmps10
  go_wp2_with fail
  refine (f6bigR_any _ _ _ _ (by omega)).mono ?_
  rw [hd]
  rintro e w1 ⟨rfl, rfl⟩
  clear hd hl l1
  go_wp2_with fail
  refine (DrawBestChange_any w a len cap zs HA.out).mono ?_
  rintro e w1 ⟨ps, v, rfl, hps, hs, hb⟩
  have L1 := Lib.hid hb
  have V1 := Lib.hid hs
  have hmax : ps.length ≤ 1000000000000 := by omega
  have CI := Lib.hid (fun W (h : SlB W v ps) => BestChangeI_any ps v W h.2 hmax)
  have CS := Lib.hid (fun W (h : SlB W v ps) => BestChangeS_any ps v W h.2 hmax)
  clear hb hs hmax
  generalize bcE ps = mo at *
  obtain ⟨m, c⟩ := mo
  simp only at CI CS
  have n0 : (m != m) = false := by simp
  have n1 : (c != c) = false := by simp
  go_wp2_with fail
  refine (CI.out _ V1.out).mono ?_
  rintro e w2 ⟨rfl, hb⟩
  have V2 := Lib.hid (V1.out.keep hb)
  have L2 := Lib.hid (bT L1.out hb)
  clear hb V1 L1
  go_wp2_with fail
  refine (CS.out _ V2.out).mono ?_
  rintro e w3 ⟨rfl, hb⟩
  have L3 := Lib.hid (bT L2.out hb)
  clear hb V2 L2 CI CS
  go_wp2_with fail
  refine (f6roll_any _ a len cap zs 1403 (IsRow.keep HA.out L3.out)).mono ?_
  rintro e w4 ⟨rfl, s1, hb⟩
  have S4 := Lib.hid s1
  have L4 := Lib.hid (bT L3.out hb)
  have hp4 := L3.out.size
  clear s1 hb L3
  generalize w3.heap.size = p at *
  go_wp2_with fail
  refine (below_any _ p a len cap _ 6 S4.out (by omega) (by omega) (by omega)).mono ?_
  rintro e w5 ⟨x, x0, x1, rfl, s1, g1⟩
  have S5 := Lib.hid s1
  have L5 := Lib.hid (below_grown L4.out g1 hp4)
  clear s1 g1 S4 L4
  go_wp2_with fail
  refine (below_any _ p a len cap _ 6 S5.out (by omega) (by omega) (by omega)).mono ?_
  rintro e w6 ⟨y, y0, y1, rfl, s1, g1⟩
  have S6 := Lib.hid s1
  have L6 := Lib.hid (below_grown L5.out g1 hp4)
  clear s1 g1 S5 L5
  go_wp2_with fail
  refine (below_any _ p a len cap _ 500 S6.out (by omega) (by omega) (by omega)).mono ?_
  rintro e w7 ⟨z, z0, z1, rfl, s1, g1⟩
  have L7 := Lib.hid (below_grown L6.out g1 hp4)
  clear s1 g1 S6 L6
  obtain ⟨F, hF⟩ : ∃ F : Nat, 1 + x = (F : Int) := ⟨(1 + x).toNat, by omega⟩
  obtain ⟨G, hG⟩ : ∃ G : Nat, 1 + y = (G : Int) := ⟨(1 + y).toNat, by omega⟩
  go_upto_region 12 with fail
  have hF1 : 1 ≤ F ∧ F ≤ 6 := by omega
  have hG1 : 1 ≤ G ∧ G ≤ 6 := by omega
  clear hF hG x0 x1 y0 y1
  generalize hJ : 1 + z = J at *
  have hJ1 : 1 ≤ J ∧ J ≤ 500 := by omega
  clear hJ z0 z1
  have R7 := Lib.hid (own_lower (B' := w.heap.size) (row0p w7 53) L7.out.size)
  have L8 := Lib.hid (bA L7.out (.cells #[] 53))
  clear L7
  go_wp2_with fail
  generalize w7.alloc (.cells #[] 53) = w8 at *
  go_loopw [12, 13] (fun vo vi wr => ∃ i : Nat, i ≤ F + G ∧ vi = .int .i64 i ∧ wr.ownsRow w.heap.size 53 2 vo (own F J i).length (pairC (own F J i)) ∧ Below w.heap.size w wr) (fun _ vi _ => F + G - (intOf vi).toNat)
  case atStart => exact ⟨0, Nat.zero_le _, rfl, R7.out, L8.out⟩
  case round =>
    obtain ⟨i, hi, rfl, hrow, hbel⟩ := hrel
    have RW := Lib.hid hrow
    have BL := Lib.hid hbel
    have hB := hbel.size
    clear hrow hbel R7 L8
    by_cases hlt : i < F + G
    · have hli : (i : Int) < (F : Int) + (G : Int) := by omega
      have HT := Lib.hid (own_succ F J i)
      have hol : (own F J i).length ≤ 60 := by rw [own_len]; omega
      generalize own F J i = out at *
      by_cases hiF : i < F
      · have h2 : ¬ (F : Int) ≤ (i : Int) := by omega
        rw [if_pos hiF] at HT
        go_wp2_with (at_builtin; refine appRd rfl _ _ rfl _ _ (7 * (i : Int)) J rfl RW.out hB (by show Value.slice (some ⟨wr.heap.size, 0, none⟩) 1 1 = _; rfl) (by omega) ?_)
        intro v' wa hown hap
        have R9 := Lib.hid hown
        have B9 := Lib.hid (BL.out.trans (hap.below (fun r e => (own_blk RW.out r e).1) hB))
        clear hown hap RW BL
        go_wp2_with fail
        go_roundw
        case rel => exact ⟨i + 1, by omega, by go_num, by rw [HT.out, List.length_append]; exact R9.out, B9.out⟩
        case measure => simp [intOf]; omega
      · have h2 : (F : Int) ≤ (i : Int) := by omega
        rw [if_neg hiF] at HT
        go_wp2_with (at_builtin; refine appRd rfl _ _ rfl _ _ (7 * (i : Int)) (-J) rfl RW.out hB (by show Value.slice (some ⟨wr.heap.size, 0, none⟩) 1 1 = _; rfl) (by omega) ?_)
        intro v' wa hown hap
        have R9 := Lib.hid hown
        have B9 := Lib.hid (BL.out.trans (hap.below (fun r e => (own_blk RW.out r e).1) hB))
        clear hown hap RW BL
        go_wp2_with fail
        go_roundw
        case rel => exact ⟨i + 1, by omega, by go_num, by rw [HT.out, List.length_append]; exact R9.out, B9.out⟩
        case measure => simp [intOf]; omega
    · obtain rfl : i = F + G := by omega
      have hli : ¬ ((F + G : Nat) : Int) < (F : Int) + (G : Int) := by omega
      have V9 := Lib.hid (slQ_of RW.out)
      obtain ⟨e1, e2⟩ := own_bcE (F := F) (J := J) (n := F + G) hJ1.1 hJ1.2 hF1.1 (by omega) (by omega)
      have hmax : (own F J (F + G)).length ≤ 1000000000000 := by rw [own_len]; omega
      have CI := Lib.hid (fun v W (h : SlQ W v (own F J (F + G))) => BestChangeI_any _ v W h hmax)
      have CJ := Lib.hid (fun v W (h : SlQ W v (own F J (F + G))) => JumpsOfI_any _ v (2 * J) W h hmax)
      rw [e1] at CI
      rw [e2] at CJ
      simp only at CI CJ
      clear RW hmax e1 e2
      generalize own F J (F + G) = os at *
      go_wp2_with fail
      refine (CI.out _ _ V9.out).mono ?_
      rintro e wb ⟨rfl, hb⟩
      have VB := Lib.hid (V9.out.keep hb)
      have LB := Lib.hid (bT BL.out hb)
      clear hb V9 BL
      go_wp2_with fail
      refine (CJ.out _ _ VB.out).mono ?_
      rintro e wc ⟨vj, rfl, hr, hb⟩
      have LC := Lib.hid (bT LB.out hb)
      obtain ⟨aj, cj, rfl, hsj⟩ := sl64_of hr
      obtain ⟨g, rfl, hg, hcj⟩ := hsj (by simp)
      have c0 : wc.cell? ⟨g, 0, none⟩ = some (.int .i64 (F : Int)) := hcj 0 (by simp)
      clear hb hr hsj hcj
      go_wp2_with fail
      go_ret
      exact ⟨rfl, LC.out⟩
end Go.Proofs.Ytmmmbchlkjljaaa

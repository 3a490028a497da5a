/-
  A train that is drawn and bent: spec.l05Bent.
-/
import Derived.Test.YtclefibjmnabbaaDrawT
import Derived.Test.YtclefibjmnabbaaAd
namespace Go.Proofs.Ytclefibjmnabbaa
open Go.RowKit

theorem four_new (W : World) (n : Nat) (x y z u : Value) (t : TypeId) (h : W.heap.size = n) : ∀ (j : Nat) (v : Value), [x, y, z, u][j]? = some v → (W.alloc (.cells #[x, y, z, u] t)).cell? ((⟨n, 0, none⟩ : Addr).add j) = some v := by
  subst h
  intro j v hj
  match j, hj with
  | 0, hj => simp at hj; subst hj; simp [go_sem, Addr.add]
  | 1, hj => simp at hj; subst hj; simp [go_sem, Addr.add]
  | 2, hj => simp at hj; subst hj; simp [go_sem, Addr.add]
  | 3, hj => simp at hj; subst hj; simp [go_sem, Addr.add]
  | (j + 4), hj => simp at hj
theorem rowLit (W : World) (B n : Nat) (cs : Array Value) (t : TypeId) (hB : B ≤ W.heap.size) (hn : cs.size = n * 2) (hm : n ≤ maxLen) : (W.alloc (.cells cs t)).ownsRow B t 2 (.slice (some ⟨W.heap.size, 0, none⟩) n n) n cs.toList :=
  ⟨by simp [hn], .inr ⟨W.heap.size, n, cs, rfl, hB, (MapKept.heap_alloc W _).1, Nat.le_refl _, hm, by first | exact hn | simp [hn], by rw [← hn, ← Array.length_toList, List.take_length]⟩⟩
/-- A train of any pairs, in a row of its own. -/
def BentT (w : World) (p : Nat) (a : Option Addr) (len cap d : Nat) (e : Ending) (w' : World) : Prop :=
  ∃ (ps : List (Int × Int)) (v : Value), e = .returned v ∧ ps.length ≤ 20 ∧ w'.ownsRow w.heap.size 67 2 v ps.length (pairC ps) ∧ SrcAt w' p a len cap d ∧ w.grownBy w' (some p)
set_option maxRecDepth 100000 in
set_option maxHeartbeats 4000000 in
theorem l05Bent_any (w : World) (p : Nat) (a : Option Addr) (len cap c : Nat) (h : SrcAt w p a len cap c) (hc : c ≤ 700000) :
    Calls Try.prog 66 #[.pointer (some ⟨p, 0, none⟩)] w (BentT w p a len cap (c + 40)) := by
  obtain ⟨i0, hi, hz0, hz1, hz2⟩ := info_parts infoPr
  have hlt := h.lt
  have HLT := Lib.hid (DS.new h).old
  have HH := Lib.hid h
  clear h
  go_enter Try.func66, Try.ntmps66
  go_wp2_with fail
  refine (l05Draw_any w p a len cap c 5 HH.out (by omega) (by omega)).mono ?_
  rintro e w1 ⟨ps, v, rfl, hl, _, ho, hs, hg⟩
  have O1 := Lib.hid ho
  have S1 := Lib.hid hs
  have G1 := Lib.hid hg
  have OB1 := Lib.hid (own_blk ho)
  clear ho hs hg HH
  go_wp2_with fail
  refine (pick_any _ p a len cap _ 16 S1.out (by omega) (by omega) (by omega)).mono ?_
  rintro e w2 ⟨k, k0, k1, rfl, s2, g2⟩
  have O2 := Lib.hid (own_grown (p := p) O1.out g2 (by omega))
  have S2 := Lib.hid s2
  have G2 := Lib.hid (gTrans G1.out g2)
  clear s2 g2 O1 S1 G1
  have hw2 := G2.out.size
  by_cases e0 : k = 0
  · subst e0
    go_wp2_with fail
    refine (among_any _ p a len cap _ _ 4 5 241 (S2.out.keep (bA (bR _) _)) (by omega) (by omega) (by omega) (by omega) (by simp) ?hnu).mono ?_
    case hnu =>
      intro i hi
      match i, hi with
      | 0, _ => exact ⟨_, by simp [go_sem]; rfl, by omega, by omega⟩
      | 1, _ => exact ⟨_, by simp [go_sem]; rfl, by omega, by omega⟩
      | 2, _ => exact ⟨_, by simp [go_sem]; rfl, by omega, by omega⟩
      | 3, _ => exact ⟨_, by simp [go_sem]; rfl, by omega, by omega⟩
    rintro e w3 ⟨x, x0, x1, rfl, s3, g3⟩
    have S3 := Lib.hid s3
    have O3 := Lib.hid (own_grown (p := p) (O2.out.alloc _) g3 (by omega))
    have G3 := Lib.hid (gTrans (gAlloc G2.out _) g3)
    clear s3 g3 O2 S2 G2
    go_wp2_with (at_builtin; refine wpList_append_own _ rfl _ _ 27 rfl w.heap.size 67 i0 (.agg #[.int .i64 0, .int .i64 0]) 2 16 Try.underlying27 hi hz0 hz1 hz2 rfl (by decide) _ ps.length (pairC ps) rfl (O3.out.alloc _) ⟨w3.heap.size, 0, none⟩ 1 1 [.int .i64 x, .int .i64 10] rfl ?d1 ?d2 ?d3 ?d4 ?d5 ?d6 ?_)
    try (case d1 => rfl)
    case d2 => exact two_new _ _ _ _ _ rfl
    case d3 => intro u hu; simp at hu; rcases hu with rfl | rfl <;> rfl
    case d4 => unfold maxLen; omega
    case d5 => omega
    case d6 => have := G3.out.size; simp; omega
    intro v' w5 hown5 hg5 _
    rw [← pairC_snoc ps (x, 10)] at hown5
    have RN := Lib.hid (show BentT w p a len cap (c + 40) (.returned v') w5 from
      ⟨ps ++ [(x, 10)], v', rfl, by simp; omega, by simpa using hown5, ((S3.out.keep (bA (bR _) _)).grown hg5 (fun e => by have := (OB1.out _ e).1; omega) (fun hl xb xo e h => by have := (OB1.out _ h).1; have := HLT.out hl xb xo e; omega)).mono (by omega), gGrown (gAlloc G3.out _) hg5 (fun r e => (OB1.out r e).1)⟩)
    clear hown5 hg5
    go_wp2_with fail
    go_ret
    exact RN.out
  by_cases e1 : k = 1
  · subst e1
    go_wp2_with fail
    refine (among_any _ p a len cap _ _ 5 (-9223372036854775808) 9223372036854775807 (S2.out.keep (bA (bR _) _)) (by omega) (by omega) (by omega) (by omega) (by simp) ?hnu).mono ?_
    case hnu =>
      intro i hi
      match i, hi with
      | 0, _ => exact ⟨_, by simp [go_sem]; rfl, by omega, by omega⟩
      | 1, _ => exact ⟨_, by simp [go_sem]; rfl, by omega, by omega⟩
      | 2, _ => exact ⟨_, by simp [go_sem]; rfl, by omega, by omega⟩
      | 3, _ => exact ⟨_, by simp [go_sem]; rfl, by omega, by omega⟩
      | 4, _ => exact ⟨_, by simp [go_sem]; rfl, by omega, by omega⟩
    rintro e w3 ⟨x, x0, x1, rfl, s3, g3⟩
    have S3 := Lib.hid s3
    have O3 := Lib.hid (own_grown (p := p) (O2.out.alloc _) g3 (by omega))
    have G3 := Lib.hid (gTrans (gAlloc G2.out _) g3)
    clear s3 g3 O2 S2 G2
    go_wp2_with (at_builtin; refine wpList_append_own _ rfl _ _ 27 rfl w.heap.size 67 i0 (.agg #[.int .i64 0, .int .i64 0]) 2 16 Try.underlying27 hi hz0 hz1 hz2 rfl (by decide) _ ps.length (pairC ps) rfl (O3.out.alloc _) ⟨w3.heap.size, 0, none⟩ 1 1 [.int .i64 60, .int .i64 x] rfl ?d1 ?d2 ?d3 ?d4 ?d5 ?d6 ?_)
    try (case d1 => rfl)
    case d2 => exact two_new _ _ _ _ _ rfl
    case d3 => intro u hu; simp at hu; rcases hu with rfl | rfl <;> rfl
    case d4 => unfold maxLen; omega
    case d5 => omega
    case d6 => have := G3.out.size; simp; omega
    intro v' w5 hown5 hg5 _
    rw [← pairC_snoc ps (60, x)] at hown5
    have RN := Lib.hid (show BentT w p a len cap (c + 40) (.returned v') w5 from
      ⟨ps ++ [(60, x)], v', rfl, by simp; omega, by simpa using hown5, ((S3.out.keep (bA (bR _) _)).grown hg5 (fun e => by have := (OB1.out _ e).1; omega) (fun hl xb xo e h => by have := (OB1.out _ h).1; have := HLT.out hl xb xo e; omega)).mono (by omega), gGrown (gAlloc G3.out _) hg5 (fun r e => (OB1.out r e).1)⟩)
    clear hown5 hg5
    go_wp2_with fail
    go_ret
    exact RN.out
  by_cases e2 : k = 2
  · subst e2
    go_wp2_with (at_builtin; refine wpList_append_own _ rfl _ _ 27 rfl w.heap.size 67 i0 (.agg #[.int .i64 0, .int .i64 0]) 2 16 Try.underlying27 hi hz0 hz1 hz2 rfl (by decide) _ ps.length (pairC ps) rfl (O2.out.alloc _) ⟨w2.heap.size, 0, none⟩ 2 2 [.int .i64 60, .int .i64 8, .int .i64 60, .int .i64 8] rfl ?d1 ?d2 ?d3 ?d4 ?d5 ?d6 ?_)
    try (case d1 => rfl)
    case d2 => exact four_new _ _ _ _ _ _ _ rfl
    case d3 => intro u hu; simp at hu; rcases hu with rfl | rfl | rfl | rfl <;> rfl
    case d4 => unfold maxLen; omega
    case d5 => omega
    case d6 => have := G2.out.size; simp; omega
    intro v' w5 hown5 hg5 _
    have RN := Lib.hid (show BentT w p a len cap (c + 40) (.returned v') w5 from
      ⟨ps ++ [(60, 8), (60, 8)], v', rfl, by simp; omega, by simpa [pairC] using hown5, ((S2.out.keep (bA (bR _) _)).grown hg5 (fun e => by have := (OB1.out _ e).1; omega) (fun hl xb xo e h => by have := (OB1.out _ h).1; have := HLT.out hl xb xo e; omega)).mono (by omega), gGrown (gAlloc G2.out _) hg5 (fun r e => (OB1.out r e).1)⟩)
    clear hown5 hg5
    go_wp2_with fail
    go_ret
    exact RN.out
  by_cases e3 : k = 3
  · subst e3
    go_wp2_with fail
    go_ret
    exact ⟨[(239, 7), (233, 11), (229, 13), (227, 17), (223, 19)], _, rfl, by decide, rowLit w2 w.heap.size 5 _ _ hw2 rfl (by unfold maxLen; omega), (S2.out.keep (bA (bR _) _)).mono (by omega), gAlloc G2.out _⟩
  · have f0 : (k == 0) = false := by simpa using e0
    have f1 : (k == 1) = false := by simpa using e1
    have f2 : (k == 2) = false := by simpa using e2
    have f3 : (k == 3) = false := by simpa using e3
    go_wp2_with fail
    go_ret
    exact ⟨ps, v, rfl, by omega, O2.out, S2.out.mono (by omega), G2.out⟩
end Go.Proofs.Ytclefibjmnabbaa

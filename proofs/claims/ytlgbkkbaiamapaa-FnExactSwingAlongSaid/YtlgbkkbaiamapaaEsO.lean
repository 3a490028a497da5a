/-
  A whole swing, the program's side: impl.Escapement.next.
-/
import Derived.Test.YtlgbkkbaiamapaaEsN
namespace Go.Proofs.Ytlgbkkbaiamapaa
open Go.RowKit

/-- What a swing returns. -/
def NxP (u i l m q e k : Int) (w : World) (en : Ending) (w' : World) : Prop := en = .returned (.tuple #[.agg #[.int .i64 (nxS u i l m q e), .int .i64 (if tkS u l q e = true then k + 1 else k)], .bool (tkS u l q e)]) ∧ Below w.heap.size w w'
/-- Which part of a swing comes. -/
def phV : Nat → Value
  | 0 => .func (.func 52) #[] #[]
  | 1 => .func (.func 58) #[] #[]
  | _ => .func (.func 60) #[] #[]
def phM : Value → Nat
  | .func (.func f) _ _ => if f = 52 then 2 else if f = 58 then 1 else 0
  | _ => 0
/-- What stands between two parts of a swing. -/
def NxR (W0 : World) (t u i l m e k q : Int) (v : Value) (W : World) : Prop :=
  Below W0.heap.size W0 W ∧ (v = phV 0 ∧ SwB W W0.heap.size t u i l m e k q ∨ v = phV 1 ∧ tkS u l q e = true ∧ SwB W W0.heap.size t u i l m (leS l e) k q ∨ v = phV 2 ∧ tkS u l q e = true ∧ SwB W W0.heap.size t u i l m (leS l e - u) (k + 1) q)
theorem tkS_cases {u l q e : Int} (h : tkS u l q e = false) : q = 0 ∨ q ≠ 0 ∧ ¬ u ≤ leS l e := by
  by_cases h0 : q = 0
  · exact .inl h0
  · by_cases h1 : u ≤ leS l e
    · rw [tkS_up h0 h1] at h; cases h
    · exact .inr ⟨h0, h1⟩
theorem bsetE {w w' : World} {b o : Nat} {v : Value} (h : Below w.heap.size w w') (hn : w.heap.size ≤ b) : Below w.heap.size w (w'.setCell ⟨b, o, none⟩ v) := h.setCell hn v
theorem nil_eq (w : World) : (binOp .eql 72 Value.nilFunc Value.nilFunc).run Try.prog w = .ok (.bool true) w := by kernel_rfl
theorem fun_eq (f : Nat) (w : World) : (binOp .eql 72 (.func (.func f) #[] #[]) Value.nilFunc).run Try.prog w = .ok (.bool false) w := by kernel_rfl
set_option maxRecDepth 100000 in
set_option maxHeartbeats 4000000 in
theorem next_any (t u i l m e k q : Int) (w : World) (H : Esc t u i l m) (he : 0 ≤ e ∧ e ≤ m) (hq : 0 ≤ q ∧ q ≤ 1000) (hk : 0 ≤ k ∧ k ≤ 9000000000) :
    Calls Try.prog 43 #[.agg #[.int .i64 t, .int .i64 u, .int .i64 i, .int .i64 l, .int .i64 m], .int .i64 q, .agg #[.int .i64 e, .int .i64 k]] w (NxP u i l m q e k w) := by
  have B1 := Lib.hid ((BoxL.at_ (w := w.alloc (.cells #[.int .i64 t, .int .i64 u, .int .i64 i, .int .i64 l, .int .i64 m] 25)) (b := w.heap.size + 1) (vs := [.int .i64 e, .int .i64 k]) (T := 31) (by simp)).alloc (.cells #[.int .i64 0, .int .i64 0] 31))
  have B2 := Lib.hid (BoxL.at_ (w := (w.alloc (.cells #[.int .i64 t, .int .i64 u, .int .i64 i, .int .i64 l, .int .i64 m] 25)).alloc (.cells #[.int .i64 e, .int .i64 k] 31)) (b := w.heap.size + 1 + 1) (vs := [.int .i64 0, .int .i64 0]) (T := 31) (by simp))
  have L0 := Lib.hid (bA (bA (bA (bR w) (.cells #[.int .i64 t, .int .i64 u, .int .i64 i, .int .i64 l, .int .i64 m] 25)) (.cells #[.int .i64 e, .int .i64 k] 31)) (.cells #[.int .i64 0, .int .i64 0] 31))
  have HZ := Lib.hid (show w.heap.size + 1 + 1 + 1 = (((w.alloc (.cells #[.int .i64 t, .int .i64 u, .int .i64 i, .int .i64 l, .int .i64 m] 25)).alloc (.cells #[.int .i64 e, .int .i64 k] 31)).alloc (.cells #[.int .i64 0, .int .i64 0] 31)).heap.size by simp)
  have HE := Lib.hid H
  have HB := Lib.hid (And.intro he (And.intro hq hk))
  have HL := Lib.hid (show 0 ≤ e ∧ e ≤ 100000 from ⟨he.1, by have := H.hm; omega⟩)
  clear H he hq hk
  have q0 := nil_eq
  have q1 := fun_eq
  go_enter Try.func43, Try.ntmps43
  go_wp2_with fail
  have hsz := HZ.out
  clear HZ
  rw [hsz]
  generalize ((w.alloc (.cells #[.int .i64 t, .int .i64 u, .int .i64 i, .int .i64 l, .int .i64 m] 25)).alloc (.cells #[.int .i64 e, .int .i64 k] 31)).alloc (.cells #[.int .i64 0, .int .i64 0] 31) = W0 at *
  have hW : w.heap.size + 1 + 1 ≠ W0.heap.size := by omega
  have hw1 : w.heap.size ≤ w.heap.size + 1 + 1 := by omega
  generalize hb2 : w.heap.size + 1 + 1 = b2 at *
  generalize hb1 : w.heap.size + 1 = b1 at *
  have n12 : ¬ b1 = b2 := by omega
  have n32 : ¬ W0.heap.size = b2 := by omega
  clear hsz hb2 hb1 hW
  have RS := Lib.hid (show NxR W0 t u i l m e k q (phV 0) (W0.alloc (.cells #[.int .i64 t, .int .i64 u, .int .i64 i, .int .i64 l, .int .i64 m, .int .i64 e, .int .i64 k, .int .i64 q] 70)) from ⟨bA (bR _) _, .inl ⟨rfl, BoxL.new W0 [.int .i64 t, .int .i64 u, .int .i64 i, .int .i64 l, .int .i64 m, .int .i64 e, .int .i64 k, .int .i64 q] _⟩⟩)
  go_loopw [9] (fun v wr => NxR W0 t u i l m e k q v wr) (fun v _ => phM v)
  case atStart => exact RS.out
  case round =>
    obtain ⟨hL, ⟨rfl, hS⟩ | ⟨rfl, ht, hS⟩ | ⟨rfl, ht, hS⟩⟩ := hrel
    · have L := Lib.hid hL
      clear hL RS
      cases ht : tkS u l q e
      · have NO := Lib.hid (nxS_no (i := i) (m := m) ht)
        have HT := Lib.hid ht
        have CL := Lib.hid (show Calls Try.prog 52 #[.pointer (some ⟨W0.heap.size, 0, none⟩)] wr (PhP Value.nilFunc W0.heap.size t u i l m (leS l e) k q wr) from by
          rcases tkS_cases ht with h0 | ⟨h0, h1⟩
          · exact lose_zero _ _ _ _ _ _ _ _ _ _ hS HL.out HE.out.hl h0
          · exact lose_low _ _ _ _ _ _ _ _ _ _ hS HL.out HE.out.hl h0 h1)
        clear ht hS
        unfold phV
        go_wp2_with fail
        refine CL.out.mono ?_
        rintro en w1 ⟨rfl, hS1, hb1⟩
        have L1 := Lib.hid (L.out.trans hb1)
        have X1 := Lib.hid (B1.out.keep L1.out)
        have X2 := Lib.hid (B2.out.keep L1.out)
        clear B1 B2 L CL hb1
        obtain ⟨c0, c1, c2, c3, c4, c5, c6, c7, f5, f6, cb⟩ := hS1.c
        obtain ⟨d0, d1, d2⟩ := X1.out.c2
        obtain ⟨g0, g1⟩ := X2.out.f2
        obtain ⟨j0, j1, j2⟩ := X2.out.c2
        clear hS1
        go_wp2_with fail
        go_region
        go_wp2_with fail
        refine bodyPost_ret (v := .tuple #[.agg #[.int .i64 (leS l e), .int .i64 k], .bool false]) ?_ rfl ⟨by rw [NO.out, HT.out]; rfl, ?_⟩
        · simp [results, Try.results43, go_sem, j0, j1]
        · exact (bsetE (bsetE (bT L0.out L1.out) hw1) hw1).drew
      · have CL := Lib.hid (lose_go _ _ _ _ _ _ _ _ _ _ hS HL.out HE.out.hl ht)
        have HT := Lib.hid ht
        clear ht hS
        unfold phV
        go_wp2_with fail
        refine CL.out.mono ?_
        rintro en w1 ⟨rfl, hS1, hb1⟩
        have L1 := Lib.hid (L.out.trans hb1)
        clear hb1 L
        go_wp2_with fail
        go_roundw
        case rel => exact ⟨L1.out, .inr (.inl ⟨rfl, HT.out, hS1⟩)⟩
        case measure => simp [phM]
    · have L := Lib.hid hL
      have HT := Lib.hid ht
      clear hL RS ht
      have CL := Lib.hid (release_any _ _ _ _ _ _ _ _ _ _ hS (by have := leS_bd HE.out.hl HL.out; have := HL.out; omega) (by have := HE.out.hu; omega) HB.out.2.2)
      clear hS
      unfold phV
      go_wp2_with fail
      refine CL.out.mono ?_
      rintro en w1 ⟨rfl, hS1, hb1⟩
      have L1 := Lib.hid (L.out.trans hb1)
      clear hb1 L
      go_wp2_with fail
      go_roundw
      case rel => exact ⟨L1.out, .inr (.inr ⟨rfl, HT.out, hS1⟩)⟩
      case measure => simp [phM]
    · have L := Lib.hid hL
      have HT := Lib.hid ht
      have NY := Lib.hid (nxS_yes (i := i) (m := m) ht)
      have hd := (tkS_bd ht).2
      have CL := Lib.hid (impel_any _ _ _ _ _ _ _ _ _ _ hS (by have := leS_bd HE.out.hl HL.out; have := HL.out; have := HE.out.hu; omega) HE.out.hi HB.out.2.1)
      clear hL RS ht hS hd
      unfold phV
      go_wp2_with fail
      refine CL.out.mono ?_
      rintro en w1 ⟨rfl, hS1, hb1⟩
      have L1 := Lib.hid (L.out.trans hb1)
      have X1 := Lib.hid (B1.out.keep L1.out)
      have X2 := Lib.hid (B2.out.keep L1.out)
      clear B1 B2 L CL hb1
      have HR := Lib.hid (show min (leS l e - u + i * q / 1000) m = nxS u i l m q e by rw [NY.out, Int.min_comm])
      generalize min (leS l e - u + i * q / 1000) m = r at *
      obtain ⟨c0, c1, c2, c3, c4, c5, c6, c7, f5, f6, cb⟩ := hS1.c
      obtain ⟨d0, d1, d2⟩ := X1.out.c2
      obtain ⟨g0, g1⟩ := X2.out.f2
      obtain ⟨j0, j1, j2⟩ := X2.out.c2
      clear hS1 NY
      go_wp2_with fail
      go_region
      go_wp2_with fail
      refine bodyPost_ret (v := .tuple #[.agg #[.int .i64 r, .int .i64 (k + 1)], .bool true]) ?_ rfl ⟨by rw [HR.out, HT.out]; rfl, ?_⟩
      · simp [results, Try.results43, go_sem, j0, j1]; omega
      · exact (bsetE (bsetE (bT L0.out L1.out) hw1) hw1).drew
end Go.Proofs.Ytlgbkkbaiamapaa

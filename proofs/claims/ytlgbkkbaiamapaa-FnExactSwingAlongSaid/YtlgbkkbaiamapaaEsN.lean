/-
  A swing, the program's side: a state machine over a box of eight numbers.
-/
import Derived.Test.YtlgbkkbaiamapaaEsS
import Derived.Test.YtlgbkkbaiamapaaPi
import Derived.BigRegion
namespace Go.Proofs.Ytlgbkkbaiamapaa
open Go.RowKit

theorem BoxL.setE {w : World} {b i : Nat} {vs : List Value} {v u : Value} (h : BoxL w b vs) (hi : vs[i]? = some u) : BoxL (w.setCell ⟨b, i, none⟩ v) b (vs.set i v) := by
  have hl : i < vs.length := by
    by_cases hl : i < vs.length
    · exact hl
    · rw [List.getElem?_eq_none (by omega)] at hi; cases hi
  have c0 := h.c i u hi
  refine ⟨fun j y e => ?_, fun j y e => ?_, by simpa [World.setCell] using h.lt⟩
  · by_cases hj : j = i
    · subst hj
      rw [List.getElem?_set_self hl] at e
      cases e
      simp [go_sem, c0]
    · rw [List.getElem?_set_ne (Ne.symm hj)] at e
      have := h.c j y e
      simp [go_sem, this]
  · by_cases hj : j = i
    · subst hj
      have := h.f j u hi
      simp [go_sem, this]
    · rw [List.getElem?_set_ne (Ne.symm hj)] at e
      have := h.f j y e
      simp [go_sem, this]
/-- A swing under way in box b. -/
def SwB (w : World) (b : Nat) (t u i l m e k q : Int) : Prop := BoxL w b [.int .i64 t, .int .i64 u, .int .i64 i, .int .i64 l, .int .i64 m, .int .i64 e, .int .i64 k, .int .i64 q]
theorem SwB.c {w : World} {b : Nat} {t u i l m e k q : Int} (H : SwB w b t u i l m e k q) :
    w.cell? ⟨b, 0, none⟩ = some (.int .i64 t) ∧ w.cell? ⟨b, 1, none⟩ = some (.int .i64 u) ∧ w.cell? ⟨b, 2, none⟩ = some (.int .i64 i) ∧ w.cell? ⟨b, 3, none⟩ = some (.int .i64 l) ∧ w.cell? ⟨b, 4, none⟩ = some (.int .i64 m) ∧
    w.cell? ⟨b, 5, none⟩ = some (.int .i64 e) ∧ w.cell? ⟨b, 6, none⟩ = some (.int .i64 k) ∧ w.cell? ⟨b, 7, none⟩ = some (.int .i64 q) ∧ w.frozen? ⟨b, 5, none⟩ = false ∧ w.frozen? ⟨b, 6, none⟩ = false ∧ b < w.heap.size :=
  ⟨BoxL.c H 0 _ rfl, BoxL.c H 1 _ rfl, BoxL.c H 2 _ rfl, BoxL.c H 3 _ rfl, BoxL.c H 4 _ rfl, BoxL.c H 5 _ rfl, BoxL.c H 6 _ rfl, BoxL.c H 7 _ rfl, BoxL.f H 5 _ rfl, BoxL.f H 6 _ rfl, H.lt⟩
theorem SwB.setE5 {w : World} {b : Nat} {t u i l m e k q : Int} (H : SwB w b t u i l m e k q) (x : Int) : SwB (w.setCell ⟨b, 5, none⟩ (.int .i64 x)) b t u i l m x k q := BoxL.setE (i := 5) (v := .int .i64 x) H rfl
theorem SwB.setE6 {w : World} {b : Nat} {t u i l m e k q : Int} (H : SwB w b t u i l m e k q) (x : Int) : SwB (w.setCell ⟨b, 6, none⟩ (.int .i64 x)) b t u i l m e x q := BoxL.setE (i := 6) (v := .int .i64 x) H rfl
theorem SwB.drew {w : World} {b : Nat} {t u i l m e k q : Int} (H : SwB w b t u i l m e k q) : SwB w.drew b t u i l m e k q := BoxL.keep H (bR _).drew
theorem SwB.drewN {w : World} {b : Nat} {t u i l m e k q : Int} (H : SwB w b t u i l m e k q) (n : Nat) : SwB (w.drewN n) b t u i l m e k q := BoxL.drewN H n
theorem below_drewN {B : Nat} {a w : World} (h : Below B a w) (n : Nat) : Below B a (w.drewN n) := ⟨h.os, h.tape, h.output, h.size, h.block⟩
/-- What a part of a swing returns: the part behind it, and the box. -/
def PhP (v : Value) (b : Nat) (t u i l m e k q : Int) (w : World) (en : Ending) (w' : World) : Prop := en = .returned v ∧ SwB w' b t u i l m e k q ∧ Below b w w'
theorem up1000 (n : Int) : upq n 1000 = (n + 999) / 1000 := by unfold upq; omega
set_option maxRecDepth 100000 in
set_option maxHeartbeats 1000000 in
theorem release_any (w : World) (b : Nat) (t u i l m e k q : Int) (H : SwB w b t u i l m e k q) (he : 0 ≤ e ∧ e ≤ 100000) (hu : 0 ≤ u ∧ u ≤ 100000) (hk : 0 ≤ k ∧ k ≤ 9000000000) :
    Calls Try.prog 58 #[.pointer (some ⟨b, 0, none⟩)] w (PhP (.func (.func 60) #[] #[]) b t u i l m (e - u) (k + 1) q w) := by
  obtain ⟨c0, c1, c2, c3, c4, c5, c6, c7, f5, f6, cb⟩ := H.c
  have X := Lib.hid ((H.setE5 (e - u)).drew.setE6 (k + 1))
  have X2 := Lib.hid ((H.setE5 (e - u)).setE6 (k + 1))
  clear H
  go_enter Try.func58, Try.ntmps58
  go_wp2_with fail
  go_region
  go_wp2_with fail
  go_ret
  exact ⟨rfl, X.out, ((Below.refl b w).setCell (p := ⟨b, 5, none⟩) (Nat.le_refl _) _).drew.setCell (p := ⟨b, 6, none⟩) (Nat.le_refl _) _⟩
set_option maxRecDepth 100000 in
set_option maxHeartbeats 2000000 in
theorem impel_any (w : World) (b : Nat) (t u i l m e k q : Int) (H : SwB w b t u i l m e k q) (he : 0 ≤ e ∧ e ≤ 100000) (hi : 0 ≤ i ∧ i ≤ 100000) (hq : 0 ≤ q ∧ q ≤ 1000) :
    Calls Try.prog 60 #[.pointer (some ⟨b, 0, none⟩)] w (PhP Value.nilFunc b t u i l m (min (e + i * q / 1000) m) k q w) := by
  obtain ⟨c0, c1, c2, c3, c4, c5, c6, c7, f5, f6, cb⟩ := H.c
  have X := Lib.hid (fun x (hx : x = min (e + i * q / 1000) m) => (show SwB (w.setCell ⟨b, 5, none⟩ (.int .i64 x)).drew b t u i l m (min (e + i * q / 1000) m) k q from hx ▸ (H.setE5 x).drew))
  obtain ⟨h1, h2⟩ := iq_bd hi hq
  clear H
  go_enter Try.func60, Try.ntmps60
  go_wp2_with fail
  go_region
  go_wp2_with fail
  all_goals go_ret
  all_goals exact ⟨rfl, X.out _ (by omega), ((Below.refl b w).setCell (p := ⟨b, 5, none⟩) (Nat.le_refl _) _).drew⟩
set_option maxRecDepth 100000 in
set_option maxHeartbeats 2000000 in
theorem lose_go (w : World) (b : Nat) (t u i l m e k q : Int) (H : SwB w b t u i l m e k q) (he : 0 ≤ e ∧ e ≤ 100000) (hl : 0 ≤ l ∧ l ≤ 1000) (ht : tkS u l q e = true) :
    Calls Try.prog 52 #[.pointer (some ⟨b, 0, none⟩)] w (PhP (.func (.func 58) #[] #[]) b t u i l m (leS l e) k q w) := by
  obtain ⟨h1, h2⟩ := el_bd hl he
  obtain ⟨h3, h4⟩ := leS_bd hl he
  obtain ⟨h5, h6⟩ := tkS_bd ht
  have q1 : (q == 0) = false := by simpa using h5
  have q2 : decide (leS l e < u) = false := by simp; omega
  clear ht h5 h6
  have e0 : e - upq (e * l) 1000 = leS l e := by rw [up1000]; rfl
  have e1 : IntKind.i64.wrap (e * l) = e * l := wrI _ (by omega)
  have e2 : IntKind.i64.wrap (e - upq (e * l) 1000) = leS l e := by rw [e0]; exact wrI _ (by omega)
  have QU := Lib.hid (fun W => quoU_any (e * l) 1000 W (by omega) (by omega) (by omega))
  have X := Lib.hid (H.setE5 (leS l e)).drew
  have LB := Lib.hid (((Below.refl b w).setCell (p := ⟨b, 5, none⟩) (Nat.le_refl _) (.int .i64 (leS l e))).drew)
  obtain ⟨c0, c1, c2, c3, c4, c5, c6, c7, f5, f6, cb⟩ := H.c
  clear h1 h2 h3 h4 e0 H
  generalize upq (e * l) 1000 = p at *
  generalize leS l e = r at *
  go_enter Try.func52, Try.ntmps52
  go_wp2_with fail
  go_cut [] (fun wx => SwB wx b t u i l m r k q ∧ Below b w wx)
  case first =>
    go_region_with (go_at_call 57; refine (QU.out _).mono ?_; rintro e w1 ⟨rfl, rfl⟩)
    all_goals (go_wp2_with fail; go_meet; exact ⟨X.out, LB.out⟩)
  case rest =>
    obtain ⟨hx, hl⟩ := hcut
    generalize wc = w5 at *
    clear X LB c0 c1 c2 c3 c4 c5 c6 c7 f5 f6 cb
    have X5 := Lib.hid hx
    have L5 := Lib.hid hl
    clear hl
    obtain ⟨c0, c1, c2, c3, c4, c5, c6, c7, f5, f6, cb⟩ := hx.c
    go_wp2_with fail
    go_quiet (fail)
    go_wp2_with fail
    go_ret
    exact ⟨rfl, X5.out.drewN _, below_drewN L5.out _⟩
set_option maxRecDepth 100000 in
set_option maxHeartbeats 2000000 in
theorem lose_zero (w : World) (b : Nat) (t u i l m e k q : Int) (H : SwB w b t u i l m e k q) (he : 0 ≤ e ∧ e ≤ 100000) (hl : 0 ≤ l ∧ l ≤ 1000) (hq : q = 0) :
    Calls Try.prog 52 #[.pointer (some ⟨b, 0, none⟩)] w (PhP Value.nilFunc b t u i l m (leS l e) k q w) := by
  obtain ⟨h1, h2⟩ := el_bd hl he
  obtain ⟨h3, h4⟩ := leS_bd hl he
  have q1 : (q == 0) = true := by simpa using hq
  clear hq
  have e0 : e - upq (e * l) 1000 = leS l e := by rw [up1000]; rfl
  have e1 : IntKind.i64.wrap (e * l) = e * l := wrI _ (by omega)
  have e2 : IntKind.i64.wrap (e - upq (e * l) 1000) = leS l e := by rw [e0]; exact wrI _ (by omega)
  have QU := Lib.hid (fun W => quoU_any (e * l) 1000 W (by omega) (by omega) (by omega))
  have X := Lib.hid (H.setE5 (leS l e)).drew
  have LB := Lib.hid (((Below.refl b w).setCell (p := ⟨b, 5, none⟩) (Nat.le_refl _) (.int .i64 (leS l e))).drew)
  obtain ⟨c0, c1, c2, c3, c4, c5, c6, c7, f5, f6, cb⟩ := H.c
  clear h1 h2 h3 h4 e0 H
  generalize upq (e * l) 1000 = p at *
  generalize leS l e = r at *
  go_enter Try.func52, Try.ntmps52
  go_wp2_with fail
  go_cut [] (fun wx => SwB wx b t u i l m r k q ∧ Below b w wx)
  case first =>
    go_region_with (go_at_call 57; refine (QU.out _).mono ?_; rintro e w1 ⟨rfl, rfl⟩)
    all_goals (go_wp2_with fail; go_meet; exact ⟨X.out, LB.out⟩)
  case rest =>
    obtain ⟨hx, hl⟩ := hcut
    generalize wc = w5 at *
    clear X LB c0 c1 c2 c3 c4 c5 c6 c7 f5 f6 cb
    have X5 := Lib.hid hx
    have L5 := Lib.hid hl
    clear hl
    obtain ⟨c0, c1, c2, c3, c4, c5, c6, c7, f5, f6, cb⟩ := hx.c
    go_wp2_with fail
    go_quiet (fail)
    go_wp2_with fail
    go_ret
    exact ⟨rfl, X5.out.drewN _, below_drewN L5.out _⟩
set_option maxRecDepth 100000 in
set_option maxHeartbeats 2000000 in
theorem lose_low (w : World) (b : Nat) (t u i l m e k q : Int) (H : SwB w b t u i l m e k q) (he : 0 ≤ e ∧ e ≤ 100000) (hl : 0 ≤ l ∧ l ≤ 1000) (hq : q ≠ 0) (ht : ¬ u ≤ leS l e) :
    Calls Try.prog 52 #[.pointer (some ⟨b, 0, none⟩)] w (PhP Value.nilFunc b t u i l m (leS l e) k q w) := by
  obtain ⟨h1, h2⟩ := el_bd hl he
  obtain ⟨h3, h4⟩ := leS_bd hl he
  have q1 : (q == 0) = false := by simpa using hq
  have q2 : decide (leS l e < u) = true := by simp; omega
  clear hq ht
  have e0 : e - upq (e * l) 1000 = leS l e := by rw [up1000]; rfl
  have e1 : IntKind.i64.wrap (e * l) = e * l := wrI _ (by omega)
  have e2 : IntKind.i64.wrap (e - upq (e * l) 1000) = leS l e := by rw [e0]; exact wrI _ (by omega)
  have QU := Lib.hid (fun W => quoU_any (e * l) 1000 W (by omega) (by omega) (by omega))
  have X := Lib.hid (H.setE5 (leS l e)).drew
  have LB := Lib.hid (((Below.refl b w).setCell (p := ⟨b, 5, none⟩) (Nat.le_refl _) (.int .i64 (leS l e))).drew)
  obtain ⟨c0, c1, c2, c3, c4, c5, c6, c7, f5, f6, cb⟩ := H.c
  clear h1 h2 h3 h4 e0 H
  generalize upq (e * l) 1000 = p at *
  generalize leS l e = r at *
  go_enter Try.func52, Try.ntmps52
  go_wp2_with fail
  go_cut [] (fun wx => SwB wx b t u i l m r k q ∧ Below b w wx)
  case first =>
    go_region_with (go_at_call 57; refine (QU.out _).mono ?_; rintro e w1 ⟨rfl, rfl⟩)
    all_goals (go_wp2_with fail; go_meet; exact ⟨X.out, LB.out⟩)
  case rest =>
    obtain ⟨hx, hl⟩ := hcut
    generalize wc = w5 at *
    clear X LB c0 c1 c2 c3 c4 c5 c6 c7 f5 f6 cb
    have X5 := Lib.hid hx
    have L5 := Lib.hid hl
    clear hl
    obtain ⟨c0, c1, c2, c3, c4, c5, c6, c7, f5, f6, cb⟩ := hx.c
    go_wp2_with fail
    go_quiet (fail)
    go_wp2_with fail
    go_ret
    exact ⟨rfl, X5.out.drewN _, below_drewN L5.out _⟩
end Go.Proofs.Ytlgbkkbaiamapaa

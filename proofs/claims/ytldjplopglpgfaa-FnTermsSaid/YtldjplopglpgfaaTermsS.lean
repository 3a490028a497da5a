/-
  The contracts of spec.l03Terms, spec.TermsOf and impl.TermsOf.
-/
import Derived.Test.YtldjplopglpgfaaColl
namespace Go.Proofs.Ytldjplopglpgfaa
open Go.RowKit

def TrRel (w : World) (n d : Int) (v a b : Value) (wr : World) : Prop :=
  ∃ (pre : List Int) (x y : Int) (g cap : Nat), v = .slice (some ⟨g, 0, none⟩) pre.length cap ∧ a = .int .i64 x ∧ b = .int .i64 y ∧ Row wr (w.heap.size + 1) g cap pre ∧ (okR x y = true ∨ y = 0) ∧ pre.length + y ≤ d ∧ terms n d = pre ++ terms x y ∧ Below w.heap.size w wr
/-- What TermsOf returns. -/
def trm (n d : Int) : List Int := if okR n d then terms n d else []
def trC (n d : Int) : Int := if okR n d then 0 else 1
theorem tr_yes {n d : Int} (h : okR n d = true) : trm n d = terms n d ∧ trC n d = 0 := by simp [trm, trC, h]
theorem tr_no {n d : Int} (h : okR n d = false) : trm n d = [] ∧ trC n d = 1 := by simp [trm, trC, h]
def TrPost (w : World) (ts : List Int) (c : Int) (e : Ending) (w' : World) : Prop := ∃ v, e = .returned (.tuple #[v, .int .i64 c]) ∧ w'.ownsRow w.heap.size 2 1 v ts.length (intC ts) ∧ Below w.heap.size w w'
theorem own_from {w w1 W : World} {v : Value} {ts : List Int} (h : W.ownsRow w1.heap.size 2 1 v ts.length (intC ts)) (hs : w.heap.size ≤ w1.heap.size) : W.ownsRow w.heap.size 2 1 v ts.length (intC ts) := own_low h hs
set_option maxHeartbeats 1000000 in
theorem TermsOfI_any (n d : Int) (w : World) :
    Calls Try.prog 7 #[.agg #[.int .i64 n, .int .i64 d]] w (TrPost w (trm n d) (trC n d)) := by
  cases hok : okR n d
  · obtain ⟨e1, e2⟩ := tr_no hok
    rw [e1, e2]
    clear e1 e2
    go_enter Try.func7, Try.ntmps7
    go_wp2_with fail
    refine (valid_any _ _ _).mono ?_
    rintro e w1 ⟨rfl, hb1⟩
    go_wp2_with fail
    go_ret2
    exact ⟨_, rfl, World.ownsRow_nil _ _ _ _, bT (bA (bR _) _) hb1⟩
  · obtain ⟨e1, e2⟩ := tr_yes hok
    rw [e1, e2]
    clear e1 e2
    obtain ⟨o1, o2, o3, o4⟩ := okR_bd hok
    go_enter Try.func7, Try.ntmps7
    go_wp2_with fail
    have B0 := Box2.new w n d 25
    refine (valid_any _ _ _).mono ?_
    rintro e w1 ⟨rfl, hb1⟩
    obtain ⟨x0, x1, x2, x3, x4⟩ := B0.keep hb1
    have HB1 := Lib.hid (bT (bA (bR _) _) hb1)
    clear B0 hb1
    go_wp2_with fail
    refine (terms_any _ _ _).mono ?_
    rintro e w2 ⟨rfl, rfl⟩
    have hl := terms_len n d (by omega) (by omega)
    have hP := termsP n d w1.heap.size (w1.alloc (.cells #[.int .i64 n, .int .i64 d] 25)) hok (by simp) (by simp [go_sem]) (by simp [go_sem])
    have HC := Lib.hid (Collect_any 37 _ none1 _ (terms n d) _ (w1.alloc (.cells #[.int .i64 n, .int .i64 d] 25)) (enters_of Try.func37 (by kernel_rfl) rfl) (fun _ h => h.elim) (by omega) hP)
    clear hP hl
    go_wp2_with fail
    refine HC.out.mono ?_
    rintro e w3 ⟨v, rfl, hv, hb3⟩
    have HV := Lib.hid (own_from (w := w) hv (by have := HB1.out.size; simp; omega))
    have HB2 := Lib.hid (bT (bA HB1.out _) hb3)
    clear hv hb3 HC
    go_wp2_with fail
    go_ret2
    exact ⟨_, rfl, HV.out, HB2.out⟩
end Go.Proofs.Ytldjplopglpgfaa

/-
  The contract of spec.l02Code, and what MakeRatio returns.
-/
import Derived.Test.YtpbepibklipfpaaDoorMk
namespace Go.Proofs.YtpbepibklipfpaaDoor
open Go.RowKit

theorem l02Code_any (a b : Int) (c : Bool) (w : World) :
    Calls Tryd.prog 73 #[.agg #[.int .i64 a, .int .i64 b], .bool c] w fun e w' => e = .returned (.tuple #[.agg #[.int .i64 (if c then a else 0), .int .i64 (if c then b else 0)], .int .i64 (if c then 0 else 2)]) ∧ Below w.heap.size w w' := by
  cases c
  · go_enter Tryd.func73, Tryd.ntmps73
    go_wp2_with fail
    exact bodyPost_ret (v := .tuple #[.agg #[.int .i64 0, .int .i64 0], .int .i64 2]) (by simp [results, Tryd.results73, go_sem]) rfl ⟨rfl, bA (bA (bR _) _) _⟩
  · go_enter Tryd.func73, Tryd.ntmps73
    go_wp2_with fail
    exact bodyPost_ret (v := .tuple #[.agg #[.int .i64 a, .int .i64 b], .int .i64 0]) (by simp [results, Tryd.results73, go_sem]) rfl ⟨rfl, bA (bA (bR _) _) _⟩

/-- What MakeRatio returns: two terms and a code. -/
def rA (n d : Int) : Int := if d = 0 then 0 else mkA n d
def rB (n d : Int) : Int := if d = 0 then 0 else mkB n d
def rC (n d : Int) : Int := if d = 0 then 6 else if lowOk n d = true then 0 else 2
theorem r_zero (n : Int) : rA n 0 = 0 ∧ rB n 0 = 0 ∧ rC n 0 = 6 := ⟨rfl, rfl, rfl⟩
theorem r_make {n d : Int} (h : d ≠ 0) : rA n d = (if lowOk n d then mkA n d else 0) ∧ rB n d = (if lowOk n d then mkB n d else 0) ∧ rC n d = (if lowOk n d then 0 else 2) := by
  unfold rA rB rC; rw [if_neg h, if_neg h, if_neg h]
  cases hk : lowOk n d
  · have := mk_no hk; simp [this.1, this.2]
  · simp
theorem r_no {n d : Int} (h : d ≠ 0) (hk : lowOk n d = false) : rA n d = 0 ∧ rB n d = 0 ∧ rC n d = 2 := by
  have := r_make (n := n) h; simpa [hk] using this
theorem r_yes {n d : Int} (h : d ≠ 0) (hk : lowOk n d = true) : rA n d = mkN n d ∧ rB n d = lowD n d ∧ rC n d = 0 := by
  have := r_make (n := n) h; rw [hk, (mk_yes hk).1, (mk_yes hk).2] at this; simpa using this

end Go.Proofs.YtpbepibklipfpaaDoor

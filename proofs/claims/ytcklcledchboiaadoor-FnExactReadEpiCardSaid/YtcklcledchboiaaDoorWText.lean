/-
  Texts of ratios: the contracts of spec.l02Text, spec.RatioText, impl.RatioText; the walk of laws.FnExactRatioText.
-/
import Derived.Test.YtcklcledchboiaaDoorWDec
import Derived.Lib.ItoaLen
namespace Go.Proofs.YtcklcledchboiaaDoor
open Go.RowKit

/-- A number in decimal. -/
def decT (n : Int) : ByteArray := ⟨(Lib.itoa n).toArray⟩
theorem l01DecT (n : Int) (w : World) (h1 : -9223372036854775808 ≤ n) (h2 : n ≤ 9223372036854775807) :
    Calls Tryd.prog 105 #[.int .i64 n] w fun e w' => e = .returned (.string (decT n)) ∧ Below w.heap.size w w' := l01Dec_any n w h1 h2
theorem DecimalT (n : Int) (w : World) (h : Pow10 w) (h1 : -9223372036854775808 ≤ n) (h2 : n ≤ 9223372036854775807) :
    Calls Tryd.prog 86 #[.int .i64 n] w fun e w' => e = .returned (.string (decT n)) ∧ Below w.heap.size w w' := DecimalI_any n w h h1 h2
theorem decT_size {n : Int} (h0 : -9223372036854775808 ≤ n) (h1 : n ≤ 9223372036854775807) : (decT n).size ≤ 21 := by
  have := Lib.itoa_length_le n h0 h1
  simpa [decT, ByteArray.size] using this
theorem cat_size (a b : ByteArray) : (a ++ b).size = a.size + b.size := by simp
theorem strAdd (a b : ByteArray) (h1 : a.size ≤ 1000) (h2 : b.size ≤ 1000) : Op.stringOp .add a b = pure (.string (a ++ b)) := by
  have h : ¬ (((a.size + b.size : Nat) : Int) > IntKind.i64.max) := by simp [IntKind.max, IntKind.signed, IntKind.bits]; omega
  simp only [Op.stringOp]
  rw [if_neg h]
/-- The text of a ratio; empty if it is not valid. -/
def txtV (n d : Int) : ByteArray := if d = 1 then decT n else decT n ++ ⟨#[47]⟩ ++ decT d
def txtR (n d : Int) : ByteArray := if okR n d = true then txtV n d else ⟨#[]⟩
theorem txtR_no {n d : Int} (h : okR n d = false) : ⟨#[]⟩ = txtR n d := by simp [txtR, h]
theorem txtR_yes {n d : Int} (h : okR n d = true) : txtV n d = txtR n d := by simp [txtR, h]
theorem txtV_one {n d : Int} (h : d = 1) : decT n = txtV n d := by simp [txtV, h]
theorem txtV_more {n d : Int} (h : d ≠ 1) : decT n ++ ⟨#[47]⟩ ++ decT d = txtV n d := by simp [txtV, h]
theorem ret_txt {a b : ByteArray} (h : a = b) : Ending.returned (.string a) = .returned (.string b) := by rw [h]

/-- A ratio lies in the box of a call, and what lay below stands. -/
def OneR (w : World) (n d : Int) (w' : World) : Prop := w'.cell? ⟨w.heap.size, 0, none⟩ = some (.int .i64 n) ∧ w'.cell? ⟨w.heap.size, 1, none⟩ = some (.int .i64 d) ∧ w.heap.size < w'.heap.size ∧ Below w.heap.size w w'
theorem OneR.start (w : World) (n d : Int) (T : TypeId) : OneR w n d (w.alloc (.cells #[.int .i64 n, .int .i64 d] T)) := ⟨by simp [go_sem], by simp [go_sem], by simp, bA (bR _) _⟩
theorem OneR.drew {w : World} {n d : Int} {x : World} (h : OneR w n d x) : OneR w n d x.drew := ⟨h.1, h.2.1, h.2.2.1, h.2.2.2.drew⟩
theorem OneR.bel {w : World} {n d : Int} {x : World} (h : OneR w n d x) : Below w.heap.size w x := h.2.2.2
theorem OneR.keep {w : World} {n d : Int} {x y : World} (hb : Below x.heap.size x y) (h : OneR w n d x) : OneR w n d y :=
  ⟨(hb.cell (p := ⟨w.heap.size, 0, none⟩) h.2.2.1).trans h.1, (hb.cell (p := ⟨w.heap.size, 1, none⟩) h.2.2.1).trans h.2.1, Nat.lt_of_lt_of_le h.2.2.1 hb.size, bT h.2.2.2 hb⟩

end Go.Proofs.YtcklcledchboiaaDoor

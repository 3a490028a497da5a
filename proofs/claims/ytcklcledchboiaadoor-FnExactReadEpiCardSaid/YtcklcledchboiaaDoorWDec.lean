/-
  The contracts of impl.Decimal and spec.Decimal; the walk of laws.FnExactDecimal.
-/
import Derived.Test.YtcklcledchboiaaDoorDec
import Derived.Test.YtcklcledchboiaaDoorRat
import Derived.Test.YtcklcledchboiaaDoorShelf
namespace Go.Proofs.YtcklcledchboiaaDoor
open Go.RowKit
open Go.Sort (grow)

/-- The library's table of powers of ten, as it lies in memory. -/
def Pow10 (w : World) : Prop := Lib.TabIs Tryd.prog w "internal/strconv.uint64pow10" .u64 Lib.pow10Tab
theorem gPow : Tryd.prog.globalNamed "internal/strconv.uint64pow10" = some 3 := by kernel_rfl
theorem Pow10.keep {w w' : World} (hb : Below w.heap.size w w') (h : Pow10 w) : Pow10 w' := by
  unfold Pow10 Lib.TabIs World.var? at *
  rw [gPow] at *
  simp only [Option.bind_some] at *
  have hg : 3 < w.heap.size := by
    cases hh : w.heap[3]? with
    | none => rw [hh] at h; cases h
    | some o => exact (Array.getElem?_eq_some_iff.1 hh).1
  rw [hb.block _ hg]; exact h
theorem grow_below (w : World) (k : Nat) (os : Array Obj) : Below w.heap.size w (grow (w.drewN k) os) :=
  ⟨rfl, rfl, rfl, by simp [grow], fun i hi => by simp [grow, Array.getElem?_append_left hi]⟩

theorem DecimalI_any (n : Int) (w : World) (h : Pow10 w) (h1 : -9223372036854775808 ≤ n) (h2 : n ≤ 9223372036854775807) :
    Calls Tryd.prog 86 #[.int .i64 n] w fun e w' => e = .returned (.string ⟨(Lib.itoa n).toArray⟩) ∧ Below w.heap.size w w' := by
  have HT := Lib.hid h
  clear h
  go_enter Tryd.func86, Tryd.ntmps86
  go_wp2_with fail
  refine (Tryd.strconv_FormatInt_10 n h1 h2 w HT.out).mono ?_
  rintro e w' ⟨rfl, k, os, rfl⟩
  have hb := grow_below w k os
  generalize grow (w.drewN k) os = w1 at *
  go_wp2_with fail
  go_ret
  exact ⟨rfl, hb⟩
end Go.Proofs.YtcklcledchboiaaDoor

/-
  Sorting a short row of tooth counts in place: cmp.Compare, impl.toothOrder.compare, slices.insertionSortCmpFunc, slices.pdqsortCmpFunc and slices.SortFunc at 12 elements or fewer.
-/
import Derived.Test.YtmmmbchlkjljaaaSrt
import Derived.Test.YtmmmbchlkjljaaaShelf
import Derived.Sort.WalkA
import Derived.Sort.WalkC
import Derived.BigQuiet
import Derived.Deep.QuietTactic
namespace Go.Proofs.Ytmmmbchlkjljaaa
open Go.RowKit Go.Sort

theorem ret_intS {a b : Int} (h : a = b) : Ending.returned (.int .i64 a) = .returned (.int .i64 b) := by rw [h]
theorem c3_bd (x y : Int) : -1 ≤ c3 x y ∧ c3 x y ≤ 1 := by unfold c3; split <;> (try split) <;> omega
def encT (x : Int) : Value := .int .i64 x
end Go.Proofs.Ytmmmbchlkjljaaa

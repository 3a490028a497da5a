/-
  The contracts of spec.l02Read and spec.ReadRatio.
-/
import Derived.Test.YtjacjjenlokogaaDoorRr
import Derived.Test.YtjacjjenlokogaaDoorSplit
import Derived.Test.YtjacjjenlokogaaDoorWRead
import Derived.Test.YtjacjjenlokogaaDoorArith
namespace Go.Proofs.YtjacjjenlokogaaDoor
open Go.RowKit

theorem cell_lt {w : World} {b o : Nat} {v : Value} (h : w.cell? ⟨b, o, none⟩ = some v) : b < w.heap.size := by
  by_cases hb : b < w.heap.size
  · exact hb
  · exfalso
    have : w.heap[b]? = none := by simp; omega
    simp [World.cell?, this] at h
theorem cellB {y : World} {b o : Nat} {a : Addr} {u : Value} (h : a.block ≠ b) : (y.setCell a u).cell? ⟨b, o, none⟩ = y.cell? ⟨b, o, none⟩ := World.cell?_of_block (w := y) (Below.heap_setCell y a u b (Ne.symm h))
/-- How reading a ratio ends. -/
def RrRet (s : ByteArray) (e : Ending) : Prop := ∃ n d ok, e = .returned (.tuple #[.agg #[.int .i64 n, .int .i64 d], .bool ok]) ∧ RrIs s.data.toList n d ok
end Go.Proofs.YtjacjjenlokogaaDoor

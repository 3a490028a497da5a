/-
  Rates: validity and the rate at a temperature, both sides; the conversions of the laws.
-/
import Derived.Test.YtdjnopffglcfmaaRaM
import Derived.Test.YtdjnopffglcfmaaBl
import Derived.Test.YtdjnopffglcfmaaEqP
namespace Go.Proofs.Ytdjnopffglcfmaa
open Go.RowKit

def OneN (n : Int) (w : World) (e : Ending) (w' : World) : Prop := e = .returned (.int .i64 n) ∧ Below w.heap.size w w'
def TwoN (a b : Int) (w : World) (e : Ending) (w' : World) : Prop := e = .returned (.tuple #[.int .i64 a, .int .i64 b]) ∧ Below w.heap.size w w'
theorem BoxL.c4 {w : World} {b : Nat} {u v x y : Value} (h : BoxL w b [u, v, x, y]) : w.cell? ⟨b, 0, none⟩ = some u ∧ w.cell? ⟨b, 1, none⟩ = some v ∧ w.cell? ⟨b, 2, none⟩ = some x ∧ w.cell? ⟨b, 3, none⟩ = some y ∧ b < w.heap.size := ⟨h.c 0 _ rfl, h.c 1 _ rfl, h.c 2 _ rfl, h.c 3 _ rfl, h.lt⟩
theorem BoxL.f4 {w : World} {b : Nat} {u v x y : Value} (h : BoxL w b [u, v, x, y]) : w.frozen? ⟨b, 0, none⟩ = false ∧ w.frozen? ⟨b, 1, none⟩ = false ∧ w.frozen? ⟨b, 2, none⟩ = false ∧ w.frozen? ⟨b, 3, none⟩ = false := ⟨h.f 0 _ rfl, h.f 1 _ rfl, h.f 2 _ rfl, h.f 3 _ rfl⟩
def RtB (b l c m : Int) (w : World) (e : Ending) (w' : World) : Prop := e = .returned (.agg #[.int .i64 b, .int .i64 l, .int .i64 c, .int .i64 m]) ∧ Below w.heap.size w w'
end Go.Proofs.Ytdjnopffglcfmaa

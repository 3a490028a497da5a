/-
  Contracts of spec.AddRatio, SubRatio, MulRatio, DivRatio, and what an operation returns.
-/
import Derived.Test.YtnndjbngcaafhaaDoorAr1
import Derived.Test.YtnndjbngcaafhaaDoorMkC
import Derived.Test.YtnndjbngcaafhaaDoorAr2
namespace Go.Proofs.YtnndjbngcaafhaaDoor
open Go.RowKit

/-- What an operation returns: the terms and the code of the ratio x / y; ErrInvalid if an operand is not valid. -/
def oA (v : Bool) (x y : Int) : Int := if v then rA x y else 0
def oB (v : Bool) (x y : Int) : Int := if v then rB x y else 0
def oC (v : Bool) (x y : Int) : Int := if v then rC x y else 1
theorem o_no (x y : Int) : oA false x y = 0 ∧ oB false x y = 0 ∧ oC false x y = 1 := ⟨rfl, rfl, rfl⟩
theorem o_yes (x y : Int) : oA true x y = rA x y ∧ oB true x y = rB x y ∧ oC true x y = rC x y := ⟨rfl, rfl, rfl⟩
theorem o_make {x y : Int} (h : y ≠ 0) : oA true x y = (if lowOk x y then mkA x y else 0) ∧ oB true x y = (if lowOk x y then mkB x y else 0) ∧ oC true x y = (if lowOk x y then 0 else 2) := r_make h
theorem v_no1 {n d p q : Int} (h : okR n d = false) : (okR n d && okR p q) = false := by simp [h]
theorem v_no2 {n d p q : Int} (h : okR p q = false) : (okR n d && okR p q) = false := by simp [h]
theorem v_yes {n d p q : Int} (h1 : okR n d = true) (h2 : okR p q = true) : (okR n d && okR p q) = true := by simp [h1, h2]

end Go.Proofs.YtnndjbngcaafhaaDoor

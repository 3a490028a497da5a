/-
  No cell of these rows narrows 'for every input' (looked for: loops, veiled, ifaces, maps, wideKeys, modest, calm, conditions, laid).
  DERIVED. THE GIVEN ROWS OF THIS SEAT. 8 by the template 'for every input the law returns true; each argument reads behind the call as it read before'; 0 by the template 'total and deterministic' (their statements: YtdjkmefkfknobaaTotals.lean).
  GIVEN WITH THE SEED: the statements are not yours to turn. If you find one false, say at which input.
  Laid BY PROGRAM, IN A SANDBOX (cutbox-rows.mjs): the forced cells as the released guide's own fill.sh prints them over the translation 001e46b6a33de21e… (all of the seat's roots in one cut). By AI agents, Wed Nov 11 2026. No macro, syntax, notation, axiom, sorry.
-/
import Derived.Test.YtdjkmefkfknobaaChecked
import GoSem.Claim
import GoSem.ClaimJoined
import GoSem.ClaimMapViews
import Derived.JoinedTies
import Derived.KernelRfl
namespace Go.Proofs.Ytdjkmefkfknobaa
/- THE CELL 'sum', in the pinned program and in every row, IS THE sha256 OF THE DUMP (.gsa) THAT YtdjkmefkfknobaaProg.lean LOADS. Nothing in Lean hashes anything: it is a label: what it is worth is what the hold of that sum in a sandbox is worth. -/
noncomputable def Try.pinned : Pinned := { name := "ytdjkmefkfknobaa", sum := "001e46b6a33de21ec9e3fac2957a55b3a9d79ed86a0d0a073b85635e0de59202", checked := Try.checked }
namespace Rows
def none {H : Type} : Left H := { results := [], args := [] }

/-- 'laws.FnRounding': WHATEVER THE INPUT: true; the input reads as it did. -/
def fnRoundingSpec : ChangeSpec := { name := "fnRounding", fn := fun _ => fun
  | [d1, d2] => { results := [.lit (.bool true)], args := [d1, d2] }
  | _ => none }
def fnRoundingRow : OpenClaim := { program := "ytdjkmefkfknobaa", sum := "001e46b6a33de21ec9e3fac2957a55b3a9d79ed86a0d0a073b85635e0de59202", func := "loop.example/g00921/laws.FnRounding", spec := "fnRounding", named := ["math/bits.divideError", "math/bits.overflowError"], apart := false }
def FnRoundingSaid : Prop := fnRoundingRow.holds Try.pinned (OpenSpec.ofChange fnRoundingSpec)

/-- ITS FALSE NEIGHBOUR: 'it returns false'. Refute it at one input. -/
def fnRoundingWrong : ChangeSpec := { name := "fnRounding", fn := fun _ => fun
  | [d1, d2] => { results := [.lit (.bool false)], args := [d1, d2] }
  | _ => none }
def FnRoundingWrongFalsely : Prop := fnRoundingRow.holds Try.pinned (OpenSpec.ofChange fnRoundingWrong)

/-- 'laws.FnExactIsName': WHATEVER THE INPUT: true; the input reads as it did. -/
def fnExactIsNameSpec : ChangeSpec := { name := "fnExactIsName", fn := fun _ => fun
  | [d] => { results := [.lit (.bool true)], args := [d] }
  | _ => none }
def fnExactIsNameRow : OpenClaim := { program := "ytdjkmefkfknobaa", sum := "001e46b6a33de21ec9e3fac2957a55b3a9d79ed86a0d0a073b85635e0de59202", func := "loop.example/g00921/laws.FnExactIsName", spec := "fnExactIsName", apart := false }
def FnExactIsNameSaid : Prop := fnExactIsNameRow.holds Try.pinned (OpenSpec.ofChange fnExactIsNameSpec)

/-- ITS FALSE NEIGHBOUR: 'it returns false'. Refute it at one input. -/
def fnExactIsNameWrong : ChangeSpec := { name := "fnExactIsName", fn := fun _ => fun
  | [d] => { results := [.lit (.bool false)], args := [d] }
  | _ => none }
def FnExactIsNameWrongFalsely : Prop := fnExactIsNameRow.holds Try.pinned (OpenSpec.ofChange fnExactIsNameWrong)

/-- 'laws.FnExactSplitWords': WHATEVER THE INPUT: true; the input reads as it did. -/
def fnExactSplitWordsSpec : ChangeSpec := { name := "fnExactSplitWords", fn := fun _ => fun
  | [d] => { results := [.lit (.bool true)], args := [d] }
  | _ => none }
def fnExactSplitWordsRow : OpenClaim := { program := "ytdjkmefkfknobaa", sum := "001e46b6a33de21ec9e3fac2957a55b3a9d79ed86a0d0a073b85635e0de59202", func := "loop.example/g00921/laws.FnExactSplitWords", spec := "fnExactSplitWords", unfollowed := true, recurses := true, apart := false }
def FnExactSplitWordsSaid : Prop := fnExactSplitWordsRow.holds Try.pinned (OpenSpec.ofChange fnExactSplitWordsSpec)

/-- ITS FALSE NEIGHBOUR: 'it returns false'. Refute it at one input. -/
def fnExactSplitWordsWrong : ChangeSpec := { name := "fnExactSplitWords", fn := fun _ => fun
  | [d] => { results := [.lit (.bool false)], args := [d] }
  | _ => none }
def FnExactSplitWordsWrongFalsely : Prop := fnExactSplitWordsRow.holds Try.pinned (OpenSpec.ofChange fnExactSplitWordsWrong)

/-- 'laws.FnExactValidRatio': WHATEVER THE INPUT: true; the input reads as it did. -/
def fnExactValidRatioSpec : ChangeSpec := { name := "fnExactValidRatio", fn := fun _ => fun
  | [d] => { results := [.lit (.bool true)], args := [d] }
  | _ => none }
def fnExactValidRatioRow : OpenClaim := { program := "ytdjkmefkfknobaa", sum := "001e46b6a33de21ec9e3fac2957a55b3a9d79ed86a0d0a073b85635e0de59202", func := "loop.example/g00921/laws.FnExactValidRatio", spec := "fnExactValidRatio", apart := false }
def FnExactValidRatioSaid : Prop := fnExactValidRatioRow.holds Try.pinned (OpenSpec.ofChange fnExactValidRatioSpec)

/-- ITS FALSE NEIGHBOUR: 'it returns false'. Refute it at one input. -/
def fnExactValidRatioWrong : ChangeSpec := { name := "fnExactValidRatio", fn := fun _ => fun
  | [d] => { results := [.lit (.bool false)], args := [d] }
  | _ => none }
def FnExactValidRatioWrongFalsely : Prop := fnExactValidRatioRow.holds Try.pinned (OpenSpec.ofChange fnExactValidRatioWrong)

/-- 'laws.FnExactCompareRatio': WHATEVER THE INPUT: true; the input reads as it did. -/
def fnExactCompareRatioSpec : ChangeSpec := { name := "fnExactCompareRatio", fn := fun _ => fun
  | [d1, d2] => { results := [.lit (.bool true)], args := [d1, d2] }
  | _ => none }
def fnExactCompareRatioRow : OpenClaim := { program := "ytdjkmefkfknobaa", sum := "001e46b6a33de21ec9e3fac2957a55b3a9d79ed86a0d0a073b85635e0de59202", func := "loop.example/g00921/laws.FnExactCompareRatio", spec := "fnExactCompareRatio", apart := false }
def FnExactCompareRatioSaid : Prop := fnExactCompareRatioRow.holds Try.pinned (OpenSpec.ofChange fnExactCompareRatioSpec)

/-- ITS FALSE NEIGHBOUR: 'it returns false'. Refute it at one input. -/
def fnExactCompareRatioWrong : ChangeSpec := { name := "fnExactCompareRatio", fn := fun _ => fun
  | [d1, d2] => { results := [.lit (.bool false)], args := [d1, d2] }
  | _ => none }
def FnExactCompareRatioWrongFalsely : Prop := fnExactCompareRatioRow.holds Try.pinned (OpenSpec.ofChange fnExactCompareRatioWrong)

/-- 'laws.FnExactFloorRatio': WHATEVER THE INPUT: true; the input reads as it did. -/
def fnExactFloorRatioSpec : ChangeSpec := { name := "fnExactFloorRatio", fn := fun _ => fun
  | [d] => { results := [.lit (.bool true)], args := [d] }
  | _ => none }
def fnExactFloorRatioRow : OpenClaim := { program := "ytdjkmefkfknobaa", sum := "001e46b6a33de21ec9e3fac2957a55b3a9d79ed86a0d0a073b85635e0de59202", func := "loop.example/g00921/laws.FnExactFloorRatio", spec := "fnExactFloorRatio", apart := false }
def FnExactFloorRatioSaid : Prop := fnExactFloorRatioRow.holds Try.pinned (OpenSpec.ofChange fnExactFloorRatioSpec)

/-- ITS FALSE NEIGHBOUR: 'it returns false'. Refute it at one input. -/
def fnExactFloorRatioWrong : ChangeSpec := { name := "fnExactFloorRatio", fn := fun _ => fun
  | [d] => { results := [.lit (.bool false)], args := [d] }
  | _ => none }
def FnExactFloorRatioWrongFalsely : Prop := fnExactFloorRatioRow.holds Try.pinned (OpenSpec.ofChange fnExactFloorRatioWrong)

/-- 'laws.FnExactRoundRatio': WHATEVER THE INPUT: true; the input reads as it did. -/
def fnExactRoundRatioSpec : ChangeSpec := { name := "fnExactRoundRatio", fn := fun _ => fun
  | [d] => { results := [.lit (.bool true)], args := [d] }
  | _ => none }
def fnExactRoundRatioRow : OpenClaim := { program := "ytdjkmefkfknobaa", sum := "001e46b6a33de21ec9e3fac2957a55b3a9d79ed86a0d0a073b85635e0de59202", func := "loop.example/g00921/laws.FnExactRoundRatio", spec := "fnExactRoundRatio", named := ["math/bits.divideError", "math/bits.overflowError"], apart := false }
def FnExactRoundRatioSaid : Prop := fnExactRoundRatioRow.holds Try.pinned (OpenSpec.ofChange fnExactRoundRatioSpec)

/-- ITS FALSE NEIGHBOUR: 'it returns false'. Refute it at one input. -/
def fnExactRoundRatioWrong : ChangeSpec := { name := "fnExactRoundRatio", fn := fun _ => fun
  | [d] => { results := [.lit (.bool false)], args := [d] }
  | _ => none }
def FnExactRoundRatioWrongFalsely : Prop := fnExactRoundRatioRow.holds Try.pinned (OpenSpec.ofChange fnExactRoundRatioWrong)

/-- 'laws.FnExactScaleRatio': WHATEVER THE INPUT: true; the input reads as it did. -/
def fnExactScaleRatioSpec : ChangeSpec := { name := "fnExactScaleRatio", fn := fun _ => fun
  | [d1, d2] => { results := [.lit (.bool true)], args := [d1, d2] }
  | _ => none }
def fnExactScaleRatioRow : OpenClaim := { program := "ytdjkmefkfknobaa", sum := "001e46b6a33de21ec9e3fac2957a55b3a9d79ed86a0d0a073b85635e0de59202", func := "loop.example/g00921/laws.FnExactScaleRatio", spec := "fnExactScaleRatio", named := ["math/bits.divideError", "math/bits.overflowError"], apart := false }
def FnExactScaleRatioSaid : Prop := fnExactScaleRatioRow.holds Try.pinned (OpenSpec.ofChange fnExactScaleRatioSpec)

/-- ITS FALSE NEIGHBOUR: 'it returns false'. Refute it at one input. -/
def fnExactScaleRatioWrong : ChangeSpec := { name := "fnExactScaleRatio", fn := fun _ => fun
  | [d1, d2] => { results := [.lit (.bool false)], args := [d1, d2] }
  | _ => none }
def FnExactScaleRatioWrongFalsely : Prop := fnExactScaleRatioRow.holds Try.pinned (OpenSpec.ofChange fnExactScaleRatioWrong)

/- THE SECOND FORM. 'bulk': how many values and letters a reading holds, each counted each time it is reached (what is shared counts as often as it is met; a slice's spare places count too). A statement '..UptoSaid' is the law's where the arguments, and the package variables that the reading takes, are together of bulk at most 1048576: NARROWER than '..Said'. Prove '..Said' where nothing that the law and all that it calls make is longer than what came in: it says more and counts as full. Else prove '..UptoSaid'. A law counts once. -/
mutual
def uptoBulk {H : Type} : DataW H → Nat
  | .lit (.string bytes) => bytes.length + 1
  | .lit _ => 1
  | .nil => 1
  | .ptr d => uptoBulk d + 1
  | .slice elems spare => uptoBulkAll elems + uptoBulkAll spare + 1
  | .agg parts => uptoBulkAll parts + 1
  | .iface _ d => uptoBulk d + 1
  | .map entries => uptoBulkEntries entries + 1
  | .held _ => 1
def uptoBulkAll {H : Type} : List (DataW H) → Nat
  | [] => 0
  | d :: r => uptoBulk d + uptoBulkAll r
def uptoBulkEntries {H : Type} : List (Lit × DataW H) → Nat
  | [] => 0
  | x :: r => uptoBulkEntry x + uptoBulkEntries r
def uptoBulkEntry {H : Type} : Lit × DataW H → Nat
  | (.string bytes, d) => bytes.length + uptoBulk d + 1
  | (_, d) => uptoBulk d + 1
 end
def uptoSmall : (H : Type) → List (DataW H) → Bool := fun _ ds => decide (uptoBulkAll ds ≤ 1048576)
def OpenSpec.upto (s : _root_.Go.ChangeSpec) : _root_.Go.OpenSpec := { _root_.Go.OpenSpec.ofChange s with cond := some uptoSmall }

/-- 'laws.FnRounding', WHERE WHAT IT READS IS OF BULK AT MOST 1048576: true; the input reads as it did. -/
def fnRoundingUptoRow : OpenClaim := { program := "ytdjkmefkfknobaa", sum := "001e46b6a33de21ec9e3fac2957a55b3a9d79ed86a0d0a073b85635e0de59202", func := "loop.example/g00921/laws.FnRounding", spec := "fnRounding", named := ["math/bits.divideError", "math/bits.overflowError"], apart := false, narrowed := true }
def FnRoundingUptoSaid : Prop := fnRoundingUptoRow.holds Try.pinned (OpenSpec.upto fnRoundingSpec)

/-- 'laws.FnExactIsName', WHERE WHAT IT READS IS OF BULK AT MOST 1048576: true; the input reads as it did. -/
def fnExactIsNameUptoRow : OpenClaim := { program := "ytdjkmefkfknobaa", sum := "001e46b6a33de21ec9e3fac2957a55b3a9d79ed86a0d0a073b85635e0de59202", func := "loop.example/g00921/laws.FnExactIsName", spec := "fnExactIsName", apart := false, narrowed := true }
def FnExactIsNameUptoSaid : Prop := fnExactIsNameUptoRow.holds Try.pinned (OpenSpec.upto fnExactIsNameSpec)

/-- 'laws.FnExactSplitWords', WHERE WHAT IT READS IS OF BULK AT MOST 1048576: true; the input reads as it did. -/
def fnExactSplitWordsUptoRow : OpenClaim := { program := "ytdjkmefkfknobaa", sum := "001e46b6a33de21ec9e3fac2957a55b3a9d79ed86a0d0a073b85635e0de59202", func := "loop.example/g00921/laws.FnExactSplitWords", spec := "fnExactSplitWords", unfollowed := true, recurses := true, apart := false, narrowed := true }
def FnExactSplitWordsUptoSaid : Prop := fnExactSplitWordsUptoRow.holds Try.pinned (OpenSpec.upto fnExactSplitWordsSpec)

/-- 'laws.FnExactValidRatio', WHERE WHAT IT READS IS OF BULK AT MOST 1048576: true; the input reads as it did. -/
def fnExactValidRatioUptoRow : OpenClaim := { program := "ytdjkmefkfknobaa", sum := "001e46b6a33de21ec9e3fac2957a55b3a9d79ed86a0d0a073b85635e0de59202", func := "loop.example/g00921/laws.FnExactValidRatio", spec := "fnExactValidRatio", apart := false, narrowed := true }
def FnExactValidRatioUptoSaid : Prop := fnExactValidRatioUptoRow.holds Try.pinned (OpenSpec.upto fnExactValidRatioSpec)

/-- 'laws.FnExactCompareRatio', WHERE WHAT IT READS IS OF BULK AT MOST 1048576: true; the input reads as it did. -/
def fnExactCompareRatioUptoRow : OpenClaim := { program := "ytdjkmefkfknobaa", sum := "001e46b6a33de21ec9e3fac2957a55b3a9d79ed86a0d0a073b85635e0de59202", func := "loop.example/g00921/laws.FnExactCompareRatio", spec := "fnExactCompareRatio", apart := false, narrowed := true }
def FnExactCompareRatioUptoSaid : Prop := fnExactCompareRatioUptoRow.holds Try.pinned (OpenSpec.upto fnExactCompareRatioSpec)

/-- 'laws.FnExactFloorRatio', WHERE WHAT IT READS IS OF BULK AT MOST 1048576: true; the input reads as it did. -/
def fnExactFloorRatioUptoRow : OpenClaim := { program := "ytdjkmefkfknobaa", sum := "001e46b6a33de21ec9e3fac2957a55b3a9d79ed86a0d0a073b85635e0de59202", func := "loop.example/g00921/laws.FnExactFloorRatio", spec := "fnExactFloorRatio", apart := false, narrowed := true }
def FnExactFloorRatioUptoSaid : Prop := fnExactFloorRatioUptoRow.holds Try.pinned (OpenSpec.upto fnExactFloorRatioSpec)

/-- 'laws.FnExactRoundRatio', WHERE WHAT IT READS IS OF BULK AT MOST 1048576: true; the input reads as it did. -/
def fnExactRoundRatioUptoRow : OpenClaim := { program := "ytdjkmefkfknobaa", sum := "001e46b6a33de21ec9e3fac2957a55b3a9d79ed86a0d0a073b85635e0de59202", func := "loop.example/g00921/laws.FnExactRoundRatio", spec := "fnExactRoundRatio", named := ["math/bits.divideError", "math/bits.overflowError"], apart := false, narrowed := true }
def FnExactRoundRatioUptoSaid : Prop := fnExactRoundRatioUptoRow.holds Try.pinned (OpenSpec.upto fnExactRoundRatioSpec)

/-- 'laws.FnExactScaleRatio', WHERE WHAT IT READS IS OF BULK AT MOST 1048576: true; the input reads as it did. -/
def fnExactScaleRatioUptoRow : OpenClaim := { program := "ytdjkmefkfknobaa", sum := "001e46b6a33de21ec9e3fac2957a55b3a9d79ed86a0d0a073b85635e0de59202", func := "loop.example/g00921/laws.FnExactScaleRatio", spec := "fnExactScaleRatio", named := ["math/bits.divideError", "math/bits.overflowError"], apart := false, narrowed := true }
def FnExactScaleRatioUptoSaid : Prop := fnExactScaleRatioUptoRow.holds Try.pinned (OpenSpec.upto fnExactScaleRatioSpec)

end Rows
end Go.Proofs.Ytdjkmefkfknobaa

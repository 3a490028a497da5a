/-
  No cell of these rows narrows 'for every input' (looked for: loops, veiled, ifaces, maps, wideKeys, modest, calm, conditions, laid).
  DERIVED. THE GIVEN ROWS OF THIS SEAT. 8 by the template 'for every input the law returns true; each argument reads behind the call as it read before'; 0 by the template 'total and deterministic' (their statements: YthnfkkfonabhkaaTotals.lean).
  GIVEN WITH THE SEED: the statements are not yours to turn. If you find one false, say at which input.
  Laid BY PROGRAM, IN A SANDBOX (cutbox-rows.mjs): the forced cells as the released guide's own fill.sh prints them over the translation 87c5715734497b79… (all of the seat's roots in one cut). By AI agents, Wed Nov 11 2026. No macro, syntax, notation, axiom, sorry.
-/
import Derived.Test.YthnfkkfonabhkaaChecked
import GoSem.Claim
import GoSem.ClaimJoined
import GoSem.ClaimMapViews
import Derived.JoinedTies
import Derived.KernelRfl
namespace Go.Proofs.Ythnfkkfonabhkaa
/- THE CELL 'sum', in the pinned program and in every row, IS THE sha256 OF THE DUMP (.gsa) THAT YthnfkkfonabhkaaProg.lean LOADS. Nothing in Lean hashes anything: it is a label: what it is worth is what the hold of that sum in a sandbox is worth. -/
noncomputable def Try.pinned : Pinned := { name := "ythnfkkfonabhkaa", sum := "87c5715734497b795782f07de4a51a14b3b49415bb33c4592cb4871e65ebb961", checked := Try.checked }
namespace Rows
def none {H : Type} : Left H := { results := [], args := [] }

/-- 'laws.FnExactFloorRatio': WHATEVER THE INPUT: true; the input reads as it did. -/
def fnExactFloorRatioSpec : ChangeSpec := { name := "fnExactFloorRatio", fn := fun _ => fun
  | [d] => { results := [.lit (.bool true)], args := [d] }
  | _ => none }
def fnExactFloorRatioRow : OpenClaim := { program := "ythnfkkfonabhkaa", sum := "87c5715734497b795782f07de4a51a14b3b49415bb33c4592cb4871e65ebb961", func := "loop.example/g00921/laws.FnExactFloorRatio", spec := "fnExactFloorRatio", apart := false }
def FnExactFloorRatioSaid : Prop := fnExactFloorRatioRow.holds Try.pinned (OpenSpec.ofChange fnExactFloorRatioSpec)

/-- ITS FALSE NEIGHBOUR: 'it returns false'. Refute it at one input. -/
def fnExactFloorRatioWrong : ChangeSpec := { name := "fnExactFloorRatio", fn := fun _ => fun
  | [d] => { results := [.lit (.bool false)], args := [d] }
  | _ => none }
def FnExactFloorRatioWrongFalsely : Prop := fnExactFloorRatioRow.holds Try.pinned (OpenSpec.ofChange fnExactFloorRatioWrong)

/-- 'laws.FnRounding': WHATEVER THE INPUT: true; the input reads as it did. -/
def fnRoundingSpec : ChangeSpec := { name := "fnRounding", fn := fun _ => fun
  | [d1, d2] => { results := [.lit (.bool true)], args := [d1, d2] }
  | _ => none }
def fnRoundingRow : OpenClaim := { program := "ythnfkkfonabhkaa", sum := "87c5715734497b795782f07de4a51a14b3b49415bb33c4592cb4871e65ebb961", func := "loop.example/g00921/laws.FnRounding", spec := "fnRounding", named := ["math/bits.divideError", "math/bits.overflowError"], apart := false }
def FnRoundingSaid : Prop := fnRoundingRow.holds Try.pinned (OpenSpec.ofChange fnRoundingSpec)

/-- ITS FALSE NEIGHBOUR: 'it returns false'. Refute it at one input. -/
def fnRoundingWrong : ChangeSpec := { name := "fnRounding", fn := fun _ => fun
  | [d1, d2] => { results := [.lit (.bool false)], args := [d1, d2] }
  | _ => none }
def FnRoundingWrongFalsely : Prop := fnRoundingRow.holds Try.pinned (OpenSpec.ofChange fnRoundingWrong)

/-- 'laws.FnExactTermsOf': WHATEVER THE INPUT: true; the input reads as it did. -/
def fnExactTermsOfSpec : ChangeSpec := { name := "fnExactTermsOf", fn := fun _ => fun
  | [d] => { results := [.lit (.bool true)], args := [d] }
  | _ => none }
def fnExactTermsOfRow : OpenClaim := { program := "ythnfkkfonabhkaa", sum := "87c5715734497b795782f07de4a51a14b3b49415bb33c4592cb4871e65ebb961", func := "loop.example/g00921/laws.FnExactTermsOf", spec := "fnExactTermsOf", unfollowed := true, recurses := true, apart := false }
def FnExactTermsOfSaid : Prop := fnExactTermsOfRow.holds Try.pinned (OpenSpec.ofChange fnExactTermsOfSpec)

/-- ITS FALSE NEIGHBOUR: 'it returns false'. Refute it at one input. -/
def fnExactTermsOfWrong : ChangeSpec := { name := "fnExactTermsOf", fn := fun _ => fun
  | [d] => { results := [.lit (.bool false)], args := [d] }
  | _ => none }
def FnExactTermsOfWrongFalsely : Prop := fnExactTermsOfRow.holds Try.pinned (OpenSpec.ofChange fnExactTermsOfWrong)

/-- 'laws.FnExactConvergentsOf': WHATEVER THE INPUT: true; the input reads as it did. -/
def fnExactConvergentsOfSpec : ChangeSpec := { name := "fnExactConvergentsOf", fn := fun _ => fun
  | [d] => { results := [.lit (.bool true)], args := [d] }
  | _ => none }
def fnExactConvergentsOfRow : OpenClaim := { program := "ythnfkkfonabhkaa", sum := "87c5715734497b795782f07de4a51a14b3b49415bb33c4592cb4871e65ebb961", func := "loop.example/g00921/laws.FnExactConvergentsOf", spec := "fnExactConvergentsOf", unfollowed := true, recurses := true, apart := false }
def FnExactConvergentsOfSaid : Prop := fnExactConvergentsOfRow.holds Try.pinned (OpenSpec.ofChange fnExactConvergentsOfSpec)

/-- ITS FALSE NEIGHBOUR: 'it returns false'. Refute it at one input. -/
def fnExactConvergentsOfWrong : ChangeSpec := { name := "fnExactConvergentsOf", fn := fun _ => fun
  | [d] => { results := [.lit (.bool false)], args := [d] }
  | _ => none }
def FnExactConvergentsOfWrongFalsely : Prop := fnExactConvergentsOfRow.holds Try.pinned (OpenSpec.ofChange fnExactConvergentsOfWrong)

/-- 'laws.FnExactNeighboursOf': WHATEVER THE INPUT: true; the input reads as it did. -/
def fnExactNeighboursOfSpec : ChangeSpec := { name := "fnExactNeighboursOf", fn := fun _ => fun
  | [d1, d2] => { results := [.lit (.bool true)], args := [d1, d2] }
  | _ => none }
def fnExactNeighboursOfRow : OpenClaim := { program := "ythnfkkfonabhkaa", sum := "87c5715734497b795782f07de4a51a14b3b49415bb33c4592cb4871e65ebb961", func := "loop.example/g00921/laws.FnExactNeighboursOf", spec := "fnExactNeighboursOf", unfollowed := true, recurses := true, apart := false }
def FnExactNeighboursOfSaid : Prop := fnExactNeighboursOfRow.holds Try.pinned (OpenSpec.ofChange fnExactNeighboursOfSpec)

/-- ITS FALSE NEIGHBOUR: 'it returns false'. Refute it at one input. -/
def fnExactNeighboursOfWrong : ChangeSpec := { name := "fnExactNeighboursOf", fn := fun _ => fun
  | [d1, d2] => { results := [.lit (.bool false)], args := [d1, d2] }
  | _ => none }
def FnExactNeighboursOfWrongFalsely : Prop := fnExactNeighboursOfRow.holds Try.pinned (OpenSpec.ofChange fnExactNeighboursOfWrong)

/-- 'laws.FnExactBestWithin': WHATEVER THE INPUT: true; the input reads as it did. -/
def fnExactBestWithinSpec : ChangeSpec := { name := "fnExactBestWithin", fn := fun _ => fun
  | [d1, d2] => { results := [.lit (.bool true)], args := [d1, d2] }
  | _ => none }
def fnExactBestWithinRow : OpenClaim := { program := "ythnfkkfonabhkaa", sum := "87c5715734497b795782f07de4a51a14b3b49415bb33c4592cb4871e65ebb961", func := "loop.example/g00921/laws.FnExactBestWithin", spec := "fnExactBestWithin", unfollowed := true, recurses := true, apart := false }
def FnExactBestWithinSaid : Prop := fnExactBestWithinRow.holds Try.pinned (OpenSpec.ofChange fnExactBestWithinSpec)

/-- ITS FALSE NEIGHBOUR: 'it returns false'. Refute it at one input. -/
def fnExactBestWithinWrong : ChangeSpec := { name := "fnExactBestWithin", fn := fun _ => fun
  | [d1, d2] => { results := [.lit (.bool false)], args := [d1, d2] }
  | _ => none }
def FnExactBestWithinWrongFalsely : Prop := fnExactBestWithinRow.holds Try.pinned (OpenSpec.ofChange fnExactBestWithinWrong)

/-- 'laws.FnExactSimplestBetween': WHATEVER THE INPUT: true; the input reads as it did. -/
def fnExactSimplestBetweenSpec : ChangeSpec := { name := "fnExactSimplestBetween", fn := fun _ => fun
  | [d1, d2] => { results := [.lit (.bool true)], args := [d1, d2] }
  | _ => none }
def fnExactSimplestBetweenRow : OpenClaim := { program := "ythnfkkfonabhkaa", sum := "87c5715734497b795782f07de4a51a14b3b49415bb33c4592cb4871e65ebb961", func := "loop.example/g00921/laws.FnExactSimplestBetween", spec := "fnExactSimplestBetween", recurses := true, apart := false }
def FnExactSimplestBetweenSaid : Prop := fnExactSimplestBetweenRow.holds Try.pinned (OpenSpec.ofChange fnExactSimplestBetweenSpec)

/-- ITS FALSE NEIGHBOUR: 'it returns false'. Refute it at one input. -/
def fnExactSimplestBetweenWrong : ChangeSpec := { name := "fnExactSimplestBetween", fn := fun _ => fun
  | [d1, d2] => { results := [.lit (.bool false)], args := [d1, d2] }
  | _ => none }
def FnExactSimplestBetweenWrongFalsely : Prop := fnExactSimplestBetweenRow.holds Try.pinned (OpenSpec.ofChange fnExactSimplestBetweenWrong)

/-- 'laws.FnSimplest': WHATEVER THE INPUT: true; the input reads as it did. -/
def fnSimplestSpec : ChangeSpec := { name := "fnSimplest", fn := fun _ => fun
  | [d] => { results := [.lit (.bool true)], args := [d] }
  | _ => none }
def fnSimplestRow : OpenClaim := { program := "ythnfkkfonabhkaa", sum := "87c5715734497b795782f07de4a51a14b3b49415bb33c4592cb4871e65ebb961", func := "loop.example/g00921/laws.FnSimplest", spec := "fnSimplest", recurses := true, apart := false }
def FnSimplestSaid : Prop := fnSimplestRow.holds Try.pinned (OpenSpec.ofChange fnSimplestSpec)

/-- ITS FALSE NEIGHBOUR: 'it returns false'. Refute it at one input. -/
def fnSimplestWrong : ChangeSpec := { name := "fnSimplest", fn := fun _ => fun
  | [d] => { results := [.lit (.bool false)], args := [d] }
  | _ => none }
def FnSimplestWrongFalsely : Prop := fnSimplestRow.holds Try.pinned (OpenSpec.ofChange fnSimplestWrong)

/- THE SECOND FORM. 'bulk': how many values and letters a reading holds, each counted each time it is reached (what is shared counts as often as it is met; a slice's spare places count too). A statement '..UptoSaid' is the law's where the arguments, and the package variables that the reading takes, are together of bulk at most 1048576: NARROWER than '..Said'. Prove '..Said' where nothing that the law and all that it calls make is longer than what came in: it says more and counts as full. Else prove '..UptoSaid'. A law counts once. -/
mutual
def uptoBulk {H : Type} : DataW H → Nat
  | .lit (.string bytes) => bytes.length + 1
  | .lit _ => 1
  | .nil => 1
  | .ptr d => uptoBulk d + 1
  | .slice elems spare => uptoBulkAll elems + uptoBulkAll spare + 1
  | .agg parts => uptoBulkAll parts + 1
  | .iface _ d => uptoBulk d + 1
  | .map entries => uptoBulkEntries entries + 1
  | .held _ => 1
def uptoBulkAll {H : Type} : List (DataW H) → Nat
  | [] => 0
  | d :: r => uptoBulk d + uptoBulkAll r
def uptoBulkEntries {H : Type} : List (Lit × DataW H) → Nat
  | [] => 0
  | x :: r => uptoBulkEntry x + uptoBulkEntries r
def uptoBulkEntry {H : Type} : Lit × DataW H → Nat
  | (.string bytes, d) => bytes.length + uptoBulk d + 1
  | (_, d) => uptoBulk d + 1
 end
def uptoSmall : (H : Type) → List (DataW H) → Bool := fun _ ds => decide (uptoBulkAll ds ≤ 1048576)
def OpenSpec.upto (s : _root_.Go.ChangeSpec) : _root_.Go.OpenSpec := { _root_.Go.OpenSpec.ofChange s with cond := some uptoSmall }

/-- 'laws.FnExactFloorRatio', WHERE WHAT IT READS IS OF BULK AT MOST 1048576: true; the input reads as it did. -/
def fnExactFloorRatioUptoRow : OpenClaim := { program := "ythnfkkfonabhkaa", sum := "87c5715734497b795782f07de4a51a14b3b49415bb33c4592cb4871e65ebb961", func := "loop.example/g00921/laws.FnExactFloorRatio", spec := "fnExactFloorRatio", apart := false, narrowed := true }
def FnExactFloorRatioUptoSaid : Prop := fnExactFloorRatioUptoRow.holds Try.pinned (OpenSpec.upto fnExactFloorRatioSpec)

/-- 'laws.FnRounding', WHERE WHAT IT READS IS OF BULK AT MOST 1048576: true; the input reads as it did. -/
def fnRoundingUptoRow : OpenClaim := { program := "ythnfkkfonabhkaa", sum := "87c5715734497b795782f07de4a51a14b3b49415bb33c4592cb4871e65ebb961", func := "loop.example/g00921/laws.FnRounding", spec := "fnRounding", named := ["math/bits.divideError", "math/bits.overflowError"], apart := false, narrowed := true }
def FnRoundingUptoSaid : Prop := fnRoundingUptoRow.holds Try.pinned (OpenSpec.upto fnRoundingSpec)

/-- 'laws.FnExactTermsOf', WHERE WHAT IT READS IS OF BULK AT MOST 1048576: true; the input reads as it did. -/
def fnExactTermsOfUptoRow : OpenClaim := { program := "ythnfkkfonabhkaa", sum := "87c5715734497b795782f07de4a51a14b3b49415bb33c4592cb4871e65ebb961", func := "loop.example/g00921/laws.FnExactTermsOf", spec := "fnExactTermsOf", unfollowed := true, recurses := true, apart := false, narrowed := true }
def FnExactTermsOfUptoSaid : Prop := fnExactTermsOfUptoRow.holds Try.pinned (OpenSpec.upto fnExactTermsOfSpec)

/-- 'laws.FnExactConvergentsOf', WHERE WHAT IT READS IS OF BULK AT MOST 1048576: true; the input reads as it did. -/
def fnExactConvergentsOfUptoRow : OpenClaim := { program := "ythnfkkfonabhkaa", sum := "87c5715734497b795782f07de4a51a14b3b49415bb33c4592cb4871e65ebb961", func := "loop.example/g00921/laws.FnExactConvergentsOf", spec := "fnExactConvergentsOf", unfollowed := true, recurses := true, apart := false, narrowed := true }
def FnExactConvergentsOfUptoSaid : Prop := fnExactConvergentsOfUptoRow.holds Try.pinned (OpenSpec.upto fnExactConvergentsOfSpec)

/-- 'laws.FnExactNeighboursOf', WHERE WHAT IT READS IS OF BULK AT MOST 1048576: true; the input reads as it did. -/
def fnExactNeighboursOfUptoRow : OpenClaim := { program := "ythnfkkfonabhkaa", sum := "87c5715734497b795782f07de4a51a14b3b49415bb33c4592cb4871e65ebb961", func := "loop.example/g00921/laws.FnExactNeighboursOf", spec := "fnExactNeighboursOf", unfollowed := true, recurses := true, apart := false, narrowed := true }
def FnExactNeighboursOfUptoSaid : Prop := fnExactNeighboursOfUptoRow.holds Try.pinned (OpenSpec.upto fnExactNeighboursOfSpec)

/-- 'laws.FnExactBestWithin', WHERE WHAT IT READS IS OF BULK AT MOST 1048576: true; the input reads as it did. -/
def fnExactBestWithinUptoRow : OpenClaim := { program := "ythnfkkfonabhkaa", sum := "87c5715734497b795782f07de4a51a14b3b49415bb33c4592cb4871e65ebb961", func := "loop.example/g00921/laws.FnExactBestWithin", spec := "fnExactBestWithin", unfollowed := true, recurses := true, apart := false, narrowed := true }
def FnExactBestWithinUptoSaid : Prop := fnExactBestWithinUptoRow.holds Try.pinned (OpenSpec.upto fnExactBestWithinSpec)

/-- 'laws.FnExactSimplestBetween', WHERE WHAT IT READS IS OF BULK AT MOST 1048576: true; the input reads as it did. -/
def fnExactSimplestBetweenUptoRow : OpenClaim := { program := "ythnfkkfonabhkaa", sum := "87c5715734497b795782f07de4a51a14b3b49415bb33c4592cb4871e65ebb961", func := "loop.example/g00921/laws.FnExactSimplestBetween", spec := "fnExactSimplestBetween", recurses := true, apart := false, narrowed := true }
def FnExactSimplestBetweenUptoSaid : Prop := fnExactSimplestBetweenUptoRow.holds Try.pinned (OpenSpec.upto fnExactSimplestBetweenSpec)

/-- 'laws.FnSimplest', WHERE WHAT IT READS IS OF BULK AT MOST 1048576: true; the input reads as it did. -/
def fnSimplestUptoRow : OpenClaim := { program := "ythnfkkfonabhkaa", sum := "87c5715734497b795782f07de4a51a14b3b49415bb33c4592cb4871e65ebb961", func := "loop.example/g00921/laws.FnSimplest", spec := "fnSimplest", recurses := true, apart := false, narrowed := true }
def FnSimplestUptoSaid : Prop := fnSimplestUptoRow.holds Try.pinned (OpenSpec.upto fnSimplestSpec)

end Rows
end Go.Proofs.Ythnfkkfonabhkaa

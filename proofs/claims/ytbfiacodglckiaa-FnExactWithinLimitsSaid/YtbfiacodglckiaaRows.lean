/-
  No cell of these rows narrows 'for every input' (looked for: loops, veiled, ifaces, maps, wideKeys, modest, calm, conditions, laid).
  DERIVED. THE GIVEN ROWS OF THIS SEAT. 11 by the template 'for every input the law returns true; each argument reads behind the call as it read before'; 0 by the template 'total and deterministic' (their statements: YtbfiacodglckiaaTotals.lean).
  GIVEN WITH THE SEED: the statements are not yours to turn. If you find one false, say at which input.
  Laid BY PROGRAM, IN A SANDBOX (cutbox-rows.mjs): the forced cells as the released guide's own fill.sh prints them over the translation d919d2621a524e0e… (all of the seat's roots in one cut). By AI agents, Wed Nov 11 2026. No macro, syntax, notation, axiom, sorry.
-/
import Derived.Test.YtbfiacodglckiaaChecked
import GoSem.Claim
import GoSem.ClaimJoined
import GoSem.ClaimMapViews
import Derived.JoinedTies
import Derived.KernelRfl
namespace Go.Proofs.Ytbfiacodglckiaa
/- THE CELL 'sum', in the pinned program and in every row, IS THE sha256 OF THE DUMP (.gsa) THAT YtbfiacodglckiaaProg.lean LOADS. Nothing in Lean hashes anything: it is a label: what it is worth is what the hold of that sum in a sandbox is worth. -/
noncomputable def Try.pinned : Pinned := { name := "ytbfiacodglckiaa", sum := "d919d2621a524e0ef68df953e0166142d389bc0edef91d884318efa5b6b16a70", checked := Try.checked }
namespace Rows
def none {H : Type} : Left H := { results := [], args := [] }

/-- 'laws.FnTerms': WHATEVER THE INPUT: true; the input reads as it did. -/
def fnTermsSpec : ChangeSpec := { name := "fnTerms", fn := fun _ => fun
  | [d] => { results := [.lit (.bool true)], args := [d] }
  | _ => none }
def fnTermsRow : OpenClaim := { program := "ytbfiacodglckiaa", sum := "d919d2621a524e0ef68df953e0166142d389bc0edef91d884318efa5b6b16a70", func := "loop.example/g00921/laws.FnTerms", spec := "fnTerms", unfollowed := true, recurses := true, apart := false }
def FnTermsSaid : Prop := fnTermsRow.holds Try.pinned (OpenSpec.ofChange fnTermsSpec)

/-- ITS FALSE NEIGHBOUR: 'it returns false'. Refute it at one input. -/
def fnTermsWrong : ChangeSpec := { name := "fnTerms", fn := fun _ => fun
  | [d] => { results := [.lit (.bool false)], args := [d] }
  | _ => none }
def FnTermsWrongFalsely : Prop := fnTermsRow.holds Try.pinned (OpenSpec.ofChange fnTermsWrong)

/-- 'laws.FnSplits': WHATEVER THE INPUT: true; the input reads as it did. -/
def fnSplitsSpec : ChangeSpec := { name := "fnSplits", fn := fun _ => fun
  | [d1, d2] => { results := [.lit (.bool true)], args := [d1, d2] }
  | _ => none }
def fnSplitsRow : OpenClaim := { program := "ytbfiacodglckiaa", sum := "d919d2621a524e0ef68df953e0166142d389bc0edef91d884318efa5b6b16a70", func := "loop.example/g00921/laws.FnSplits", spec := "fnSplits", unfollowed := true, recurses := true, apart := false }
def FnSplitsSaid : Prop := fnSplitsRow.holds Try.pinned (OpenSpec.ofChange fnSplitsSpec)

/-- ITS FALSE NEIGHBOUR: 'it returns false'. Refute it at one input. -/
def fnSplitsWrong : ChangeSpec := { name := "fnSplits", fn := fun _ => fun
  | [d1, d2] => { results := [.lit (.bool false)], args := [d1, d2] }
  | _ => none }
def FnSplitsWrongFalsely : Prop := fnSplitsRow.holds Try.pinned (OpenSpec.ofChange fnSplitsWrong)

/-- 'laws.FnExactDivisorsOf': WHATEVER THE INPUT: true; the input reads as it did. -/
def fnExactDivisorsOfSpec : ChangeSpec := { name := "fnExactDivisorsOf", fn := fun _ => fun
  | [d] => { results := [.lit (.bool true)], args := [d] }
  | _ => none }
def fnExactDivisorsOfRow : OpenClaim := { program := "ytbfiacodglckiaa", sum := "d919d2621a524e0ef68df953e0166142d389bc0edef91d884318efa5b6b16a70", func := "loop.example/g00921/laws.FnExactDivisorsOf", spec := "fnExactDivisorsOf", unfollowed := true, recurses := true, apart := false }
def FnExactDivisorsOfSaid : Prop := fnExactDivisorsOfRow.holds Try.pinned (OpenSpec.ofChange fnExactDivisorsOfSpec)

/-- ITS FALSE NEIGHBOUR: 'it returns false'. Refute it at one input. -/
def fnExactDivisorsOfWrong : ChangeSpec := { name := "fnExactDivisorsOf", fn := fun _ => fun
  | [d] => { results := [.lit (.bool false)], args := [d] }
  | _ => none }
def FnExactDivisorsOfWrongFalsely : Prop := fnExactDivisorsOfRow.holds Try.pinned (OpenSpec.ofChange fnExactDivisorsOfWrong)

/-- 'laws.FnExactDivisorsWithin': WHATEVER THE INPUT: true; the input reads as it did. -/
def fnExactDivisorsWithinSpec : ChangeSpec := { name := "fnExactDivisorsWithin", fn := fun _ => fun
  | [d1, d2, d3] => { results := [.lit (.bool true)], args := [d1, d2, d3] }
  | _ => none }
def fnExactDivisorsWithinRow : OpenClaim := { program := "ytbfiacodglckiaa", sum := "d919d2621a524e0ef68df953e0166142d389bc0edef91d884318efa5b6b16a70", func := "loop.example/g00921/laws.FnExactDivisorsWithin", spec := "fnExactDivisorsWithin", unfollowed := true, recurses := true, apart := false }
def FnExactDivisorsWithinSaid : Prop := fnExactDivisorsWithinRow.holds Try.pinned (OpenSpec.ofChange fnExactDivisorsWithinSpec)

/-- ITS FALSE NEIGHBOUR: 'it returns false'. Refute it at one input. -/
def fnExactDivisorsWithinWrong : ChangeSpec := { name := "fnExactDivisorsWithin", fn := fun _ => fun
  | [d1, d2, d3] => { results := [.lit (.bool false)], args := [d1, d2, d3] }
  | _ => none }
def FnExactDivisorsWithinWrongFalsely : Prop := fnExactDivisorsWithinRow.holds Try.pinned (OpenSpec.ofChange fnExactDivisorsWithinWrong)

/-- 'laws.FnExactSplitsOf': WHATEVER THE INPUT: true; the input reads as it did. -/
def fnExactSplitsOfSpec : ChangeSpec := { name := "fnExactSplitsOf", fn := fun _ => fun
  | [d1, d2, d3, d4] => { results := [.lit (.bool true)], args := [d1, d2, d3, d4] }
  | _ => none }
def fnExactSplitsOfRow : OpenClaim := { program := "ytbfiacodglckiaa", sum := "d919d2621a524e0ef68df953e0166142d389bc0edef91d884318efa5b6b16a70", func := "loop.example/g00921/laws.FnExactSplitsOf", spec := "fnExactSplitsOf", unfollowed := true, recurses := true, apart := false }
def FnExactSplitsOfSaid : Prop := fnExactSplitsOfRow.holds Try.pinned (OpenSpec.ofChange fnExactSplitsOfSpec)

/-- ITS FALSE NEIGHBOUR: 'it returns false'. Refute it at one input. -/
def fnExactSplitsOfWrong : ChangeSpec := { name := "fnExactSplitsOf", fn := fun _ => fun
  | [d1, d2, d3, d4] => { results := [.lit (.bool false)], args := [d1, d2, d3, d4] }
  | _ => none }
def FnExactSplitsOfWrongFalsely : Prop := fnExactSplitsOfRow.holds Try.pinned (OpenSpec.ofChange fnExactSplitsOfWrong)

/-- 'laws.FnExactNearestSplit': WHATEVER THE INPUT: true; the input reads as it did. -/
def fnExactNearestSplitSpec : ChangeSpec := { name := "fnExactNearestSplit", fn := fun _ => fun
  | [d1, d2, d3, d4] => { results := [.lit (.bool true)], args := [d1, d2, d3, d4] }
  | _ => none }
def fnExactNearestSplitRow : OpenClaim := { program := "ytbfiacodglckiaa", sum := "d919d2621a524e0ef68df953e0166142d389bc0edef91d884318efa5b6b16a70", func := "loop.example/g00921/laws.FnExactNearestSplit", spec := "fnExactNearestSplit", unfollowed := true, recurses := true, apart := false }
def FnExactNearestSplitSaid : Prop := fnExactNearestSplitRow.holds Try.pinned (OpenSpec.ofChange fnExactNearestSplitSpec)

/-- ITS FALSE NEIGHBOUR: 'it returns false'. Refute it at one input. -/
def fnExactNearestSplitWrong : ChangeSpec := { name := "fnExactNearestSplit", fn := fun _ => fun
  | [d1, d2, d3, d4] => { results := [.lit (.bool false)], args := [d1, d2, d3, d4] }
  | _ => none }
def FnExactNearestSplitWrongFalsely : Prop := fnExactNearestSplitRow.holds Try.pinned (OpenSpec.ofChange fnExactNearestSplitWrong)

/-- 'laws.FnExactCanonTrain': WHATEVER THE INPUT: true; the input reads as it did. -/
def fnExactCanonTrainSpec : ChangeSpec := { name := "fnExactCanonTrain", fn := fun _ => fun
  | [d] => { results := [.lit (.bool true)], args := [d] }
  | _ => none }
def fnExactCanonTrainRow : OpenClaim := { program := "ytbfiacodglckiaa", sum := "d919d2621a524e0ef68df953e0166142d389bc0edef91d884318efa5b6b16a70", func := "loop.example/g00921/laws.FnExactCanonTrain", spec := "fnExactCanonTrain", unfollowed := true, recurses := true, apart := false }
def FnExactCanonTrainSaid : Prop := fnExactCanonTrainRow.holds Try.pinned (OpenSpec.ofChange fnExactCanonTrainSpec)

/-- ITS FALSE NEIGHBOUR: 'it returns false'. Refute it at one input. -/
def fnExactCanonTrainWrong : ChangeSpec := { name := "fnExactCanonTrain", fn := fun _ => fun
  | [d] => { results := [.lit (.bool false)], args := [d] }
  | _ => none }
def FnExactCanonTrainWrongFalsely : Prop := fnExactCanonTrainRow.holds Try.pinned (OpenSpec.ofChange fnExactCanonTrainWrong)

/-- 'laws.FnExactValidLimits': WHATEVER THE INPUT: true; the input reads as it did. -/
def fnExactValidLimitsSpec : ChangeSpec := { name := "fnExactValidLimits", fn := fun _ => fun
  | [d] => { results := [.lit (.bool true)], args := [d] }
  | _ => none }
def fnExactValidLimitsRow : OpenClaim := { program := "ytbfiacodglckiaa", sum := "d919d2621a524e0ef68df953e0166142d389bc0edef91d884318efa5b6b16a70", func := "loop.example/g00921/laws.FnExactValidLimits", spec := "fnExactValidLimits", apart := false }
def FnExactValidLimitsSaid : Prop := fnExactValidLimitsRow.holds Try.pinned (OpenSpec.ofChange fnExactValidLimitsSpec)

/-- ITS FALSE NEIGHBOUR: 'it returns false'. Refute it at one input. -/
def fnExactValidLimitsWrong : ChangeSpec := { name := "fnExactValidLimits", fn := fun _ => fun
  | [d] => { results := [.lit (.bool false)], args := [d] }
  | _ => none }
def FnExactValidLimitsWrongFalsely : Prop := fnExactValidLimitsRow.holds Try.pinned (OpenSpec.ofChange fnExactValidLimitsWrong)

/-- 'laws.FnExactWithinLimits': WHATEVER THE INPUT: true; the input reads as it did. -/
def fnExactWithinLimitsSpec : ChangeSpec := { name := "fnExactWithinLimits", fn := fun _ => fun
  | [d1, d2] => { results := [.lit (.bool true)], args := [d1, d2] }
  | _ => none }
def fnExactWithinLimitsRow : OpenClaim := { program := "ytbfiacodglckiaa", sum := "d919d2621a524e0ef68df953e0166142d389bc0edef91d884318efa5b6b16a70", func := "loop.example/g00921/laws.FnExactWithinLimits", spec := "fnExactWithinLimits", unfollowed := true, recurses := true, apart := false }
def FnExactWithinLimitsSaid : Prop := fnExactWithinLimitsRow.holds Try.pinned (OpenSpec.ofChange fnExactWithinLimitsSpec)

/-- ITS FALSE NEIGHBOUR: 'it returns false'. Refute it at one input. -/
def fnExactWithinLimitsWrong : ChangeSpec := { name := "fnExactWithinLimits", fn := fun _ => fun
  | [d1, d2] => { results := [.lit (.bool false)], args := [d1, d2] }
  | _ => none }
def FnExactWithinLimitsWrongFalsely : Prop := fnExactWithinLimitsRow.holds Try.pinned (OpenSpec.ofChange fnExactWithinLimitsWrong)

/-- 'laws.FnExactCompareTrains': WHATEVER THE INPUT: true; the input reads as it did. -/
def fnExactCompareTrainsSpec : ChangeSpec := { name := "fnExactCompareTrains", fn := fun _ => fun
  | [d1, d2] => { results := [.lit (.bool true)], args := [d1, d2] }
  | _ => none }
def fnExactCompareTrainsRow : OpenClaim := { program := "ytbfiacodglckiaa", sum := "d919d2621a524e0ef68df953e0166142d389bc0edef91d884318efa5b6b16a70", func := "loop.example/g00921/laws.FnExactCompareTrains", spec := "fnExactCompareTrains", unfollowed := true, recurses := true, apart := false }
def FnExactCompareTrainsSaid : Prop := fnExactCompareTrainsRow.holds Try.pinned (OpenSpec.ofChange fnExactCompareTrainsSpec)

/-- ITS FALSE NEIGHBOUR: 'it returns false'. Refute it at one input. -/
def fnExactCompareTrainsWrong : ChangeSpec := { name := "fnExactCompareTrains", fn := fun _ => fun
  | [d1, d2] => { results := [.lit (.bool false)], args := [d1, d2] }
  | _ => none }
def FnExactCompareTrainsWrongFalsely : Prop := fnExactCompareTrainsRow.holds Try.pinned (OpenSpec.ofChange fnExactCompareTrainsWrong)

/-- 'laws.FnExactExactTrains': WHATEVER THE INPUT: true; the input reads as it did. -/
def fnExactExactTrainsSpec : ChangeSpec := { name := "fnExactExactTrains", fn := fun _ => fun
  | [d1, d2] => { results := [.lit (.bool true)], args := [d1, d2] }
  | _ => none }
def fnExactExactTrainsRow : OpenClaim := { program := "ytbfiacodglckiaa", sum := "d919d2621a524e0ef68df953e0166142d389bc0edef91d884318efa5b6b16a70", func := "loop.example/g00921/laws.FnExactExactTrains", spec := "fnExactExactTrains", unfollowed := true, recurses := true, apart := false }
def FnExactExactTrainsSaid : Prop := fnExactExactTrainsRow.holds Try.pinned (OpenSpec.ofChange fnExactExactTrainsSpec)

/-- ITS FALSE NEIGHBOUR: 'it returns false'. Refute it at one input. -/
def fnExactExactTrainsWrong : ChangeSpec := { name := "fnExactExactTrains", fn := fun _ => fun
  | [d1, d2] => { results := [.lit (.bool false)], args := [d1, d2] }
  | _ => none }
def FnExactExactTrainsWrongFalsely : Prop := fnExactExactTrainsRow.holds Try.pinned (OpenSpec.ofChange fnExactExactTrainsWrong)

/- THE SECOND FORM. 'bulk': how many values and letters a reading holds, each counted each time it is reached (what is shared counts as often as it is met; a slice's spare places count too). A statement '..UptoSaid' is the law's where the arguments, and the package variables that the reading takes, are together of bulk at most 1048576: NARROWER than '..Said'. Prove '..Said' where nothing that the law and all that it calls make is longer than what came in: it says more and counts as full. Else prove '..UptoSaid'. A law counts once. -/
mutual
def uptoBulk {H : Type} : DataW H → Nat
  | .lit (.string bytes) => bytes.length + 1
  | .lit _ => 1
  | .nil => 1
  | .ptr d => uptoBulk d + 1
  | .slice elems spare => uptoBulkAll elems + uptoBulkAll spare + 1
  | .agg parts => uptoBulkAll parts + 1
  | .iface _ d => uptoBulk d + 1
  | .map entries => uptoBulkEntries entries + 1
  | .held _ => 1
def uptoBulkAll {H : Type} : List (DataW H) → Nat
  | [] => 0
  | d :: r => uptoBulk d + uptoBulkAll r
def uptoBulkEntries {H : Type} : List (Lit × DataW H) → Nat
  | [] => 0
  | x :: r => uptoBulkEntry x + uptoBulkEntries r
def uptoBulkEntry {H : Type} : Lit × DataW H → Nat
  | (.string bytes, d) => bytes.length + uptoBulk d + 1
  | (_, d) => uptoBulk d + 1
 end
def uptoSmall : (H : Type) → List (DataW H) → Bool := fun _ ds => decide (uptoBulkAll ds ≤ 1048576)
def OpenSpec.upto (s : _root_.Go.ChangeSpec) : _root_.Go.OpenSpec := { _root_.Go.OpenSpec.ofChange s with cond := some uptoSmall }

/-- 'laws.FnTerms', WHERE WHAT IT READS IS OF BULK AT MOST 1048576: true; the input reads as it did. -/
def fnTermsUptoRow : OpenClaim := { program := "ytbfiacodglckiaa", sum := "d919d2621a524e0ef68df953e0166142d389bc0edef91d884318efa5b6b16a70", func := "loop.example/g00921/laws.FnTerms", spec := "fnTerms", unfollowed := true, recurses := true, apart := false, narrowed := true }
def FnTermsUptoSaid : Prop := fnTermsUptoRow.holds Try.pinned (OpenSpec.upto fnTermsSpec)

/-- 'laws.FnSplits', WHERE WHAT IT READS IS OF BULK AT MOST 1048576: true; the input reads as it did. -/
def fnSplitsUptoRow : OpenClaim := { program := "ytbfiacodglckiaa", sum := "d919d2621a524e0ef68df953e0166142d389bc0edef91d884318efa5b6b16a70", func := "loop.example/g00921/laws.FnSplits", spec := "fnSplits", unfollowed := true, recurses := true, apart := false, narrowed := true }
def FnSplitsUptoSaid : Prop := fnSplitsUptoRow.holds Try.pinned (OpenSpec.upto fnSplitsSpec)

/-- 'laws.FnExactDivisorsOf', WHERE WHAT IT READS IS OF BULK AT MOST 1048576: true; the input reads as it did. -/
def fnExactDivisorsOfUptoRow : OpenClaim := { program := "ytbfiacodglckiaa", sum := "d919d2621a524e0ef68df953e0166142d389bc0edef91d884318efa5b6b16a70", func := "loop.example/g00921/laws.FnExactDivisorsOf", spec := "fnExactDivisorsOf", unfollowed := true, recurses := true, apart := false, narrowed := true }
def FnExactDivisorsOfUptoSaid : Prop := fnExactDivisorsOfUptoRow.holds Try.pinned (OpenSpec.upto fnExactDivisorsOfSpec)

/-- 'laws.FnExactDivisorsWithin', WHERE WHAT IT READS IS OF BULK AT MOST 1048576: true; the input reads as it did. -/
def fnExactDivisorsWithinUptoRow : OpenClaim := { program := "ytbfiacodglckiaa", sum := "d919d2621a524e0ef68df953e0166142d389bc0edef91d884318efa5b6b16a70", func := "loop.example/g00921/laws.FnExactDivisorsWithin", spec := "fnExactDivisorsWithin", unfollowed := true, recurses := true, apart := false, narrowed := true }
def FnExactDivisorsWithinUptoSaid : Prop := fnExactDivisorsWithinUptoRow.holds Try.pinned (OpenSpec.upto fnExactDivisorsWithinSpec)

/-- 'laws.FnExactSplitsOf', WHERE WHAT IT READS IS OF BULK AT MOST 1048576: true; the input reads as it did. -/
def fnExactSplitsOfUptoRow : OpenClaim := { program := "ytbfiacodglckiaa", sum := "d919d2621a524e0ef68df953e0166142d389bc0edef91d884318efa5b6b16a70", func := "loop.example/g00921/laws.FnExactSplitsOf", spec := "fnExactSplitsOf", unfollowed := true, recurses := true, apart := false, narrowed := true }
def FnExactSplitsOfUptoSaid : Prop := fnExactSplitsOfUptoRow.holds Try.pinned (OpenSpec.upto fnExactSplitsOfSpec)

/-- 'laws.FnExactNearestSplit', WHERE WHAT IT READS IS OF BULK AT MOST 1048576: true; the input reads as it did. -/
def fnExactNearestSplitUptoRow : OpenClaim := { program := "ytbfiacodglckiaa", sum := "d919d2621a524e0ef68df953e0166142d389bc0edef91d884318efa5b6b16a70", func := "loop.example/g00921/laws.FnExactNearestSplit", spec := "fnExactNearestSplit", unfollowed := true, recurses := true, apart := false, narrowed := true }
def FnExactNearestSplitUptoSaid : Prop := fnExactNearestSplitUptoRow.holds Try.pinned (OpenSpec.upto fnExactNearestSplitSpec)

/-- 'laws.FnExactCanonTrain', WHERE WHAT IT READS IS OF BULK AT MOST 1048576: true; the input reads as it did. -/
def fnExactCanonTrainUptoRow : OpenClaim := { program := "ytbfiacodglckiaa", sum := "d919d2621a524e0ef68df953e0166142d389bc0edef91d884318efa5b6b16a70", func := "loop.example/g00921/laws.FnExactCanonTrain", spec := "fnExactCanonTrain", unfollowed := true, recurses := true, apart := false, narrowed := true }
def FnExactCanonTrainUptoSaid : Prop := fnExactCanonTrainUptoRow.holds Try.pinned (OpenSpec.upto fnExactCanonTrainSpec)

/-- 'laws.FnExactValidLimits', WHERE WHAT IT READS IS OF BULK AT MOST 1048576: true; the input reads as it did. -/
def fnExactValidLimitsUptoRow : OpenClaim := { program := "ytbfiacodglckiaa", sum := "d919d2621a524e0ef68df953e0166142d389bc0edef91d884318efa5b6b16a70", func := "loop.example/g00921/laws.FnExactValidLimits", spec := "fnExactValidLimits", apart := false, narrowed := true }
def FnExactValidLimitsUptoSaid : Prop := fnExactValidLimitsUptoRow.holds Try.pinned (OpenSpec.upto fnExactValidLimitsSpec)

/-- 'laws.FnExactWithinLimits', WHERE WHAT IT READS IS OF BULK AT MOST 1048576: true; the input reads as it did. -/
def fnExactWithinLimitsUptoRow : OpenClaim := { program := "ytbfiacodglckiaa", sum := "d919d2621a524e0ef68df953e0166142d389bc0edef91d884318efa5b6b16a70", func := "loop.example/g00921/laws.FnExactWithinLimits", spec := "fnExactWithinLimits", unfollowed := true, recurses := true, apart := false, narrowed := true }
def FnExactWithinLimitsUptoSaid : Prop := fnExactWithinLimitsUptoRow.holds Try.pinned (OpenSpec.upto fnExactWithinLimitsSpec)

/-- 'laws.FnExactCompareTrains', WHERE WHAT IT READS IS OF BULK AT MOST 1048576: true; the input reads as it did. -/
def fnExactCompareTrainsUptoRow : OpenClaim := { program := "ytbfiacodglckiaa", sum := "d919d2621a524e0ef68df953e0166142d389bc0edef91d884318efa5b6b16a70", func := "loop.example/g00921/laws.FnExactCompareTrains", spec := "fnExactCompareTrains", unfollowed := true, recurses := true, apart := false, narrowed := true }
def FnExactCompareTrainsUptoSaid : Prop := fnExactCompareTrainsUptoRow.holds Try.pinned (OpenSpec.upto fnExactCompareTrainsSpec)

/-- 'laws.FnExactExactTrains', WHERE WHAT IT READS IS OF BULK AT MOST 1048576: true; the input reads as it did. -/
def fnExactExactTrainsUptoRow : OpenClaim := { program := "ytbfiacodglckiaa", sum := "d919d2621a524e0ef68df953e0166142d389bc0edef91d884318efa5b6b16a70", func := "loop.example/g00921/laws.FnExactExactTrains", spec := "fnExactExactTrains", unfollowed := true, recurses := true, apart := false, narrowed := true }
def FnExactExactTrainsUptoSaid : Prop := fnExactExactTrainsUptoRow.holds Try.pinned (OpenSpec.upto fnExactExactTrainsSpec)

end Rows
end Go.Proofs.Ytbfiacodglckiaa

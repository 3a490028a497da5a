/-
  No cell of these rows narrows 'for every input' (looked for: loops, veiled, ifaces, maps, wideKeys, modest, calm, conditions, laid).
  DERIVED. THE GIVEN ROWS OF THIS SEAT. 8 by the template 'for every input the law returns true; each argument reads behind the call as it read before'; 0 by the template 'total and deterministic' (their statements: YtgcalgkpaehonaaTotals.lean).
  GIVEN WITH THE SEED: the statements are not yours to turn. If you find one false, say at which input.
  Laid BY PROGRAM, IN A SANDBOX (cutbox-rows.mjs): the forced cells as the released guide's own fill.sh prints them over the translation 5f569c4260388873… (all of the seat's roots in one cut). By AI agents, Wed Nov 11 2026. No macro, syntax, notation, axiom, sorry.
-/
import Derived.Test.YtgcalgkpaehonaaChecked
import GoSem.Claim
import GoSem.ClaimJoined
import GoSem.ClaimMapViews
import Derived.JoinedTies
import Derived.KernelRfl
namespace Go.Proofs.Ytgcalgkpaehonaa
/- THE CELL 'sum', in the pinned program and in every row, IS THE sha256 OF THE DUMP (.gsa) THAT YtgcalgkpaehonaaProg.lean LOADS. Nothing in Lean hashes anything: it is a label: what it is worth is what the hold of that sum in a sandbox is worth. -/
noncomputable def Try.pinned : Pinned := { name := "ytgcalgkpaehonaa", sum := "5f569c4260388873d87ef20b3e4f873d338bf4660e96e18729aa0d971b7c0d3e", checked := Try.checked }
namespace Rows
def none {H : Type} : Left H := { results := [], args := [] }

/-- 'laws.FnExactValidRate': WHATEVER THE INPUT: true; the input reads as it did. -/
def fnExactValidRateSpec : ChangeSpec := { name := "fnExactValidRate", fn := fun _ => fun
  | [d] => { results := [.lit (.bool true)], args := [d] }
  | _ => none }
def fnExactValidRateRow : OpenClaim := { program := "ytgcalgkpaehonaa", sum := "5f569c4260388873d87ef20b3e4f873d338bf4660e96e18729aa0d971b7c0d3e", func := "loop.example/g00921/laws.FnExactValidRate", spec := "fnExactValidRate", apart := false }
def FnExactValidRateSaid : Prop := fnExactValidRateRow.holds Try.pinned (OpenSpec.ofChange fnExactValidRateSpec)

/-- ITS FALSE NEIGHBOUR: 'it returns false'. Refute it at one input. -/
def fnExactValidRateWrong : ChangeSpec := { name := "fnExactValidRate", fn := fun _ => fun
  | [d] => { results := [.lit (.bool false)], args := [d] }
  | _ => none }
def FnExactValidRateWrongFalsely : Prop := fnExactValidRateRow.holds Try.pinned (OpenSpec.ofChange fnExactValidRateWrong)

/-- 'laws.FnExactValidSegments': WHATEVER THE INPUT: true; the input reads as it did. -/
def fnExactValidSegmentsSpec : ChangeSpec := { name := "fnExactValidSegments", fn := fun _ => fun
  | [d] => { results := [.lit (.bool true)], args := [d] }
  | _ => none }
def fnExactValidSegmentsRow : OpenClaim := { program := "ytgcalgkpaehonaa", sum := "5f569c4260388873d87ef20b3e4f873d338bf4660e96e18729aa0d971b7c0d3e", func := "loop.example/g00921/laws.FnExactValidSegments", spec := "fnExactValidSegments", apart := false }
def FnExactValidSegmentsSaid : Prop := fnExactValidSegmentsRow.holds Try.pinned (OpenSpec.ofChange fnExactValidSegmentsSpec)

/-- ITS FALSE NEIGHBOUR: 'it returns false'. Refute it at one input. -/
def fnExactValidSegmentsWrong : ChangeSpec := { name := "fnExactValidSegments", fn := fun _ => fun
  | [d] => { results := [.lit (.bool false)], args := [d] }
  | _ => none }
def FnExactValidSegmentsWrongFalsely : Prop := fnExactValidSegmentsRow.holds Try.pinned (OpenSpec.ofChange fnExactValidSegmentsWrong)

/-- 'laws.FnExactRateAt': WHATEVER THE INPUT: true; the input reads as it did. -/
def fnExactRateAtSpec : ChangeSpec := { name := "fnExactRateAt", fn := fun _ => fun
  | [d1, d2] => { results := [.lit (.bool true)], args := [d1, d2] }
  | _ => none }
def fnExactRateAtRow : OpenClaim := { program := "ytgcalgkpaehonaa", sum := "5f569c4260388873d87ef20b3e4f873d338bf4660e96e18729aa0d971b7c0d3e", func := "loop.example/g00921/laws.FnExactRateAt", spec := "fnExactRateAt", apart := false }
def FnExactRateAtSaid : Prop := fnExactRateAtRow.holds Try.pinned (OpenSpec.ofChange fnExactRateAtSpec)

/-- ITS FALSE NEIGHBOUR: 'it returns false'. Refute it at one input. -/
def fnExactRateAtWrong : ChangeSpec := { name := "fnExactRateAt", fn := fun _ => fun
  | [d1, d2] => { results := [.lit (.bool false)], args := [d1, d2] }
  | _ => none }
def FnExactRateAtWrongFalsely : Prop := fnExactRateAtRow.holds Try.pinned (OpenSpec.ofChange fnExactRateAtWrong)

/-- 'laws.FnExactDriftSum': WHATEVER THE INPUT: true; the input reads as it did. -/
def fnExactDriftSumSpec : ChangeSpec := { name := "fnExactDriftSum", fn := fun _ => fun
  | [d1, d2] => { results := [.lit (.bool true)], args := [d1, d2] }
  | _ => none }
def fnExactDriftSumRow : OpenClaim := { program := "ytgcalgkpaehonaa", sum := "5f569c4260388873d87ef20b3e4f873d338bf4660e96e18729aa0d971b7c0d3e", func := "loop.example/g00921/laws.FnExactDriftSum", spec := "fnExactDriftSum", unfollowed := true, recurses := true, apart := false }
def FnExactDriftSumSaid : Prop := fnExactDriftSumRow.holds Try.pinned (OpenSpec.ofChange fnExactDriftSumSpec)

/-- ITS FALSE NEIGHBOUR: 'it returns false'. Refute it at one input. -/
def fnExactDriftSumWrong : ChangeSpec := { name := "fnExactDriftSum", fn := fun _ => fun
  | [d1, d2] => { results := [.lit (.bool false)], args := [d1, d2] }
  | _ => none }
def FnExactDriftSumWrongFalsely : Prop := fnExactDriftSumRow.holds Try.pinned (OpenSpec.ofChange fnExactDriftSumWrong)

/-- 'laws.FnExactDriftsAfter': WHATEVER THE INPUT: true; the input reads as it did. -/
def fnExactDriftsAfterSpec : ChangeSpec := { name := "fnExactDriftsAfter", fn := fun _ => fun
  | [d1, d2] => { results := [.lit (.bool true)], args := [d1, d2] }
  | _ => none }
def fnExactDriftsAfterRow : OpenClaim := { program := "ytgcalgkpaehonaa", sum := "5f569c4260388873d87ef20b3e4f873d338bf4660e96e18729aa0d971b7c0d3e", func := "loop.example/g00921/laws.FnExactDriftsAfter", spec := "fnExactDriftsAfter", named := ["math/bits.divideError", "math/bits.overflowError"], apart := false }
def FnExactDriftsAfterSaid : Prop := fnExactDriftsAfterRow.holds Try.pinned (OpenSpec.ofChange fnExactDriftsAfterSpec)

/-- ITS FALSE NEIGHBOUR: 'it returns false'. Refute it at one input. -/
def fnExactDriftsAfterWrong : ChangeSpec := { name := "fnExactDriftsAfter", fn := fun _ => fun
  | [d1, d2] => { results := [.lit (.bool false)], args := [d1, d2] }
  | _ => none }
def FnExactDriftsAfterWrongFalsely : Prop := fnExactDriftsAfterRow.holds Try.pinned (OpenSpec.ofChange fnExactDriftsAfterWrong)

/-- 'laws.FnExactWorstSegment': WHATEVER THE INPUT: true; the input reads as it did. -/
def fnExactWorstSegmentSpec : ChangeSpec := { name := "fnExactWorstSegment", fn := fun _ => fun
  | [d1, d2] => { results := [.lit (.bool true)], args := [d1, d2] }
  | _ => none }
def fnExactWorstSegmentRow : OpenClaim := { program := "ytgcalgkpaehonaa", sum := "5f569c4260388873d87ef20b3e4f873d338bf4660e96e18729aa0d971b7c0d3e", func := "loop.example/g00921/laws.FnExactWorstSegment", spec := "fnExactWorstSegment", apart := false }
def FnExactWorstSegmentSaid : Prop := fnExactWorstSegmentRow.holds Try.pinned (OpenSpec.ofChange fnExactWorstSegmentSpec)

/-- ITS FALSE NEIGHBOUR: 'it returns false'. Refute it at one input. -/
def fnExactWorstSegmentWrong : ChangeSpec := { name := "fnExactWorstSegment", fn := fun _ => fun
  | [d1, d2] => { results := [.lit (.bool false)], args := [d1, d2] }
  | _ => none }
def FnExactWorstSegmentWrongFalsely : Prop := fnExactWorstSegmentRow.holds Try.pinned (OpenSpec.ofChange fnExactWorstSegmentWrong)

/-- 'laws.FnExactBestBase': WHATEVER THE INPUT: true; the input reads as it did. -/
def fnExactBestBaseSpec : ChangeSpec := { name := "fnExactBestBase", fn := fun _ => fun
  | [d1, d2] => { results := [.lit (.bool true)], args := [d1, d2] }
  | _ => none }
def fnExactBestBaseRow : OpenClaim := { program := "ytgcalgkpaehonaa", sum := "5f569c4260388873d87ef20b3e4f873d338bf4660e96e18729aa0d971b7c0d3e", func := "loop.example/g00921/laws.FnExactBestBase", spec := "fnExactBestBase", unfollowed := true, recurses := true, named := ["math/bits.divideError", "math/bits.overflowError"], apart := false }
def FnExactBestBaseSaid : Prop := fnExactBestBaseRow.holds Try.pinned (OpenSpec.ofChange fnExactBestBaseSpec)

/-- ITS FALSE NEIGHBOUR: 'it returns false'. Refute it at one input. -/
def fnExactBestBaseWrong : ChangeSpec := { name := "fnExactBestBase", fn := fun _ => fun
  | [d1, d2] => { results := [.lit (.bool false)], args := [d1, d2] }
  | _ => none }
def FnExactBestBaseWrongFalsely : Prop := fnExactBestBaseRow.holds Try.pinned (OpenSpec.ofChange fnExactBestBaseWrong)

/-- 'laws.FnExactOtherTemp': WHATEVER THE INPUT: true; the input reads as it did. -/
def fnExactOtherTempSpec : ChangeSpec := { name := "fnExactOtherTemp", fn := fun _ => fun
  | [d1, d2] => { results := [.lit (.bool true)], args := [d1, d2] }
  | _ => none }
def fnExactOtherTempRow : OpenClaim := { program := "ytgcalgkpaehonaa", sum := "5f569c4260388873d87ef20b3e4f873d338bf4660e96e18729aa0d971b7c0d3e", func := "loop.example/g00921/laws.FnExactOtherTemp", spec := "fnExactOtherTemp", apart := false }
def FnExactOtherTempSaid : Prop := fnExactOtherTempRow.holds Try.pinned (OpenSpec.ofChange fnExactOtherTempSpec)

/-- ITS FALSE NEIGHBOUR: 'it returns false'. Refute it at one input. -/
def fnExactOtherTempWrong : ChangeSpec := { name := "fnExactOtherTemp", fn := fun _ => fun
  | [d1, d2] => { results := [.lit (.bool false)], args := [d1, d2] }
  | _ => none }
def FnExactOtherTempWrongFalsely : Prop := fnExactOtherTempRow.holds Try.pinned (OpenSpec.ofChange fnExactOtherTempWrong)

/- THE SECOND FORM. 'bulk': how many values and letters a reading holds, each counted each time it is reached (what is shared counts as often as it is met; a slice's spare places count too). A statement '..UptoSaid' is the law's where the arguments, and the package variables that the reading takes, are together of bulk at most 1048576: NARROWER than '..Said'. Prove '..Said' where nothing that the law and all that it calls make is longer than what came in: it says more and counts as full. Else prove '..UptoSaid'. A law counts once. -/
mutual
def uptoBulk {H : Type} : DataW H → Nat
  | .lit (.string bytes) => bytes.length + 1
  | .lit _ => 1
  | .nil => 1
  | .ptr d => uptoBulk d + 1
  | .slice elems spare => uptoBulkAll elems + uptoBulkAll spare + 1
  | .agg parts => uptoBulkAll parts + 1
  | .iface _ d => uptoBulk d + 1
  | .map entries => uptoBulkEntries entries + 1
  | .held _ => 1
def uptoBulkAll {H : Type} : List (DataW H) → Nat
  | [] => 0
  | d :: r => uptoBulk d + uptoBulkAll r
def uptoBulkEntries {H : Type} : List (Lit × DataW H) → Nat
  | [] => 0
  | x :: r => uptoBulkEntry x + uptoBulkEntries r
def uptoBulkEntry {H : Type} : Lit × DataW H → Nat
  | (.string bytes, d) => bytes.length + uptoBulk d + 1
  | (_, d) => uptoBulk d + 1
 end
def uptoSmall : (H : Type) → List (DataW H) → Bool := fun _ ds => decide (uptoBulkAll ds ≤ 1048576)
def OpenSpec.upto (s : _root_.Go.ChangeSpec) : _root_.Go.OpenSpec := { _root_.Go.OpenSpec.ofChange s with cond := some uptoSmall }

/-- 'laws.FnExactValidRate', WHERE WHAT IT READS IS OF BULK AT MOST 1048576: true; the input reads as it did. -/
def fnExactValidRateUptoRow : OpenClaim := { program := "ytgcalgkpaehonaa", sum := "5f569c4260388873d87ef20b3e4f873d338bf4660e96e18729aa0d971b7c0d3e", func := "loop.example/g00921/laws.FnExactValidRate", spec := "fnExactValidRate", apart := false, narrowed := true }
def FnExactValidRateUptoSaid : Prop := fnExactValidRateUptoRow.holds Try.pinned (OpenSpec.upto fnExactValidRateSpec)

/-- 'laws.FnExactValidSegments', WHERE WHAT IT READS IS OF BULK AT MOST 1048576: true; the input reads as it did. -/
def fnExactValidSegmentsUptoRow : OpenClaim := { program := "ytgcalgkpaehonaa", sum := "5f569c4260388873d87ef20b3e4f873d338bf4660e96e18729aa0d971b7c0d3e", func := "loop.example/g00921/laws.FnExactValidSegments", spec := "fnExactValidSegments", apart := false, narrowed := true }
def FnExactValidSegmentsUptoSaid : Prop := fnExactValidSegmentsUptoRow.holds Try.pinned (OpenSpec.upto fnExactValidSegmentsSpec)

/-- 'laws.FnExactRateAt', WHERE WHAT IT READS IS OF BULK AT MOST 1048576: true; the input reads as it did. -/
def fnExactRateAtUptoRow : OpenClaim := { program := "ytgcalgkpaehonaa", sum := "5f569c4260388873d87ef20b3e4f873d338bf4660e96e18729aa0d971b7c0d3e", func := "loop.example/g00921/laws.FnExactRateAt", spec := "fnExactRateAt", apart := false, narrowed := true }
def FnExactRateAtUptoSaid : Prop := fnExactRateAtUptoRow.holds Try.pinned (OpenSpec.upto fnExactRateAtSpec)

/-- 'laws.FnExactDriftSum', WHERE WHAT IT READS IS OF BULK AT MOST 1048576: true; the input reads as it did. -/
def fnExactDriftSumUptoRow : OpenClaim := { program := "ytgcalgkpaehonaa", sum := "5f569c4260388873d87ef20b3e4f873d338bf4660e96e18729aa0d971b7c0d3e", func := "loop.example/g00921/laws.FnExactDriftSum", spec := "fnExactDriftSum", unfollowed := true, recurses := true, apart := false, narrowed := true }
def FnExactDriftSumUptoSaid : Prop := fnExactDriftSumUptoRow.holds Try.pinned (OpenSpec.upto fnExactDriftSumSpec)

/-- 'laws.FnExactDriftsAfter', WHERE WHAT IT READS IS OF BULK AT MOST 1048576: true; the input reads as it did. -/
def fnExactDriftsAfterUptoRow : OpenClaim := { program := "ytgcalgkpaehonaa", sum := "5f569c4260388873d87ef20b3e4f873d338bf4660e96e18729aa0d971b7c0d3e", func := "loop.example/g00921/laws.FnExactDriftsAfter", spec := "fnExactDriftsAfter", named := ["math/bits.divideError", "math/bits.overflowError"], apart := false, narrowed := true }
def FnExactDriftsAfterUptoSaid : Prop := fnExactDriftsAfterUptoRow.holds Try.pinned (OpenSpec.upto fnExactDriftsAfterSpec)

/-- 'laws.FnExactWorstSegment', WHERE WHAT IT READS IS OF BULK AT MOST 1048576: true; the input reads as it did. -/
def fnExactWorstSegmentUptoRow : OpenClaim := { program := "ytgcalgkpaehonaa", sum := "5f569c4260388873d87ef20b3e4f873d338bf4660e96e18729aa0d971b7c0d3e", func := "loop.example/g00921/laws.FnExactWorstSegment", spec := "fnExactWorstSegment", apart := false, narrowed := true }
def FnExactWorstSegmentUptoSaid : Prop := fnExactWorstSegmentUptoRow.holds Try.pinned (OpenSpec.upto fnExactWorstSegmentSpec)

/-- 'laws.FnExactBestBase', WHERE WHAT IT READS IS OF BULK AT MOST 1048576: true; the input reads as it did. -/
def fnExactBestBaseUptoRow : OpenClaim := { program := "ytgcalgkpaehonaa", sum := "5f569c4260388873d87ef20b3e4f873d338bf4660e96e18729aa0d971b7c0d3e", func := "loop.example/g00921/laws.FnExactBestBase", spec := "fnExactBestBase", unfollowed := true, recurses := true, named := ["math/bits.divideError", "math/bits.overflowError"], apart := false, narrowed := true }
def FnExactBestBaseUptoSaid : Prop := fnExactBestBaseUptoRow.holds Try.pinned (OpenSpec.upto fnExactBestBaseSpec)

/-- 'laws.FnExactOtherTemp', WHERE WHAT IT READS IS OF BULK AT MOST 1048576: true; the input reads as it did. -/
def fnExactOtherTempUptoRow : OpenClaim := { program := "ytgcalgkpaehonaa", sum := "5f569c4260388873d87ef20b3e4f873d338bf4660e96e18729aa0d971b7c0d3e", func := "loop.example/g00921/laws.FnExactOtherTemp", spec := "fnExactOtherTemp", apart := false, narrowed := true }
def FnExactOtherTempUptoSaid : Prop := fnExactOtherTempUptoRow.holds Try.pinned (OpenSpec.upto fnExactOtherTempSpec)

end Rows
end Go.Proofs.Ytgcalgkpaehonaa

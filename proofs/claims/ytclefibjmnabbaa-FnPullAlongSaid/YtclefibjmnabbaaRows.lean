/-
  No cell of these rows narrows 'for every input' (looked for: loops, veiled, ifaces, maps, wideKeys, modest, calm, conditions, laid).
  DERIVED. THE GIVEN ROWS OF THIS SEAT. 6 by the template 'for every input the law returns true; each argument reads behind the call as it read before'; 0 by the template 'total and deterministic' (their statements: YtclefibjmnabbaaTotals.lean).
  GIVEN WITH THE SEED: the statements are not yours to turn. If you find one false, say at which input.
  Laid BY PROGRAM, IN A SANDBOX (cutbox-rows.mjs): the forced cells as the released guide's own fill.sh prints them over the translation 6bebe02b1c8554f5… (all of the seat's roots in one cut). By AI agents, Wed Nov 11 2026. No macro, syntax, notation, axiom, sorry.
-/
import Derived.Test.YtclefibjmnabbaaChecked
import GoSem.Claim
import GoSem.ClaimJoined
import GoSem.ClaimMapViews
import Derived.JoinedTies
import Derived.KernelRfl
namespace Go.Proofs.Ytclefibjmnabbaa
/- THE CELL 'sum', in the pinned program and in every row, IS THE sha256 OF THE DUMP (.gsa) THAT YtclefibjmnabbaaProg.lean LOADS. Nothing in Lean hashes anything: it is a label: what it is worth is what the hold of that sum in a sandbox is worth. -/
noncomputable def Try.pinned : Pinned := { name := "ytclefibjmnabbaa", sum := "6bebe02b1c8554f58bbbc32213bc40cf0f01b5f78872979a96dd7b79eddb2ca8", checked := Try.checked }
namespace Rows
def none {H : Type} : Left H := { results := [], args := [] }

/-- 'laws.FnExactPullAlong': WHATEVER THE INPUT: true; the input reads as it did. -/
def fnExactPullAlongSpec : ChangeSpec := { name := "fnExactPullAlong", fn := fun _ => fun
  | [d1, d2, d3] => { results := [.lit (.bool true)], args := [d1, d2, d3] }
  | _ => none }
def fnExactPullAlongRow : OpenClaim := { program := "ytclefibjmnabbaa", sum := "6bebe02b1c8554f58bbbc32213bc40cf0f01b5f78872979a96dd7b79eddb2ca8", func := "loop.example/g00921/laws.FnExactPullAlong", spec := "fnExactPullAlong", unfollowed := true, recurses := true, apart := false }
def FnExactPullAlongSaid : Prop := fnExactPullAlongRow.holds Try.pinned (OpenSpec.ofChange fnExactPullAlongSpec)

/-- ITS FALSE NEIGHBOUR: 'it returns false'. Refute it at one input. -/
def fnExactPullAlongWrong : ChangeSpec := { name := "fnExactPullAlong", fn := fun _ => fun
  | [d1, d2, d3] => { results := [.lit (.bool false)], args := [d1, d2, d3] }
  | _ => none }
def FnExactPullAlongWrongFalsely : Prop := fnExactPullAlongRow.holds Try.pinned (OpenSpec.ofChange fnExactPullAlongWrong)

/-- 'laws.FnExactLeastPull': WHATEVER THE INPUT: true; the input reads as it did. -/
def fnExactLeastPullSpec : ChangeSpec := { name := "fnExactLeastPull", fn := fun _ => fun
  | [d1, d2, d3] => { results := [.lit (.bool true)], args := [d1, d2, d3] }
  | _ => none }
def fnExactLeastPullRow : OpenClaim := { program := "ytclefibjmnabbaa", sum := "6bebe02b1c8554f58bbbc32213bc40cf0f01b5f78872979a96dd7b79eddb2ca8", func := "loop.example/g00921/laws.FnExactLeastPull", spec := "fnExactLeastPull", unfollowed := true, recurses := true, apart := false }
def FnExactLeastPullSaid : Prop := fnExactLeastPullRow.holds Try.pinned (OpenSpec.ofChange fnExactLeastPullSpec)

/-- ITS FALSE NEIGHBOUR: 'it returns false'. Refute it at one input. -/
def fnExactLeastPullWrong : ChangeSpec := { name := "fnExactLeastPull", fn := fun _ => fun
  | [d1, d2, d3] => { results := [.lit (.bool false)], args := [d1, d2, d3] }
  | _ => none }
def FnExactLeastPullWrongFalsely : Prop := fnExactLeastPullRow.holds Try.pinned (OpenSpec.ofChange fnExactLeastPullWrong)

/-- 'laws.FnExactThirdPoint': WHATEVER THE INPUT: true; the input reads as it did. -/
def fnExactThirdPointSpec : ChangeSpec := { name := "fnExactThirdPoint", fn := fun _ => fun
  | [d1, d2, d3, d4, d5] => { results := [.lit (.bool true)], args := [d1, d2, d3, d4, d5] }
  | _ => none }
def fnExactThirdPointRow : OpenClaim := { program := "ytclefibjmnabbaa", sum := "6bebe02b1c8554f58bbbc32213bc40cf0f01b5f78872979a96dd7b79eddb2ca8", func := "loop.example/g00921/laws.FnExactThirdPoint", spec := "fnExactThirdPoint", named := ["math/bits.divideError", "math/bits.overflowError"], apart := false }
def FnExactThirdPointSaid : Prop := fnExactThirdPointRow.holds Try.pinned (OpenSpec.ofChange fnExactThirdPointSpec)

/-- ITS FALSE NEIGHBOUR: 'it returns false'. Refute it at one input. -/
def fnExactThirdPointWrong : ChangeSpec := { name := "fnExactThirdPoint", fn := fun _ => fun
  | [d1, d2, d3, d4, d5] => { results := [.lit (.bool false)], args := [d1, d2, d3, d4, d5] }
  | _ => none }
def FnExactThirdPointWrongFalsely : Prop := fnExactThirdPointRow.holds Try.pinned (OpenSpec.ofChange fnExactThirdPointWrong)

/-- 'laws.FnThirdPoints': WHATEVER THE INPUT: true; the input reads as it did. -/
def fnThirdPointsSpec : ChangeSpec := { name := "fnThirdPoints", fn := fun _ => fun
  | [d] => { results := [.lit (.bool true)], args := [d] }
  | _ => none }
def fnThirdPointsRow : OpenClaim := { program := "ytclefibjmnabbaa", sum := "6bebe02b1c8554f58bbbc32213bc40cf0f01b5f78872979a96dd7b79eddb2ca8", func := "loop.example/g00921/laws.FnThirdPoints", spec := "fnThirdPoints", named := ["math/bits.divideError", "math/bits.overflowError"], apart := false }
def FnThirdPointsSaid : Prop := fnThirdPointsRow.holds Try.pinned (OpenSpec.ofChange fnThirdPointsSpec)

/-- ITS FALSE NEIGHBOUR: 'it returns false'. Refute it at one input. -/
def fnThirdPointsWrong : ChangeSpec := { name := "fnThirdPoints", fn := fun _ => fun
  | [d] => { results := [.lit (.bool false)], args := [d] }
  | _ => none }
def FnThirdPointsWrongFalsely : Prop := fnThirdPointsRow.holds Try.pinned (OpenSpec.ofChange fnThirdPointsWrong)

/-- 'laws.FnPullAlong': WHATEVER THE INPUT: true; the input reads as it did. -/
def fnPullAlongSpec : ChangeSpec := { name := "fnPullAlong", fn := fun _ => fun
  | [d] => { results := [.lit (.bool true)], args := [d] }
  | _ => none }
def fnPullAlongRow : OpenClaim := { program := "ytclefibjmnabbaa", sum := "6bebe02b1c8554f58bbbc32213bc40cf0f01b5f78872979a96dd7b79eddb2ca8", func := "loop.example/g00921/laws.FnPullAlong", spec := "fnPullAlong", unfollowed := true, recurses := true, apart := false }
def FnPullAlongSaid : Prop := fnPullAlongRow.holds Try.pinned (OpenSpec.ofChange fnPullAlongSpec)

/-- ITS FALSE NEIGHBOUR: 'it returns false'. Refute it at one input. -/
def fnPullAlongWrong : ChangeSpec := { name := "fnPullAlong", fn := fun _ => fun
  | [d] => { results := [.lit (.bool false)], args := [d] }
  | _ => none }
def FnPullAlongWrongFalsely : Prop := fnPullAlongRow.holds Try.pinned (OpenSpec.ofChange fnPullAlongWrong)

/-- 'laws.FnWeights': WHATEVER THE INPUT: true; the input reads as it did. -/
def fnWeightsSpec : ChangeSpec := { name := "fnWeights", fn := fun _ => fun
  | [d] => { results := [.lit (.bool true)], args := [d] }
  | _ => none }
def fnWeightsRow : OpenClaim := { program := "ytclefibjmnabbaa", sum := "6bebe02b1c8554f58bbbc32213bc40cf0f01b5f78872979a96dd7b79eddb2ca8", func := "loop.example/g00921/laws.FnWeights", spec := "fnWeights", apart := false }
def FnWeightsSaid : Prop := fnWeightsRow.holds Try.pinned (OpenSpec.ofChange fnWeightsSpec)

/-- ITS FALSE NEIGHBOUR: 'it returns false'. Refute it at one input. -/
def fnWeightsWrong : ChangeSpec := { name := "fnWeights", fn := fun _ => fun
  | [d] => { results := [.lit (.bool false)], args := [d] }
  | _ => none }
def FnWeightsWrongFalsely : Prop := fnWeightsRow.holds Try.pinned (OpenSpec.ofChange fnWeightsWrong)

/- THE SECOND FORM. 'bulk': how many values and letters a reading holds, each counted each time it is reached (what is shared counts as often as it is met; a slice's spare places count too). A statement '..UptoSaid' is the law's where the arguments, and the package variables that the reading takes, are together of bulk at most 1048576: NARROWER than '..Said'. Prove '..Said' where nothing that the law and all that it calls make is longer than what came in: it says more and counts as full. Else prove '..UptoSaid'. A law counts once. -/
mutual
def uptoBulk {H : Type} : DataW H → Nat
  | .lit (.string bytes) => bytes.length + 1
  | .lit _ => 1
  | .nil => 1
  | .ptr d => uptoBulk d + 1
  | .slice elems spare => uptoBulkAll elems + uptoBulkAll spare + 1
  | .agg parts => uptoBulkAll parts + 1
  | .iface _ d => uptoBulk d + 1
  | .map entries => uptoBulkEntries entries + 1
  | .held _ => 1
def uptoBulkAll {H : Type} : List (DataW H) → Nat
  | [] => 0
  | d :: r => uptoBulk d + uptoBulkAll r
def uptoBulkEntries {H : Type} : List (Lit × DataW H) → Nat
  | [] => 0
  | x :: r => uptoBulkEntry x + uptoBulkEntries r
def uptoBulkEntry {H : Type} : Lit × DataW H → Nat
  | (.string bytes, d) => bytes.length + uptoBulk d + 1
  | (_, d) => uptoBulk d + 1
 end
def uptoSmall : (H : Type) → List (DataW H) → Bool := fun _ ds => decide (uptoBulkAll ds ≤ 1048576)
def OpenSpec.upto (s : _root_.Go.ChangeSpec) : _root_.Go.OpenSpec := { _root_.Go.OpenSpec.ofChange s with cond := some uptoSmall }

/-- 'laws.FnExactPullAlong', WHERE WHAT IT READS IS OF BULK AT MOST 1048576: true; the input reads as it did. -/
def fnExactPullAlongUptoRow : OpenClaim := { program := "ytclefibjmnabbaa", sum := "6bebe02b1c8554f58bbbc32213bc40cf0f01b5f78872979a96dd7b79eddb2ca8", func := "loop.example/g00921/laws.FnExactPullAlong", spec := "fnExactPullAlong", unfollowed := true, recurses := true, apart := false, narrowed := true }
def FnExactPullAlongUptoSaid : Prop := fnExactPullAlongUptoRow.holds Try.pinned (OpenSpec.upto fnExactPullAlongSpec)

/-- 'laws.FnExactLeastPull', WHERE WHAT IT READS IS OF BULK AT MOST 1048576: true; the input reads as it did. -/
def fnExactLeastPullUptoRow : OpenClaim := { program := "ytclefibjmnabbaa", sum := "6bebe02b1c8554f58bbbc32213bc40cf0f01b5f78872979a96dd7b79eddb2ca8", func := "loop.example/g00921/laws.FnExactLeastPull", spec := "fnExactLeastPull", unfollowed := true, recurses := true, apart := false, narrowed := true }
def FnExactLeastPullUptoSaid : Prop := fnExactLeastPullUptoRow.holds Try.pinned (OpenSpec.upto fnExactLeastPullSpec)

/-- 'laws.FnExactThirdPoint', WHERE WHAT IT READS IS OF BULK AT MOST 1048576: true; the input reads as it did. -/
def fnExactThirdPointUptoRow : OpenClaim := { program := "ytclefibjmnabbaa", sum := "6bebe02b1c8554f58bbbc32213bc40cf0f01b5f78872979a96dd7b79eddb2ca8", func := "loop.example/g00921/laws.FnExactThirdPoint", spec := "fnExactThirdPoint", named := ["math/bits.divideError", "math/bits.overflowError"], apart := false, narrowed := true }
def FnExactThirdPointUptoSaid : Prop := fnExactThirdPointUptoRow.holds Try.pinned (OpenSpec.upto fnExactThirdPointSpec)

/-- 'laws.FnThirdPoints', WHERE WHAT IT READS IS OF BULK AT MOST 1048576: true; the input reads as it did. -/
def fnThirdPointsUptoRow : OpenClaim := { program := "ytclefibjmnabbaa", sum := "6bebe02b1c8554f58bbbc32213bc40cf0f01b5f78872979a96dd7b79eddb2ca8", func := "loop.example/g00921/laws.FnThirdPoints", spec := "fnThirdPoints", named := ["math/bits.divideError", "math/bits.overflowError"], apart := false, narrowed := true }
def FnThirdPointsUptoSaid : Prop := fnThirdPointsUptoRow.holds Try.pinned (OpenSpec.upto fnThirdPointsSpec)

/-- 'laws.FnPullAlong', WHERE WHAT IT READS IS OF BULK AT MOST 1048576: true; the input reads as it did. -/
def fnPullAlongUptoRow : OpenClaim := { program := "ytclefibjmnabbaa", sum := "6bebe02b1c8554f58bbbc32213bc40cf0f01b5f78872979a96dd7b79eddb2ca8", func := "loop.example/g00921/laws.FnPullAlong", spec := "fnPullAlong", unfollowed := true, recurses := true, apart := false, narrowed := true }
def FnPullAlongUptoSaid : Prop := fnPullAlongUptoRow.holds Try.pinned (OpenSpec.upto fnPullAlongSpec)

/-- 'laws.FnWeights', WHERE WHAT IT READS IS OF BULK AT MOST 1048576: true; the input reads as it did. -/
def fnWeightsUptoRow : OpenClaim := { program := "ytclefibjmnabbaa", sum := "6bebe02b1c8554f58bbbc32213bc40cf0f01b5f78872979a96dd7b79eddb2ca8", func := "loop.example/g00921/laws.FnWeights", spec := "fnWeights", apart := false, narrowed := true }
def FnWeightsUptoSaid : Prop := fnWeightsUptoRow.holds Try.pinned (OpenSpec.upto fnWeightsSpec)

end Rows
end Go.Proofs.Ytclefibjmnabbaa

/-
  No cell of these rows narrows 'for every input' (looked for: loops, veiled, ifaces, maps, wideKeys, modest, calm, conditions, laid).
  DERIVED. THE GIVEN ROWS OF THIS SEAT. 3 by the template 'for every input the law returns true; each argument reads behind the call as it read before'; 0 by the template 'total and deterministic' (their statements: YtpmelgdhcjnagaaTotals.lean).
  GIVEN WITH THE SEED: the statements are not yours to turn. If you find one false, say at which input.
  Laid BY PROGRAM, IN A SANDBOX (cutbox-rows.mjs): the forced cells as the released guide's own fill.sh prints them over the translation 0803fa3b900f127c… (all of the seat's roots in one cut). By AI agents, Wed Nov 11 2026. No macro, syntax, notation, axiom, sorry.
-/
import Derived.Test.YtpmelgdhcjnagaaChecked
import GoSem.Claim
import GoSem.ClaimJoined
import GoSem.ClaimMapViews
import Derived.JoinedTies
import Derived.KernelRfl
namespace Go.Proofs.Ytpmelgdhcjnagaa
/- THE CELL 'sum', in the pinned program and in every row, IS THE sha256 OF THE DUMP (.gsa) THAT YtpmelgdhcjnagaaProg.lean LOADS. Nothing in Lean hashes anything: it is a label: what it is worth is what the hold of that sum in a sandbox is worth. -/
noncomputable def Try.pinned : Pinned := { name := "ytpmelgdhcjnagaa", sum := "0803fa3b900f127ce60f591c75650dec088787f56259338992ffbe22d6f42280", checked := Try.checked }
namespace Rows
def none {H : Type} : Left H := { results := [], args := [] }

/-- 'laws.FnExactMergeSegments': WHATEVER THE INPUT: true; the input reads as it did. -/
def fnExactMergeSegmentsSpec : ChangeSpec := { name := "fnExactMergeSegments", fn := fun _ => fun
  | [d] => { results := [.lit (.bool true)], args := [d] }
  | _ => none }
def fnExactMergeSegmentsRow : OpenClaim := { program := "ytpmelgdhcjnagaa", sum := "0803fa3b900f127ce60f591c75650dec088787f56259338992ffbe22d6f42280", func := "loop.example/g00921/laws.FnExactMergeSegments", spec := "fnExactMergeSegments", apart := false }
def FnExactMergeSegmentsSaid : Prop := fnExactMergeSegmentsRow.holds Try.pinned (OpenSpec.ofChange fnExactMergeSegmentsSpec)

/-- ITS FALSE NEIGHBOUR: 'it returns false'. Refute it at one input. -/
def fnExactMergeSegmentsWrong : ChangeSpec := { name := "fnExactMergeSegments", fn := fun _ => fun
  | [d] => { results := [.lit (.bool false)], args := [d] }
  | _ => none }
def FnExactMergeSegmentsWrongFalsely : Prop := fnExactMergeSegmentsRow.holds Try.pinned (OpenSpec.ofChange fnExactMergeSegmentsWrong)

/-- 'laws.FnDrifts': WHATEVER THE INPUT: true; the input reads as it did. -/
def fnDriftsSpec : ChangeSpec := { name := "fnDrifts", fn := fun _ => fun
  | [d] => { results := [.lit (.bool true)], args := [d] }
  | _ => none }
def fnDriftsRow : OpenClaim := { program := "ytpmelgdhcjnagaa", sum := "0803fa3b900f127ce60f591c75650dec088787f56259338992ffbe22d6f42280", func := "loop.example/g00921/laws.FnDrifts", spec := "fnDrifts", unfollowed := true, recurses := true, named := ["math/bits.divideError", "math/bits.overflowError"], apart := false }
def FnDriftsSaid : Prop := fnDriftsRow.holds Try.pinned (OpenSpec.ofChange fnDriftsSpec)

/-- ITS FALSE NEIGHBOUR: 'it returns false'. Refute it at one input. -/
def fnDriftsWrong : ChangeSpec := { name := "fnDrifts", fn := fun _ => fun
  | [d] => { results := [.lit (.bool false)], args := [d] }
  | _ => none }
def FnDriftsWrongFalsely : Prop := fnDriftsRow.holds Try.pinned (OpenSpec.ofChange fnDriftsWrong)

/-- 'laws.FnBestBase': WHATEVER THE INPUT: true; the input reads as it did. -/
def fnBestBaseSpec : ChangeSpec := { name := "fnBestBase", fn := fun _ => fun
  | [d] => { results := [.lit (.bool true)], args := [d] }
  | _ => none }
def fnBestBaseRow : OpenClaim := { program := "ytpmelgdhcjnagaa", sum := "0803fa3b900f127ce60f591c75650dec088787f56259338992ffbe22d6f42280", func := "loop.example/g00921/laws.FnBestBase", spec := "fnBestBase", unfollowed := true, recurses := true, named := ["math/bits.divideError", "math/bits.overflowError"], apart := false }
def FnBestBaseSaid : Prop := fnBestBaseRow.holds Try.pinned (OpenSpec.ofChange fnBestBaseSpec)

/-- ITS FALSE NEIGHBOUR: 'it returns false'. Refute it at one input. -/
def fnBestBaseWrong : ChangeSpec := { name := "fnBestBase", fn := fun _ => fun
  | [d] => { results := [.lit (.bool false)], args := [d] }
  | _ => none }
def FnBestBaseWrongFalsely : Prop := fnBestBaseRow.holds Try.pinned (OpenSpec.ofChange fnBestBaseWrong)

/- THE SECOND FORM. 'bulk': how many values and letters a reading holds, each counted each time it is reached (what is shared counts as often as it is met; a slice's spare places count too). A statement '..UptoSaid' is the law's where the arguments, and the package variables that the reading takes, are together of bulk at most 1048576: NARROWER than '..Said'. Prove '..Said' where nothing that the law and all that it calls make is longer than what came in: it says more and counts as full. Else prove '..UptoSaid'. A law counts once. -/
mutual
def uptoBulk {H : Type} : DataW H → Nat
  | .lit (.string bytes) => bytes.length + 1
  | .lit _ => 1
  | .nil => 1
  | .ptr d => uptoBulk d + 1
  | .slice elems spare => uptoBulkAll elems + uptoBulkAll spare + 1
  | .agg parts => uptoBulkAll parts + 1
  | .iface _ d => uptoBulk d + 1
  | .map entries => uptoBulkEntries entries + 1
  | .held _ => 1
def uptoBulkAll {H : Type} : List (DataW H) → Nat
  | [] => 0
  | d :: r => uptoBulk d + uptoBulkAll r
def uptoBulkEntries {H : Type} : List (Lit × DataW H) → Nat
  | [] => 0
  | x :: r => uptoBulkEntry x + uptoBulkEntries r
def uptoBulkEntry {H : Type} : Lit × DataW H → Nat
  | (.string bytes, d) => bytes.length + uptoBulk d + 1
  | (_, d) => uptoBulk d + 1
 end
def uptoSmall : (H : Type) → List (DataW H) → Bool := fun _ ds => decide (uptoBulkAll ds ≤ 1048576)
def OpenSpec.upto (s : _root_.Go.ChangeSpec) : _root_.Go.OpenSpec := { _root_.Go.OpenSpec.ofChange s with cond := some uptoSmall }

/-- 'laws.FnExactMergeSegments', WHERE WHAT IT READS IS OF BULK AT MOST 1048576: true; the input reads as it did. -/
def fnExactMergeSegmentsUptoRow : OpenClaim := { program := "ytpmelgdhcjnagaa", sum := "0803fa3b900f127ce60f591c75650dec088787f56259338992ffbe22d6f42280", func := "loop.example/g00921/laws.FnExactMergeSegments", spec := "fnExactMergeSegments", apart := false, narrowed := true }
def FnExactMergeSegmentsUptoSaid : Prop := fnExactMergeSegmentsUptoRow.holds Try.pinned (OpenSpec.upto fnExactMergeSegmentsSpec)

/-- 'laws.FnDrifts', WHERE WHAT IT READS IS OF BULK AT MOST 1048576: true; the input reads as it did. -/
def fnDriftsUptoRow : OpenClaim := { program := "ytpmelgdhcjnagaa", sum := "0803fa3b900f127ce60f591c75650dec088787f56259338992ffbe22d6f42280", func := "loop.example/g00921/laws.FnDrifts", spec := "fnDrifts", unfollowed := true, recurses := true, named := ["math/bits.divideError", "math/bits.overflowError"], apart := false, narrowed := true }
def FnDriftsUptoSaid : Prop := fnDriftsUptoRow.holds Try.pinned (OpenSpec.upto fnDriftsSpec)

/-- 'laws.FnBestBase', WHERE WHAT IT READS IS OF BULK AT MOST 1048576: true; the input reads as it did. -/
def fnBestBaseUptoRow : OpenClaim := { program := "ytpmelgdhcjnagaa", sum := "0803fa3b900f127ce60f591c75650dec088787f56259338992ffbe22d6f42280", func := "loop.example/g00921/laws.FnBestBase", spec := "fnBestBase", unfollowed := true, recurses := true, named := ["math/bits.divideError", "math/bits.overflowError"], apart := false, narrowed := true }
def FnBestBaseUptoSaid : Prop := fnBestBaseUptoRow.holds Try.pinned (OpenSpec.upto fnBestBaseSpec)

end Rows
end Go.Proofs.Ytpmelgdhcjnagaa

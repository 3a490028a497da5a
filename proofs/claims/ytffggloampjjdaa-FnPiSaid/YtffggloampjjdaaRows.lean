/-
  No cell of these rows narrows 'for every input' (looked for: loops, veiled, ifaces, maps, wideKeys, modest, calm, conditions, laid).
  DERIVED. THE GIVEN ROWS OF THIS SEAT. 8 by the template 'for every input the law returns true; each argument reads behind the call as it read before'; 0 by the template 'total and deterministic' (their statements: YtffggloampjjdaaTotals.lean).
  GIVEN WITH THE SEED: the statements are not yours to turn. If you find one false, say at which input.
  Laid BY PROGRAM, IN A SANDBOX (cutbox-rows.mjs): the forced cells as the released guide's own fill.sh prints them over the translation d1c067d6fef0180c… (all of the seat's roots in one cut). By AI agents, Wed Nov 11 2026. No macro, syntax, notation, axiom, sorry.
-/
import Derived.Test.YtffggloampjjdaaChecked
import GoSem.Claim
import GoSem.ClaimJoined
import GoSem.ClaimMapViews
import Derived.JoinedTies
import Derived.KernelRfl
namespace Go.Proofs.Ytffggloampjjdaa
/- THE CELL 'sum', in the pinned program and in every row, IS THE sha256 OF THE DUMP (.gsa) THAT YtffggloampjjdaaProg.lean LOADS. Nothing in Lean hashes anything: it is a label: what it is worth is what the hold of that sum in a sandbox is worth. -/
noncomputable def Try.pinned : Pinned := { name := "ytffggloampjjdaa", sum := "d1c067d6fef0180c5c6f1a2bc1db7b229d7c5fe9d6e2f67a06f7ae0d6bdfd274", checked := Try.checked }
namespace Rows
def none {H : Type} : Left H := { results := [], args := [] }

/-- 'laws.FnExactValidAngle': WHATEVER THE INPUT: true; the input reads as it did. -/
def fnExactValidAngleSpec : ChangeSpec := { name := "fnExactValidAngle", fn := fun _ => fun
  | [d] => { results := [.lit (.bool true)], args := [d] }
  | _ => none }
def fnExactValidAngleRow : OpenClaim := { program := "ytffggloampjjdaa", sum := "d1c067d6fef0180c5c6f1a2bc1db7b229d7c5fe9d6e2f67a06f7ae0d6bdfd274", func := "loop.example/g00921/laws.FnExactValidAngle", spec := "fnExactValidAngle", inPlace := ["math/bits.Add64"], apart := false }
def FnExactValidAngleSaid : Prop := fnExactValidAngleRow.holds Try.pinned (OpenSpec.ofChange fnExactValidAngleSpec)

/-- ITS FALSE NEIGHBOUR: 'it returns false'. Refute it at one input. -/
def fnExactValidAngleWrong : ChangeSpec := { name := "fnExactValidAngle", fn := fun _ => fun
  | [d] => { results := [.lit (.bool false)], args := [d] }
  | _ => none }
def FnExactValidAngleWrongFalsely : Prop := fnExactValidAngleRow.holds Try.pinned (OpenSpec.ofChange fnExactValidAngleWrong)

/-- 'laws.FnExactValidProfile': WHATEVER THE INPUT: true; the input reads as it did. -/
def fnExactValidProfileSpec : ChangeSpec := { name := "fnExactValidProfile", fn := fun _ => fun
  | [d] => { results := [.lit (.bool true)], args := [d] }
  | _ => none }
def fnExactValidProfileRow : OpenClaim := { program := "ytffggloampjjdaa", sum := "d1c067d6fef0180c5c6f1a2bc1db7b229d7c5fe9d6e2f67a06f7ae0d6bdfd274", func := "loop.example/g00921/laws.FnExactValidProfile", spec := "fnExactValidProfile", inPlace := ["math/bits.Add64"], apart := false }
def FnExactValidProfileSaid : Prop := fnExactValidProfileRow.holds Try.pinned (OpenSpec.ofChange fnExactValidProfileSpec)

/-- ITS FALSE NEIGHBOUR: 'it returns false'. Refute it at one input. -/
def fnExactValidProfileWrong : ChangeSpec := { name := "fnExactValidProfile", fn := fun _ => fun
  | [d] => { results := [.lit (.bool false)], args := [d] }
  | _ => none }
def FnExactValidProfileWrongFalsely : Prop := fnExactValidProfileRow.holds Try.pinned (OpenSpec.ofChange fnExactValidProfileWrong)

/-- 'laws.FnExactDiameters': WHATEVER THE INPUT: true; the input reads as it did. -/
def fnExactDiametersSpec : ChangeSpec := { name := "fnExactDiameters", fn := fun _ => fun
  | [d] => { results := [.lit (.bool true)], args := [d] }
  | _ => none }
def fnExactDiametersRow : OpenClaim := { program := "ytffggloampjjdaa", sum := "d1c067d6fef0180c5c6f1a2bc1db7b229d7c5fe9d6e2f67a06f7ae0d6bdfd274", func := "loop.example/g00921/laws.FnExactDiameters", spec := "fnExactDiameters", inPlace := ["math/bits.Add64"], apart := false }
def FnExactDiametersSaid : Prop := fnExactDiametersRow.holds Try.pinned (OpenSpec.ofChange fnExactDiametersSpec)

/-- ITS FALSE NEIGHBOUR: 'it returns false'. Refute it at one input. -/
def fnExactDiametersWrong : ChangeSpec := { name := "fnExactDiameters", fn := fun _ => fun
  | [d] => { results := [.lit (.bool false)], args := [d] }
  | _ => none }
def FnExactDiametersWrongFalsely : Prop := fnExactDiametersRow.holds Try.pinned (OpenSpec.ofChange fnExactDiametersWrong)

/-- 'laws.FnExactPiBounds': WHATEVER THE INPUT: true; the input reads as it did. -/
def fnExactPiBoundsSpec : ChangeSpec := { name := "fnExactPiBounds", fn := fun _ => fun
  | [d] => { results := [.lit (.bool true)], args := [d] }
  | _ => none }
def fnExactPiBoundsRow : OpenClaim := { program := "ytffggloampjjdaa", sum := "d1c067d6fef0180c5c6f1a2bc1db7b229d7c5fe9d6e2f67a06f7ae0d6bdfd274", func := "loop.example/g00921/laws.FnExactPiBounds", spec := "fnExactPiBounds", apart := false }
def FnExactPiBoundsSaid : Prop := fnExactPiBoundsRow.holds Try.pinned (OpenSpec.ofChange fnExactPiBoundsSpec)

/-- ITS FALSE NEIGHBOUR: 'it returns false'. Refute it at one input. -/
def fnExactPiBoundsWrong : ChangeSpec := { name := "fnExactPiBounds", fn := fun _ => fun
  | [d] => { results := [.lit (.bool false)], args := [d] }
  | _ => none }
def FnExactPiBoundsWrongFalsely : Prop := fnExactPiBoundsRow.holds Try.pinned (OpenSpec.ofChange fnExactPiBoundsWrong)

/-- 'laws.FnExactThicknessBounds': WHATEVER THE INPUT: true; the input reads as it did. -/
def fnExactThicknessBoundsSpec : ChangeSpec := { name := "fnExactThicknessBounds", fn := fun _ => fun
  | [d1, d2] => { results := [.lit (.bool true)], args := [d1, d2] }
  | _ => none }
def fnExactThicknessBoundsRow : OpenClaim := { program := "ytffggloampjjdaa", sum := "d1c067d6fef0180c5c6f1a2bc1db7b229d7c5fe9d6e2f67a06f7ae0d6bdfd274", func := "loop.example/g00921/laws.FnExactThicknessBounds", spec := "fnExactThicknessBounds", inPlace := ["math/bits.Add64"], apart := false }
def FnExactThicknessBoundsSaid : Prop := fnExactThicknessBoundsRow.holds Try.pinned (OpenSpec.ofChange fnExactThicknessBoundsSpec)

/-- ITS FALSE NEIGHBOUR: 'it returns false'. Refute it at one input. -/
def fnExactThicknessBoundsWrong : ChangeSpec := { name := "fnExactThicknessBounds", fn := fun _ => fun
  | [d1, d2] => { results := [.lit (.bool false)], args := [d1, d2] }
  | _ => none }
def FnExactThicknessBoundsWrongFalsely : Prop := fnExactThicknessBoundsRow.holds Try.pinned (OpenSpec.ofChange fnExactThicknessBoundsWrong)

/-- 'laws.FnExactLeastTeeth': WHATEVER THE INPUT: true; the input reads as it did. -/
def fnExactLeastTeethSpec : ChangeSpec := { name := "fnExactLeastTeeth", fn := fun _ => fun
  | [d1, d2] => { results := [.lit (.bool true)], args := [d1, d2] }
  | _ => none }
def fnExactLeastTeethRow : OpenClaim := { program := "ytffggloampjjdaa", sum := "d1c067d6fef0180c5c6f1a2bc1db7b229d7c5fe9d6e2f67a06f7ae0d6bdfd274", func := "loop.example/g00921/laws.FnExactLeastTeeth", spec := "fnExactLeastTeeth", inPlace := ["math/bits.Add64"], apart := false }
def FnExactLeastTeethSaid : Prop := fnExactLeastTeethRow.holds Try.pinned (OpenSpec.ofChange fnExactLeastTeethSpec)

/-- ITS FALSE NEIGHBOUR: 'it returns false'. Refute it at one input. -/
def fnExactLeastTeethWrong : ChangeSpec := { name := "fnExactLeastTeeth", fn := fun _ => fun
  | [d1, d2] => { results := [.lit (.bool false)], args := [d1, d2] }
  | _ => none }
def FnExactLeastTeethWrongFalsely : Prop := fnExactLeastTeethRow.holds Try.pinned (OpenSpec.ofChange fnExactLeastTeethWrong)

/-- 'laws.FnExactFitModule': WHATEVER THE INPUT: true; the input reads as it did. -/
def fnExactFitModuleSpec : ChangeSpec := { name := "fnExactFitModule", fn := fun _ => fun
  | [d1, d2] => { results := [.lit (.bool true)], args := [d1, d2] }
  | _ => none }
def fnExactFitModuleRow : OpenClaim := { program := "ytffggloampjjdaa", sum := "d1c067d6fef0180c5c6f1a2bc1db7b229d7c5fe9d6e2f67a06f7ae0d6bdfd274", func := "loop.example/g00921/laws.FnExactFitModule", spec := "fnExactFitModule", unfollowed := true, recurses := true, apart := false }
def FnExactFitModuleSaid : Prop := fnExactFitModuleRow.holds Try.pinned (OpenSpec.ofChange fnExactFitModuleSpec)

/-- ITS FALSE NEIGHBOUR: 'it returns false'. Refute it at one input. -/
def fnExactFitModuleWrong : ChangeSpec := { name := "fnExactFitModule", fn := fun _ => fun
  | [d1, d2] => { results := [.lit (.bool false)], args := [d1, d2] }
  | _ => none }
def FnExactFitModuleWrongFalsely : Prop := fnExactFitModuleRow.holds Try.pinned (OpenSpec.ofChange fnExactFitModuleWrong)

/-- 'laws.FnPi': WHATEVER THE INPUT: true; the input reads as it did. -/
def fnPiSpec : ChangeSpec := { name := "fnPi", fn := fun _ => fun
  | [d] => { results := [.lit (.bool true)], args := [d] }
  | _ => none }
def fnPiRow : OpenClaim := { program := "ytffggloampjjdaa", sum := "d1c067d6fef0180c5c6f1a2bc1db7b229d7c5fe9d6e2f67a06f7ae0d6bdfd274", func := "loop.example/g00921/laws.FnPi", spec := "fnPi", apart := false }
def FnPiSaid : Prop := fnPiRow.holds Try.pinned (OpenSpec.ofChange fnPiSpec)

/-- ITS FALSE NEIGHBOUR: 'it returns false'. Refute it at one input. -/
def fnPiWrong : ChangeSpec := { name := "fnPi", fn := fun _ => fun
  | [d] => { results := [.lit (.bool false)], args := [d] }
  | _ => none }
def FnPiWrongFalsely : Prop := fnPiRow.holds Try.pinned (OpenSpec.ofChange fnPiWrong)

/- THE SECOND FORM. 'bulk': how many values and letters a reading holds, each counted each time it is reached (what is shared counts as often as it is met; a slice's spare places count too). A statement '..UptoSaid' is the law's where the arguments, and the package variables that the reading takes, are together of bulk at most 1048576: NARROWER than '..Said'. Prove '..Said' where nothing that the law and all that it calls make is longer than what came in: it says more and counts as full. Else prove '..UptoSaid'. A law counts once. -/
mutual
def uptoBulk {H : Type} : DataW H → Nat
  | .lit (.string bytes) => bytes.length + 1
  | .lit _ => 1
  | .nil => 1
  | .ptr d => uptoBulk d + 1
  | .slice elems spare => uptoBulkAll elems + uptoBulkAll spare + 1
  | .agg parts => uptoBulkAll parts + 1
  | .iface _ d => uptoBulk d + 1
  | .map entries => uptoBulkEntries entries + 1
  | .held _ => 1
def uptoBulkAll {H : Type} : List (DataW H) → Nat
  | [] => 0
  | d :: r => uptoBulk d + uptoBulkAll r
def uptoBulkEntries {H : Type} : List (Lit × DataW H) → Nat
  | [] => 0
  | x :: r => uptoBulkEntry x + uptoBulkEntries r
def uptoBulkEntry {H : Type} : Lit × DataW H → Nat
  | (.string bytes, d) => bytes.length + uptoBulk d + 1
  | (_, d) => uptoBulk d + 1
 end
def uptoSmall : (H : Type) → List (DataW H) → Bool := fun _ ds => decide (uptoBulkAll ds ≤ 1048576)
def OpenSpec.upto (s : _root_.Go.ChangeSpec) : _root_.Go.OpenSpec := { _root_.Go.OpenSpec.ofChange s with cond := some uptoSmall }

/-- 'laws.FnExactValidAngle', WHERE WHAT IT READS IS OF BULK AT MOST 1048576: true; the input reads as it did. -/
def fnExactValidAngleUptoRow : OpenClaim := { program := "ytffggloampjjdaa", sum := "d1c067d6fef0180c5c6f1a2bc1db7b229d7c5fe9d6e2f67a06f7ae0d6bdfd274", func := "loop.example/g00921/laws.FnExactValidAngle", spec := "fnExactValidAngle", inPlace := ["math/bits.Add64"], apart := false, narrowed := true }
def FnExactValidAngleUptoSaid : Prop := fnExactValidAngleUptoRow.holds Try.pinned (OpenSpec.upto fnExactValidAngleSpec)

/-- 'laws.FnExactValidProfile', WHERE WHAT IT READS IS OF BULK AT MOST 1048576: true; the input reads as it did. -/
def fnExactValidProfileUptoRow : OpenClaim := { program := "ytffggloampjjdaa", sum := "d1c067d6fef0180c5c6f1a2bc1db7b229d7c5fe9d6e2f67a06f7ae0d6bdfd274", func := "loop.example/g00921/laws.FnExactValidProfile", spec := "fnExactValidProfile", inPlace := ["math/bits.Add64"], apart := false, narrowed := true }
def FnExactValidProfileUptoSaid : Prop := fnExactValidProfileUptoRow.holds Try.pinned (OpenSpec.upto fnExactValidProfileSpec)

/-- 'laws.FnExactDiameters', WHERE WHAT IT READS IS OF BULK AT MOST 1048576: true; the input reads as it did. -/
def fnExactDiametersUptoRow : OpenClaim := { program := "ytffggloampjjdaa", sum := "d1c067d6fef0180c5c6f1a2bc1db7b229d7c5fe9d6e2f67a06f7ae0d6bdfd274", func := "loop.example/g00921/laws.FnExactDiameters", spec := "fnExactDiameters", inPlace := ["math/bits.Add64"], apart := false, narrowed := true }
def FnExactDiametersUptoSaid : Prop := fnExactDiametersUptoRow.holds Try.pinned (OpenSpec.upto fnExactDiametersSpec)

/-- 'laws.FnExactPiBounds', WHERE WHAT IT READS IS OF BULK AT MOST 1048576: true; the input reads as it did. -/
def fnExactPiBoundsUptoRow : OpenClaim := { program := "ytffggloampjjdaa", sum := "d1c067d6fef0180c5c6f1a2bc1db7b229d7c5fe9d6e2f67a06f7ae0d6bdfd274", func := "loop.example/g00921/laws.FnExactPiBounds", spec := "fnExactPiBounds", apart := false, narrowed := true }
def FnExactPiBoundsUptoSaid : Prop := fnExactPiBoundsUptoRow.holds Try.pinned (OpenSpec.upto fnExactPiBoundsSpec)

/-- 'laws.FnExactThicknessBounds', WHERE WHAT IT READS IS OF BULK AT MOST 1048576: true; the input reads as it did. -/
def fnExactThicknessBoundsUptoRow : OpenClaim := { program := "ytffggloampjjdaa", sum := "d1c067d6fef0180c5c6f1a2bc1db7b229d7c5fe9d6e2f67a06f7ae0d6bdfd274", func := "loop.example/g00921/laws.FnExactThicknessBounds", spec := "fnExactThicknessBounds", inPlace := ["math/bits.Add64"], apart := false, narrowed := true }
def FnExactThicknessBoundsUptoSaid : Prop := fnExactThicknessBoundsUptoRow.holds Try.pinned (OpenSpec.upto fnExactThicknessBoundsSpec)

/-- 'laws.FnExactLeastTeeth', WHERE WHAT IT READS IS OF BULK AT MOST 1048576: true; the input reads as it did. -/
def fnExactLeastTeethUptoRow : OpenClaim := { program := "ytffggloampjjdaa", sum := "d1c067d6fef0180c5c6f1a2bc1db7b229d7c5fe9d6e2f67a06f7ae0d6bdfd274", func := "loop.example/g00921/laws.FnExactLeastTeeth", spec := "fnExactLeastTeeth", inPlace := ["math/bits.Add64"], apart := false, narrowed := true }
def FnExactLeastTeethUptoSaid : Prop := fnExactLeastTeethUptoRow.holds Try.pinned (OpenSpec.upto fnExactLeastTeethSpec)

/-- 'laws.FnExactFitModule', WHERE WHAT IT READS IS OF BULK AT MOST 1048576: true; the input reads as it did. -/
def fnExactFitModuleUptoRow : OpenClaim := { program := "ytffggloampjjdaa", sum := "d1c067d6fef0180c5c6f1a2bc1db7b229d7c5fe9d6e2f67a06f7ae0d6bdfd274", func := "loop.example/g00921/laws.FnExactFitModule", spec := "fnExactFitModule", unfollowed := true, recurses := true, apart := false, narrowed := true }
def FnExactFitModuleUptoSaid : Prop := fnExactFitModuleUptoRow.holds Try.pinned (OpenSpec.upto fnExactFitModuleSpec)

/-- 'laws.FnPi', WHERE WHAT IT READS IS OF BULK AT MOST 1048576: true; the input reads as it did. -/
def fnPiUptoRow : OpenClaim := { program := "ytffggloampjjdaa", sum := "d1c067d6fef0180c5c6f1a2bc1db7b229d7c5fe9d6e2f67a06f7ae0d6bdfd274", func := "loop.example/g00921/laws.FnPi", spec := "fnPi", apart := false, narrowed := true }
def FnPiUptoSaid : Prop := fnPiUptoRow.holds Try.pinned (OpenSpec.upto fnPiSpec)

end Rows
end Go.Proofs.Ytffggloampjjdaa

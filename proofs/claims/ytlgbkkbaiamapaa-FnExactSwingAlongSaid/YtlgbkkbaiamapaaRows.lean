/-
  No cell of these rows narrows 'for every input' (looked for: loops, veiled, ifaces, maps, wideKeys, modest, calm, conditions, laid).
  DERIVED. THE GIVEN ROWS OF THIS SEAT. 8 by the template 'for every input the law returns true; each argument reads behind the call as it read before'; 0 by the template 'total and deterministic' (their statements: YtlgbkkbaiamapaaTotals.lean).
  GIVEN WITH THE SEED: the statements are not yours to turn. If you find one false, say at which input.
  Laid BY PROGRAM, IN A SANDBOX (cutbox-rows.mjs): the forced cells as the released guide's own fill.sh prints them over the translation 695679f5c6ddd01a… (all of the seat's roots in one cut). By AI agents, Wed Nov 11 2026. No macro, syntax, notation, axiom, sorry.
-/
import Derived.Test.YtlgbkkbaiamapaaChecked
import GoSem.Claim
import GoSem.ClaimJoined
import GoSem.ClaimMapViews
import Derived.JoinedTies
import Derived.KernelRfl
namespace Go.Proofs.Ytlgbkkbaiamapaa
/- THE CELL 'sum', in the pinned program and in every row, IS THE sha256 OF THE DUMP (.gsa) THAT YtlgbkkbaiamapaaProg.lean LOADS. Nothing in Lean hashes anything: it is a label: what it is worth is what the hold of that sum in a sandbox is worth. -/
noncomputable def Try.pinned : Pinned := { name := "ytlgbkkbaiamapaa", sum := "695679f5c6ddd01a26cc6c6a85a700fbc6982bacaaf5da212ab4e02ad5c24e6d", checked := Try.checked }
namespace Rows
def none {H : Type} : Left H := { results := [], args := [] }

/-- 'laws.FnExactValidEscapement': WHATEVER THE INPUT: true; the input reads as it did. -/
def fnExactValidEscapementSpec : ChangeSpec := { name := "fnExactValidEscapement", fn := fun _ => fun
  | [d] => { results := [.lit (.bool true)], args := [d] }
  | _ => none }
def fnExactValidEscapementRow : OpenClaim := { program := "ytlgbkkbaiamapaa", sum := "695679f5c6ddd01a26cc6c6a85a700fbc6982bacaaf5da212ab4e02ad5c24e6d", func := "loop.example/g00921/laws.FnExactValidEscapement", spec := "fnExactValidEscapement", apart := false }
def FnExactValidEscapementSaid : Prop := fnExactValidEscapementRow.holds Try.pinned (OpenSpec.ofChange fnExactValidEscapementSpec)

/-- ITS FALSE NEIGHBOUR: 'it returns false'. Refute it at one input. -/
def fnExactValidEscapementWrong : ChangeSpec := { name := "fnExactValidEscapement", fn := fun _ => fun
  | [d] => { results := [.lit (.bool false)], args := [d] }
  | _ => none }
def FnExactValidEscapementWrongFalsely : Prop := fnExactValidEscapementRow.holds Try.pinned (OpenSpec.ofChange fnExactValidEscapementWrong)

/-- 'laws.FnExactValidBeat': WHATEVER THE INPUT: true; the input reads as it did. -/
def fnExactValidBeatSpec : ChangeSpec := { name := "fnExactValidBeat", fn := fun _ => fun
  | [d1, d2] => { results := [.lit (.bool true)], args := [d1, d2] }
  | _ => none }
def fnExactValidBeatRow : OpenClaim := { program := "ytlgbkkbaiamapaa", sum := "695679f5c6ddd01a26cc6c6a85a700fbc6982bacaaf5da212ab4e02ad5c24e6d", func := "loop.example/g00921/laws.FnExactValidBeat", spec := "fnExactValidBeat", apart := false }
def FnExactValidBeatSaid : Prop := fnExactValidBeatRow.holds Try.pinned (OpenSpec.ofChange fnExactValidBeatSpec)

/-- ITS FALSE NEIGHBOUR: 'it returns false'. Refute it at one input. -/
def fnExactValidBeatWrong : ChangeSpec := { name := "fnExactValidBeat", fn := fun _ => fun
  | [d1, d2] => { results := [.lit (.bool false)], args := [d1, d2] }
  | _ => none }
def FnExactValidBeatWrongFalsely : Prop := fnExactValidBeatRow.holds Try.pinned (OpenSpec.ofChange fnExactValidBeatWrong)

/-- 'laws.FnExactSwing': WHATEVER THE INPUT: true; the input reads as it did. -/
def fnExactSwingSpec : ChangeSpec := { name := "fnExactSwing", fn := fun _ => fun
  | [d1, d2, d3] => { results := [.lit (.bool true)], args := [d1, d2, d3] }
  | _ => none }
def fnExactSwingRow : OpenClaim := { program := "ytlgbkkbaiamapaa", sum := "695679f5c6ddd01a26cc6c6a85a700fbc6982bacaaf5da212ab4e02ad5c24e6d", func := "loop.example/g00921/laws.FnExactSwing", spec := "fnExactSwing", unfollowed := true, recurses := true, apart := false }
def FnExactSwingSaid : Prop := fnExactSwingRow.holds Try.pinned (OpenSpec.ofChange fnExactSwingSpec)

/-- ITS FALSE NEIGHBOUR: 'it returns false'. Refute it at one input. -/
def fnExactSwingWrong : ChangeSpec := { name := "fnExactSwing", fn := fun _ => fun
  | [d1, d2, d3] => { results := [.lit (.bool false)], args := [d1, d2, d3] }
  | _ => none }
def FnExactSwingWrongFalsely : Prop := fnExactSwingRow.holds Try.pinned (OpenSpec.ofChange fnExactSwingWrong)

/-- 'laws.FnExactSwingMany': WHATEVER THE INPUT: true; the input reads as it did. -/
def fnExactSwingManySpec : ChangeSpec := { name := "fnExactSwingMany", fn := fun _ => fun
  | [d1, d2, d3, d4] => { results := [.lit (.bool true)], args := [d1, d2, d3, d4] }
  | _ => none }
def fnExactSwingManyRow : OpenClaim := { program := "ytlgbkkbaiamapaa", sum := "695679f5c6ddd01a26cc6c6a85a700fbc6982bacaaf5da212ab4e02ad5c24e6d", func := "loop.example/g00921/laws.FnExactSwingMany", spec := "fnExactSwingMany", unfollowed := true, recurses := true, apart := false }
def FnExactSwingManySaid : Prop := fnExactSwingManyRow.holds Try.pinned (OpenSpec.ofChange fnExactSwingManySpec)

/-- ITS FALSE NEIGHBOUR: 'it returns false'. Refute it at one input. -/
def fnExactSwingManyWrong : ChangeSpec := { name := "fnExactSwingMany", fn := fun _ => fun
  | [d1, d2, d3, d4] => { results := [.lit (.bool false)], args := [d1, d2, d3, d4] }
  | _ => none }
def FnExactSwingManyWrongFalsely : Prop := fnExactSwingManyRow.holds Try.pinned (OpenSpec.ofChange fnExactSwingManyWrong)

/-- 'laws.FnExactSwingAlong': WHATEVER THE INPUT: true; the input reads as it did. -/
def fnExactSwingAlongSpec : ChangeSpec := { name := "fnExactSwingAlong", fn := fun _ => fun
  | [d1, d2, d3] => { results := [.lit (.bool true)], args := [d1, d2, d3] }
  | _ => none }
def fnExactSwingAlongRow : OpenClaim := { program := "ytlgbkkbaiamapaa", sum := "695679f5c6ddd01a26cc6c6a85a700fbc6982bacaaf5da212ab4e02ad5c24e6d", func := "loop.example/g00921/laws.FnExactSwingAlong", spec := "fnExactSwingAlong", unfollowed := true, recurses := true, apart := false }
def FnExactSwingAlongSaid : Prop := fnExactSwingAlongRow.holds Try.pinned (OpenSpec.ofChange fnExactSwingAlongSpec)

/-- ITS FALSE NEIGHBOUR: 'it returns false'. Refute it at one input. -/
def fnExactSwingAlongWrong : ChangeSpec := { name := "fnExactSwingAlong", fn := fun _ => fun
  | [d1, d2, d3] => { results := [.lit (.bool false)], args := [d1, d2, d3] }
  | _ => none }
def FnExactSwingAlongWrongFalsely : Prop := fnExactSwingAlongRow.holds Try.pinned (OpenSpec.ofChange fnExactSwingAlongWrong)

/-- 'laws.FnExactSteadyEnergy': WHATEVER THE INPUT: true; the input reads as it did. -/
def fnExactSteadyEnergySpec : ChangeSpec := { name := "fnExactSteadyEnergy", fn := fun _ => fun
  | [d1, d2] => { results := [.lit (.bool true)], args := [d1, d2] }
  | _ => none }
def fnExactSteadyEnergyRow : OpenClaim := { program := "ytlgbkkbaiamapaa", sum := "695679f5c6ddd01a26cc6c6a85a700fbc6982bacaaf5da212ab4e02ad5c24e6d", func := "loop.example/g00921/laws.FnExactSteadyEnergy", spec := "fnExactSteadyEnergy", unfollowed := true, recurses := true, apart := false }
def FnExactSteadyEnergySaid : Prop := fnExactSteadyEnergyRow.holds Try.pinned (OpenSpec.ofChange fnExactSteadyEnergySpec)

/-- ITS FALSE NEIGHBOUR: 'it returns false'. Refute it at one input. -/
def fnExactSteadyEnergyWrong : ChangeSpec := { name := "fnExactSteadyEnergy", fn := fun _ => fun
  | [d1, d2] => { results := [.lit (.bool false)], args := [d1, d2] }
  | _ => none }
def FnExactSteadyEnergyWrongFalsely : Prop := fnExactSteadyEnergyRow.holds Try.pinned (OpenSpec.ofChange fnExactSteadyEnergyWrong)

/-- 'laws.FnExactStopAfter': WHATEVER THE INPUT: true; the input reads as it did. -/
def fnExactStopAfterSpec : ChangeSpec := { name := "fnExactStopAfter", fn := fun _ => fun
  | [d1, d2, d3] => { results := [.lit (.bool true)], args := [d1, d2, d3] }
  | _ => none }
def fnExactStopAfterRow : OpenClaim := { program := "ytlgbkkbaiamapaa", sum := "695679f5c6ddd01a26cc6c6a85a700fbc6982bacaaf5da212ab4e02ad5c24e6d", func := "loop.example/g00921/laws.FnExactStopAfter", spec := "fnExactStopAfter", unfollowed := true, recurses := true, apart := false }
def FnExactStopAfterSaid : Prop := fnExactStopAfterRow.holds Try.pinned (OpenSpec.ofChange fnExactStopAfterSpec)

/-- ITS FALSE NEIGHBOUR: 'it returns false'. Refute it at one input. -/
def fnExactStopAfterWrong : ChangeSpec := { name := "fnExactStopAfter", fn := fun _ => fun
  | [d1, d2, d3] => { results := [.lit (.bool false)], args := [d1, d2, d3] }
  | _ => none }
def FnExactStopAfterWrongFalsely : Prop := fnExactStopAfterRow.holds Try.pinned (OpenSpec.ofChange fnExactStopAfterWrong)

/-- 'laws.FnExactLeastTorque': WHATEVER THE INPUT: true; the input reads as it did. -/
def fnExactLeastTorqueSpec : ChangeSpec := { name := "fnExactLeastTorque", fn := fun _ => fun
  | [d1, d2, d3] => { results := [.lit (.bool true)], args := [d1, d2, d3] }
  | _ => none }
def fnExactLeastTorqueRow : OpenClaim := { program := "ytlgbkkbaiamapaa", sum := "695679f5c6ddd01a26cc6c6a85a700fbc6982bacaaf5da212ab4e02ad5c24e6d", func := "loop.example/g00921/laws.FnExactLeastTorque", spec := "fnExactLeastTorque", unfollowed := true, recurses := true, apart := false }
def FnExactLeastTorqueSaid : Prop := fnExactLeastTorqueRow.holds Try.pinned (OpenSpec.ofChange fnExactLeastTorqueSpec)

/-- ITS FALSE NEIGHBOUR: 'it returns false'. Refute it at one input. -/
def fnExactLeastTorqueWrong : ChangeSpec := { name := "fnExactLeastTorque", fn := fun _ => fun
  | [d1, d2, d3] => { results := [.lit (.bool false)], args := [d1, d2, d3] }
  | _ => none }
def FnExactLeastTorqueWrongFalsely : Prop := fnExactLeastTorqueRow.holds Try.pinned (OpenSpec.ofChange fnExactLeastTorqueWrong)

/- THE SECOND FORM. 'bulk': how many values and letters a reading holds, each counted each time it is reached (what is shared counts as often as it is met; a slice's spare places count too). A statement '..UptoSaid' is the law's where the arguments, and the package variables that the reading takes, are together of bulk at most 1048576: NARROWER than '..Said'. Prove '..Said' where nothing that the law and all that it calls make is longer than what came in: it says more and counts as full. Else prove '..UptoSaid'. A law counts once. -/
mutual
def uptoBulk {H : Type} : DataW H → Nat
  | .lit (.string bytes) => bytes.length + 1
  | .lit _ => 1
  | .nil => 1
  | .ptr d => uptoBulk d + 1
  | .slice elems spare => uptoBulkAll elems + uptoBulkAll spare + 1
  | .agg parts => uptoBulkAll parts + 1
  | .iface _ d => uptoBulk d + 1
  | .map entries => uptoBulkEntries entries + 1
  | .held _ => 1
def uptoBulkAll {H : Type} : List (DataW H) → Nat
  | [] => 0
  | d :: r => uptoBulk d + uptoBulkAll r
def uptoBulkEntries {H : Type} : List (Lit × DataW H) → Nat
  | [] => 0
  | x :: r => uptoBulkEntry x + uptoBulkEntries r
def uptoBulkEntry {H : Type} : Lit × DataW H → Nat
  | (.string bytes, d) => bytes.length + uptoBulk d + 1
  | (_, d) => uptoBulk d + 1
 end
def uptoSmall : (H : Type) → List (DataW H) → Bool := fun _ ds => decide (uptoBulkAll ds ≤ 1048576)
def OpenSpec.upto (s : _root_.Go.ChangeSpec) : _root_.Go.OpenSpec := { _root_.Go.OpenSpec.ofChange s with cond := some uptoSmall }

/-- 'laws.FnExactValidEscapement', WHERE WHAT IT READS IS OF BULK AT MOST 1048576: true; the input reads as it did. -/
def fnExactValidEscapementUptoRow : OpenClaim := { program := "ytlgbkkbaiamapaa", sum := "695679f5c6ddd01a26cc6c6a85a700fbc6982bacaaf5da212ab4e02ad5c24e6d", func := "loop.example/g00921/laws.FnExactValidEscapement", spec := "fnExactValidEscapement", apart := false, narrowed := true }
def FnExactValidEscapementUptoSaid : Prop := fnExactValidEscapementUptoRow.holds Try.pinned (OpenSpec.upto fnExactValidEscapementSpec)

/-- 'laws.FnExactValidBeat', WHERE WHAT IT READS IS OF BULK AT MOST 1048576: true; the input reads as it did. -/
def fnExactValidBeatUptoRow : OpenClaim := { program := "ytlgbkkbaiamapaa", sum := "695679f5c6ddd01a26cc6c6a85a700fbc6982bacaaf5da212ab4e02ad5c24e6d", func := "loop.example/g00921/laws.FnExactValidBeat", spec := "fnExactValidBeat", apart := false, narrowed := true }
def FnExactValidBeatUptoSaid : Prop := fnExactValidBeatUptoRow.holds Try.pinned (OpenSpec.upto fnExactValidBeatSpec)

/-- 'laws.FnExactSwing', WHERE WHAT IT READS IS OF BULK AT MOST 1048576: true; the input reads as it did. -/
def fnExactSwingUptoRow : OpenClaim := { program := "ytlgbkkbaiamapaa", sum := "695679f5c6ddd01a26cc6c6a85a700fbc6982bacaaf5da212ab4e02ad5c24e6d", func := "loop.example/g00921/laws.FnExactSwing", spec := "fnExactSwing", unfollowed := true, recurses := true, apart := false, narrowed := true }
def FnExactSwingUptoSaid : Prop := fnExactSwingUptoRow.holds Try.pinned (OpenSpec.upto fnExactSwingSpec)

/-- 'laws.FnExactSwingMany', WHERE WHAT IT READS IS OF BULK AT MOST 1048576: true; the input reads as it did. -/
def fnExactSwingManyUptoRow : OpenClaim := { program := "ytlgbkkbaiamapaa", sum := "695679f5c6ddd01a26cc6c6a85a700fbc6982bacaaf5da212ab4e02ad5c24e6d", func := "loop.example/g00921/laws.FnExactSwingMany", spec := "fnExactSwingMany", unfollowed := true, recurses := true, apart := false, narrowed := true }
def FnExactSwingManyUptoSaid : Prop := fnExactSwingManyUptoRow.holds Try.pinned (OpenSpec.upto fnExactSwingManySpec)

/-- 'laws.FnExactSwingAlong', WHERE WHAT IT READS IS OF BULK AT MOST 1048576: true; the input reads as it did. -/
def fnExactSwingAlongUptoRow : OpenClaim := { program := "ytlgbkkbaiamapaa", sum := "695679f5c6ddd01a26cc6c6a85a700fbc6982bacaaf5da212ab4e02ad5c24e6d", func := "loop.example/g00921/laws.FnExactSwingAlong", spec := "fnExactSwingAlong", unfollowed := true, recurses := true, apart := false, narrowed := true }
def FnExactSwingAlongUptoSaid : Prop := fnExactSwingAlongUptoRow.holds Try.pinned (OpenSpec.upto fnExactSwingAlongSpec)

/-- 'laws.FnExactSteadyEnergy', WHERE WHAT IT READS IS OF BULK AT MOST 1048576: true; the input reads as it did. -/
def fnExactSteadyEnergyUptoRow : OpenClaim := { program := "ytlgbkkbaiamapaa", sum := "695679f5c6ddd01a26cc6c6a85a700fbc6982bacaaf5da212ab4e02ad5c24e6d", func := "loop.example/g00921/laws.FnExactSteadyEnergy", spec := "fnExactSteadyEnergy", unfollowed := true, recurses := true, apart := false, narrowed := true }
def FnExactSteadyEnergyUptoSaid : Prop := fnExactSteadyEnergyUptoRow.holds Try.pinned (OpenSpec.upto fnExactSteadyEnergySpec)

/-- 'laws.FnExactStopAfter', WHERE WHAT IT READS IS OF BULK AT MOST 1048576: true; the input reads as it did. -/
def fnExactStopAfterUptoRow : OpenClaim := { program := "ytlgbkkbaiamapaa", sum := "695679f5c6ddd01a26cc6c6a85a700fbc6982bacaaf5da212ab4e02ad5c24e6d", func := "loop.example/g00921/laws.FnExactStopAfter", spec := "fnExactStopAfter", unfollowed := true, recurses := true, apart := false, narrowed := true }
def FnExactStopAfterUptoSaid : Prop := fnExactStopAfterUptoRow.holds Try.pinned (OpenSpec.upto fnExactStopAfterSpec)

/-- 'laws.FnExactLeastTorque', WHERE WHAT IT READS IS OF BULK AT MOST 1048576: true; the input reads as it did. -/
def fnExactLeastTorqueUptoRow : OpenClaim := { program := "ytlgbkkbaiamapaa", sum := "695679f5c6ddd01a26cc6c6a85a700fbc6982bacaaf5da212ab4e02ad5c24e6d", func := "loop.example/g00921/laws.FnExactLeastTorque", spec := "fnExactLeastTorque", unfollowed := true, recurses := true, apart := false, narrowed := true }
def FnExactLeastTorqueUptoSaid : Prop := fnExactLeastTorqueUptoRow.holds Try.pinned (OpenSpec.upto fnExactLeastTorqueSpec)

end Rows
end Go.Proofs.Ytlgbkkbaiamapaa

/-
  No cell of these rows narrows 'for every input' (looked for: loops, veiled, ifaces, maps, wideKeys, modest, calm, conditions, laid).
  DERIVED. THE GIVEN ROWS OF THIS SEAT. 5 by the template 'for every input the law returns true; each argument reads behind the call as it read before'; 0 by the template 'total and deterministic' (their statements: YtkagciekoeaijaaTotals.lean).
  GIVEN WITH THE SEED: the statements are not yours to turn. If you find one false, say at which input.
  Laid BY PROGRAM, IN A SANDBOX (cutbox-rows.mjs): the forced cells as the released guide's own fill.sh prints them over the translation 2ee76624ec6c3a7d… (all of the seat's roots in one cut). By AI agents, Wed Nov 11 2026. No macro, syntax, notation, axiom, sorry.
-/
import Derived.Test.YtkagciekoeaijaaChecked
import GoSem.Claim
import GoSem.ClaimJoined
import GoSem.ClaimMapViews
import Derived.JoinedTies
import Derived.KernelRfl
namespace Go.Proofs.Ytkagciekoeaijaa
/- THE CELL 'sum', in the pinned program and in every row, IS THE sha256 OF THE DUMP (.gsa) THAT YtkagciekoeaijaaProg.lean LOADS. Nothing in Lean hashes anything: it is a label: what it is worth is what the hold of that sum in a sandbox is worth. -/
noncomputable def Try.pinned : Pinned := { name := "ytkagciekoeaijaa", sum := "2ee76624ec6c3a7d820ffb35aaa0f732297d868a8fe660db9371f750e41a9066", checked := Try.checked }
namespace Rows
def none {H : Type} : Left H := { results := [], args := [] }

/-- 'laws.FnMoreEnergy': WHATEVER THE INPUT: true; the input reads as it did. -/
def fnMoreEnergySpec : ChangeSpec := { name := "fnMoreEnergy", fn := fun _ => fun
  | [d] => { results := [.lit (.bool true)], args := [d] }
  | _ => none }
def fnMoreEnergyRow : OpenClaim := { program := "ytkagciekoeaijaa", sum := "2ee76624ec6c3a7d820ffb35aaa0f732297d868a8fe660db9371f750e41a9066", func := "loop.example/g00921/laws.FnMoreEnergy", spec := "fnMoreEnergy", unfollowed := true, recurses := true, apart := false }
def FnMoreEnergySaid : Prop := fnMoreEnergyRow.holds Try.pinned (OpenSpec.ofChange fnMoreEnergySpec)

/-- ITS FALSE NEIGHBOUR: 'it returns false'. Refute it at one input. -/
def fnMoreEnergyWrong : ChangeSpec := { name := "fnMoreEnergy", fn := fun _ => fun
  | [d] => { results := [.lit (.bool false)], args := [d] }
  | _ => none }
def FnMoreEnergyWrongFalsely : Prop := fnMoreEnergyRow.holds Try.pinned (OpenSpec.ofChange fnMoreEnergyWrong)

/-- 'laws.FnSteady': WHATEVER THE INPUT: true; the input reads as it did. -/
def fnSteadySpec : ChangeSpec := { name := "fnSteady", fn := fun _ => fun
  | [d] => { results := [.lit (.bool true)], args := [d] }
  | _ => none }
def fnSteadyRow : OpenClaim := { program := "ytkagciekoeaijaa", sum := "2ee76624ec6c3a7d820ffb35aaa0f732297d868a8fe660db9371f750e41a9066", func := "loop.example/g00921/laws.FnSteady", spec := "fnSteady", unfollowed := true, recurses := true, apart := false }
def FnSteadySaid : Prop := fnSteadyRow.holds Try.pinned (OpenSpec.ofChange fnSteadySpec)

/-- ITS FALSE NEIGHBOUR: 'it returns false'. Refute it at one input. -/
def fnSteadyWrong : ChangeSpec := { name := "fnSteady", fn := fun _ => fun
  | [d] => { results := [.lit (.bool false)], args := [d] }
  | _ => none }
def FnSteadyWrongFalsely : Prop := fnSteadyRow.holds Try.pinned (OpenSpec.ofChange fnSteadyWrong)

/-- 'laws.FnStops': WHATEVER THE INPUT: true; the input reads as it did. -/
def fnStopsSpec : ChangeSpec := { name := "fnStops", fn := fun _ => fun
  | [d] => { results := [.lit (.bool true)], args := [d] }
  | _ => none }
def fnStopsRow : OpenClaim := { program := "ytkagciekoeaijaa", sum := "2ee76624ec6c3a7d820ffb35aaa0f732297d868a8fe660db9371f750e41a9066", func := "loop.example/g00921/laws.FnStops", spec := "fnStops", unfollowed := true, recurses := true, apart := false }
def FnStopsSaid : Prop := fnStopsRow.holds Try.pinned (OpenSpec.ofChange fnStopsSpec)

/-- ITS FALSE NEIGHBOUR: 'it returns false'. Refute it at one input. -/
def fnStopsWrong : ChangeSpec := { name := "fnStops", fn := fun _ => fun
  | [d] => { results := [.lit (.bool false)], args := [d] }
  | _ => none }
def FnStopsWrongFalsely : Prop := fnStopsRow.holds Try.pinned (OpenSpec.ofChange fnStopsWrong)

/-- 'laws.FnLeastTorque': WHATEVER THE INPUT: true; the input reads as it did. -/
def fnLeastTorqueSpec : ChangeSpec := { name := "fnLeastTorque", fn := fun _ => fun
  | [d] => { results := [.lit (.bool true)], args := [d] }
  | _ => none }
def fnLeastTorqueRow : OpenClaim := { program := "ytkagciekoeaijaa", sum := "2ee76624ec6c3a7d820ffb35aaa0f732297d868a8fe660db9371f750e41a9066", func := "loop.example/g00921/laws.FnLeastTorque", spec := "fnLeastTorque", unfollowed := true, recurses := true, apart := false }
def FnLeastTorqueSaid : Prop := fnLeastTorqueRow.holds Try.pinned (OpenSpec.ofChange fnLeastTorqueSpec)

/-- ITS FALSE NEIGHBOUR: 'it returns false'. Refute it at one input. -/
def fnLeastTorqueWrong : ChangeSpec := { name := "fnLeastTorque", fn := fun _ => fun
  | [d] => { results := [.lit (.bool false)], args := [d] }
  | _ => none }
def FnLeastTorqueWrongFalsely : Prop := fnLeastTorqueRow.holds Try.pinned (OpenSpec.ofChange fnLeastTorqueWrong)

/-- 'laws.FnExactLeastStart': WHATEVER THE INPUT: true; the input reads as it did. -/
def fnExactLeastStartSpec : ChangeSpec := { name := "fnExactLeastStart", fn := fun _ => fun
  | [d1, d2, d3] => { results := [.lit (.bool true)], args := [d1, d2, d3] }
  | _ => none }
def fnExactLeastStartRow : OpenClaim := { program := "ytkagciekoeaijaa", sum := "2ee76624ec6c3a7d820ffb35aaa0f732297d868a8fe660db9371f750e41a9066", func := "loop.example/g00921/laws.FnExactLeastStart", spec := "fnExactLeastStart", unfollowed := true, recurses := true, apart := false }
def FnExactLeastStartSaid : Prop := fnExactLeastStartRow.holds Try.pinned (OpenSpec.ofChange fnExactLeastStartSpec)

/-- ITS FALSE NEIGHBOUR: 'it returns false'. Refute it at one input. -/
def fnExactLeastStartWrong : ChangeSpec := { name := "fnExactLeastStart", fn := fun _ => fun
  | [d1, d2, d3] => { results := [.lit (.bool false)], args := [d1, d2, d3] }
  | _ => none }
def FnExactLeastStartWrongFalsely : Prop := fnExactLeastStartRow.holds Try.pinned (OpenSpec.ofChange fnExactLeastStartWrong)

/- THE SECOND FORM. 'bulk': how many values and letters a reading holds, each counted each time it is reached (what is shared counts as often as it is met; a slice's spare places count too). A statement '..UptoSaid' is the law's where the arguments, and the package variables that the reading takes, are together of bulk at most 1048576: NARROWER than '..Said'. Prove '..Said' where nothing that the law and all that it calls make is longer than what came in: it says more and counts as full. Else prove '..UptoSaid'. A law counts once. -/
mutual
def uptoBulk {H : Type} : DataW H → Nat
  | .lit (.string bytes) => bytes.length + 1
  | .lit _ => 1
  | .nil => 1
  | .ptr d => uptoBulk d + 1
  | .slice elems spare => uptoBulkAll elems + uptoBulkAll spare + 1
  | .agg parts => uptoBulkAll parts + 1
  | .iface _ d => uptoBulk d + 1
  | .map entries => uptoBulkEntries entries + 1
  | .held _ => 1
def uptoBulkAll {H : Type} : List (DataW H) → Nat
  | [] => 0
  | d :: r => uptoBulk d + uptoBulkAll r
def uptoBulkEntries {H : Type} : List (Lit × DataW H) → Nat
  | [] => 0
  | x :: r => uptoBulkEntry x + uptoBulkEntries r
def uptoBulkEntry {H : Type} : Lit × DataW H → Nat
  | (.string bytes, d) => bytes.length + uptoBulk d + 1
  | (_, d) => uptoBulk d + 1
 end
def uptoSmall : (H : Type) → List (DataW H) → Bool := fun _ ds => decide (uptoBulkAll ds ≤ 1048576)
def OpenSpec.upto (s : _root_.Go.ChangeSpec) : _root_.Go.OpenSpec := { _root_.Go.OpenSpec.ofChange s with cond := some uptoSmall }

/-- 'laws.FnMoreEnergy', WHERE WHAT IT READS IS OF BULK AT MOST 1048576: true; the input reads as it did. -/
def fnMoreEnergyUptoRow : OpenClaim := { program := "ytkagciekoeaijaa", sum := "2ee76624ec6c3a7d820ffb35aaa0f732297d868a8fe660db9371f750e41a9066", func := "loop.example/g00921/laws.FnMoreEnergy", spec := "fnMoreEnergy", unfollowed := true, recurses := true, apart := false, narrowed := true }
def FnMoreEnergyUptoSaid : Prop := fnMoreEnergyUptoRow.holds Try.pinned (OpenSpec.upto fnMoreEnergySpec)

/-- 'laws.FnSteady', WHERE WHAT IT READS IS OF BULK AT MOST 1048576: true; the input reads as it did. -/
def fnSteadyUptoRow : OpenClaim := { program := "ytkagciekoeaijaa", sum := "2ee76624ec6c3a7d820ffb35aaa0f732297d868a8fe660db9371f750e41a9066", func := "loop.example/g00921/laws.FnSteady", spec := "fnSteady", unfollowed := true, recurses := true, apart := false, narrowed := true }
def FnSteadyUptoSaid : Prop := fnSteadyUptoRow.holds Try.pinned (OpenSpec.upto fnSteadySpec)

/-- 'laws.FnStops', WHERE WHAT IT READS IS OF BULK AT MOST 1048576: true; the input reads as it did. -/
def fnStopsUptoRow : OpenClaim := { program := "ytkagciekoeaijaa", sum := "2ee76624ec6c3a7d820ffb35aaa0f732297d868a8fe660db9371f750e41a9066", func := "loop.example/g00921/laws.FnStops", spec := "fnStops", unfollowed := true, recurses := true, apart := false, narrowed := true }
def FnStopsUptoSaid : Prop := fnStopsUptoRow.holds Try.pinned (OpenSpec.upto fnStopsSpec)

/-- 'laws.FnLeastTorque', WHERE WHAT IT READS IS OF BULK AT MOST 1048576: true; the input reads as it did. -/
def fnLeastTorqueUptoRow : OpenClaim := { program := "ytkagciekoeaijaa", sum := "2ee76624ec6c3a7d820ffb35aaa0f732297d868a8fe660db9371f750e41a9066", func := "loop.example/g00921/laws.FnLeastTorque", spec := "fnLeastTorque", unfollowed := true, recurses := true, apart := false, narrowed := true }
def FnLeastTorqueUptoSaid : Prop := fnLeastTorqueUptoRow.holds Try.pinned (OpenSpec.upto fnLeastTorqueSpec)

/-- 'laws.FnExactLeastStart', WHERE WHAT IT READS IS OF BULK AT MOST 1048576: true; the input reads as it did. -/
def fnExactLeastStartUptoRow : OpenClaim := { program := "ytkagciekoeaijaa", sum := "2ee76624ec6c3a7d820ffb35aaa0f732297d868a8fe660db9371f750e41a9066", func := "loop.example/g00921/laws.FnExactLeastStart", spec := "fnExactLeastStart", unfollowed := true, recurses := true, apart := false, narrowed := true }
def FnExactLeastStartUptoSaid : Prop := fnExactLeastStartUptoRow.holds Try.pinned (OpenSpec.upto fnExactLeastStartSpec)

end Rows
end Go.Proofs.Ytkagciekoeaijaa

/-
  No cell of these rows narrows 'for every input' (looked for: loops, veiled, ifaces, maps, wideKeys, modest, calm, conditions, laid).
  DERIVED. THE GIVEN ROWS OF THIS SEAT. 8 by the template 'for every input the law returns true; each argument reads behind the call as it read before'; 0 by the template 'total and deterministic' (their statements: YtmdfhmoipgaliaaTotals.lean).
  GIVEN WITH THE SEED: the statements are not yours to turn. If you find one false, say at which input.
  Laid BY PROGRAM, IN A SANDBOX (cutbox-rows.mjs): the forced cells as the released guide's own fill.sh prints them over the translation e04dca2ff9703f1d… (all of the seat's roots in one cut). By AI agents, Wed Nov 11 2026. No macro, syntax, notation, axiom, sorry.
-/
import Derived.Test.YtmdfhmoipgaliaaChecked
import GoSem.Claim
import GoSem.ClaimJoined
import GoSem.ClaimMapViews
import Derived.JoinedTies
import Derived.KernelRfl
namespace Go.Proofs.Ytmdfhmoipgaliaa
/- THE CELL 'sum', in the pinned program and in every row, IS THE sha256 OF THE DUMP (.gsa) THAT YtmdfhmoipgaliaaProg.lean LOADS. Nothing in Lean hashes anything: it is a label: what it is worth is what the hold of that sum in a sandbox is worth. -/
noncomputable def Try.pinned : Pinned := { name := "ytmdfhmoipgaliaa", sum := "e04dca2ff9703f1dc0622bdd9d6e8b44bf24d4c0e9ff24e17cb4689b28183071", checked := Try.checked }
namespace Rows
def none {H : Type} : Left H := { results := [], args := [] }

/-- 'laws.FnThirdPoints': WHATEVER THE INPUT: true; the input reads as it did. -/
def fnThirdPointsSpec : ChangeSpec := { name := "fnThirdPoints", fn := fun _ => fun
  | [d] => { results := [.lit (.bool true)], args := [d] }
  | _ => none }
def fnThirdPointsRow : OpenClaim := { program := "ytmdfhmoipgaliaa", sum := "e04dca2ff9703f1dc0622bdd9d6e8b44bf24d4c0e9ff24e17cb4689b28183071", func := "loop.example/g00921/laws.FnThirdPoints", spec := "fnThirdPoints", named := ["math/bits.divideError", "math/bits.overflowError"], apart := false }
def FnThirdPointsSaid : Prop := fnThirdPointsRow.holds Try.pinned (OpenSpec.ofChange fnThirdPointsSpec)

/-- ITS FALSE NEIGHBOUR: 'it returns false'. Refute it at one input. -/
def fnThirdPointsWrong : ChangeSpec := { name := "fnThirdPoints", fn := fun _ => fun
  | [d] => { results := [.lit (.bool false)], args := [d] }
  | _ => none }
def FnThirdPointsWrongFalsely : Prop := fnThirdPointsRow.holds Try.pinned (OpenSpec.ofChange fnThirdPointsWrong)

/-- 'laws.FnExactValidPoint': WHATEVER THE INPUT: true; the input reads as it did. -/
def fnExactValidPointSpec : ChangeSpec := { name := "fnExactValidPoint", fn := fun _ => fun
  | [d] => { results := [.lit (.bool true)], args := [d] }
  | _ => none }
def fnExactValidPointRow : OpenClaim := { program := "ytmdfhmoipgaliaa", sum := "e04dca2ff9703f1dc0622bdd9d6e8b44bf24d4c0e9ff24e17cb4689b28183071", func := "loop.example/g00921/laws.FnExactValidPoint", spec := "fnExactValidPoint", apart := false }
def FnExactValidPointSaid : Prop := fnExactValidPointRow.holds Try.pinned (OpenSpec.ofChange fnExactValidPointSpec)

/-- ITS FALSE NEIGHBOUR: 'it returns false'. Refute it at one input. -/
def fnExactValidPointWrong : ChangeSpec := { name := "fnExactValidPoint", fn := fun _ => fun
  | [d] => { results := [.lit (.bool false)], args := [d] }
  | _ => none }
def FnExactValidPointWrongFalsely : Prop := fnExactValidPointRow.holds Try.pinned (OpenSpec.ofChange fnExactValidPointWrong)

/-- 'laws.FnExactValidPlate': WHATEVER THE INPUT: true; the input reads as it did. -/
def fnExactValidPlateSpec : ChangeSpec := { name := "fnExactValidPlate", fn := fun _ => fun
  | [d] => { results := [.lit (.bool true)], args := [d] }
  | _ => none }
def fnExactValidPlateRow : OpenClaim := { program := "ytmdfhmoipgaliaa", sum := "e04dca2ff9703f1dc0622bdd9d6e8b44bf24d4c0e9ff24e17cb4689b28183071", func := "loop.example/g00921/laws.FnExactValidPlate", spec := "fnExactValidPlate", unfollowed := true, recurses := true, apart := false }
def FnExactValidPlateSaid : Prop := fnExactValidPlateRow.holds Try.pinned (OpenSpec.ofChange fnExactValidPlateSpec)

/-- ITS FALSE NEIGHBOUR: 'it returns false'. Refute it at one input. -/
def fnExactValidPlateWrong : ChangeSpec := { name := "fnExactValidPlate", fn := fun _ => fun
  | [d] => { results := [.lit (.bool false)], args := [d] }
  | _ => none }
def FnExactValidPlateWrongFalsely : Prop := fnExactValidPlateRow.holds Try.pinned (OpenSpec.ofChange fnExactValidPlateWrong)

/-- 'laws.FnExactSamePlate': WHATEVER THE INPUT: true; the input reads as it did. -/
def fnExactSamePlateSpec : ChangeSpec := { name := "fnExactSamePlate", fn := fun _ => fun
  | [d1, d2] => { results := [.lit (.bool true)], args := [d1, d2] }
  | _ => none }
def fnExactSamePlateRow : OpenClaim := { program := "ytmdfhmoipgaliaa", sum := "e04dca2ff9703f1dc0622bdd9d6e8b44bf24d4c0e9ff24e17cb4689b28183071", func := "loop.example/g00921/laws.FnExactSamePlate", spec := "fnExactSamePlate", apart := false }
def FnExactSamePlateSaid : Prop := fnExactSamePlateRow.holds Try.pinned (OpenSpec.ofChange fnExactSamePlateSpec)

/-- ITS FALSE NEIGHBOUR: 'it returns false'. Refute it at one input. -/
def fnExactSamePlateWrong : ChangeSpec := { name := "fnExactSamePlate", fn := fun _ => fun
  | [d1, d2] => { results := [.lit (.bool false)], args := [d1, d2] }
  | _ => none }
def FnExactSamePlateWrongFalsely : Prop := fnExactSamePlateRow.holds Try.pinned (OpenSpec.ofChange fnExactSamePlateWrong)

/-- 'laws.FnExactSquaredDistance': WHATEVER THE INPUT: true; the input reads as it did. -/
def fnExactSquaredDistanceSpec : ChangeSpec := { name := "fnExactSquaredDistance", fn := fun _ => fun
  | [d1, d2] => { results := [.lit (.bool true)], args := [d1, d2] }
  | _ => none }
def fnExactSquaredDistanceRow : OpenClaim := { program := "ytmdfhmoipgaliaa", sum := "e04dca2ff9703f1dc0622bdd9d6e8b44bf24d4c0e9ff24e17cb4689b28183071", func := "loop.example/g00921/laws.FnExactSquaredDistance", spec := "fnExactSquaredDistance", apart := false }
def FnExactSquaredDistanceSaid : Prop := fnExactSquaredDistanceRow.holds Try.pinned (OpenSpec.ofChange fnExactSquaredDistanceSpec)

/-- ITS FALSE NEIGHBOUR: 'it returns false'. Refute it at one input. -/
def fnExactSquaredDistanceWrong : ChangeSpec := { name := "fnExactSquaredDistance", fn := fun _ => fun
  | [d1, d2] => { results := [.lit (.bool false)], args := [d1, d2] }
  | _ => none }
def FnExactSquaredDistanceWrongFalsely : Prop := fnExactSquaredDistanceRow.holds Try.pinned (OpenSpec.ofChange fnExactSquaredDistanceWrong)

/-- 'laws.FnExactCentreDistance': WHATEVER THE INPUT: true; the input reads as it did. -/
def fnExactCentreDistanceSpec : ChangeSpec := { name := "fnExactCentreDistance", fn := fun _ => fun
  | [d1, d2] => { results := [.lit (.bool true)], args := [d1, d2] }
  | _ => none }
def fnExactCentreDistanceRow : OpenClaim := { program := "ytmdfhmoipgaliaa", sum := "e04dca2ff9703f1dc0622bdd9d6e8b44bf24d4c0e9ff24e17cb4689b28183071", func := "loop.example/g00921/laws.FnExactCentreDistance", spec := "fnExactCentreDistance", unfollowed := true, recurses := true, apart := false }
def FnExactCentreDistanceSaid : Prop := fnExactCentreDistanceRow.holds Try.pinned (OpenSpec.ofChange fnExactCentreDistanceSpec)

/-- ITS FALSE NEIGHBOUR: 'it returns false'. Refute it at one input. -/
def fnExactCentreDistanceWrong : ChangeSpec := { name := "fnExactCentreDistance", fn := fun _ => fun
  | [d1, d2] => { results := [.lit (.bool false)], args := [d1, d2] }
  | _ => none }
def FnExactCentreDistanceWrongFalsely : Prop := fnExactCentreDistanceRow.holds Try.pinned (OpenSpec.ofChange fnExactCentreDistanceWrong)

/-- 'laws.FnExactThirdPoint': WHATEVER THE INPUT: true; the input reads as it did. -/
def fnExactThirdPointSpec : ChangeSpec := { name := "fnExactThirdPoint", fn := fun _ => fun
  | [d1, d2, d3, d4, d5] => { results := [.lit (.bool true)], args := [d1, d2, d3, d4, d5] }
  | _ => none }
def fnExactThirdPointRow : OpenClaim := { program := "ytmdfhmoipgaliaa", sum := "e04dca2ff9703f1dc0622bdd9d6e8b44bf24d4c0e9ff24e17cb4689b28183071", func := "loop.example/g00921/laws.FnExactThirdPoint", spec := "fnExactThirdPoint", named := ["math/bits.divideError", "math/bits.overflowError"], apart := false }
def FnExactThirdPointSaid : Prop := fnExactThirdPointRow.holds Try.pinned (OpenSpec.ofChange fnExactThirdPointSpec)

/-- ITS FALSE NEIGHBOUR: 'it returns false'. Refute it at one input. -/
def fnExactThirdPointWrong : ChangeSpec := { name := "fnExactThirdPoint", fn := fun _ => fun
  | [d1, d2, d3, d4, d5] => { results := [.lit (.bool false)], args := [d1, d2, d3, d4, d5] }
  | _ => none }
def FnExactThirdPointWrongFalsely : Prop := fnExactThirdPointRow.holds Try.pinned (OpenSpec.ofChange fnExactThirdPointWrong)

/-- 'laws.FnExactClearanceBetween': WHATEVER THE INPUT: true; the input reads as it did. -/
def fnExactClearanceBetweenSpec : ChangeSpec := { name := "fnExactClearanceBetween", fn := fun _ => fun
  | [d1, d2, d3] => { results := [.lit (.bool true)], args := [d1, d2, d3] }
  | _ => none }
def fnExactClearanceBetweenRow : OpenClaim := { program := "ytmdfhmoipgaliaa", sum := "e04dca2ff9703f1dc0622bdd9d6e8b44bf24d4c0e9ff24e17cb4689b28183071", func := "loop.example/g00921/laws.FnExactClearanceBetween", spec := "fnExactClearanceBetween", unfollowed := true, recurses := true, apart := false }
def FnExactClearanceBetweenSaid : Prop := fnExactClearanceBetweenRow.holds Try.pinned (OpenSpec.ofChange fnExactClearanceBetweenSpec)

/-- ITS FALSE NEIGHBOUR: 'it returns false'. Refute it at one input. -/
def fnExactClearanceBetweenWrong : ChangeSpec := { name := "fnExactClearanceBetween", fn := fun _ => fun
  | [d1, d2, d3] => { results := [.lit (.bool false)], args := [d1, d2, d3] }
  | _ => none }
def FnExactClearanceBetweenWrongFalsely : Prop := fnExactClearanceBetweenRow.holds Try.pinned (OpenSpec.ofChange fnExactClearanceBetweenWrong)

/- THE SECOND FORM. 'bulk': how many values and letters a reading holds, each counted each time it is reached (what is shared counts as often as it is met; a slice's spare places count too). A statement '..UptoSaid' is the law's where the arguments, and the package variables that the reading takes, are together of bulk at most 1048576: NARROWER than '..Said'. Prove '..Said' where nothing that the law and all that it calls make is longer than what came in: it says more and counts as full. Else prove '..UptoSaid'. A law counts once. -/
mutual
def uptoBulk {H : Type} : DataW H → Nat
  | .lit (.string bytes) => bytes.length + 1
  | .lit _ => 1
  | .nil => 1
  | .ptr d => uptoBulk d + 1
  | .slice elems spare => uptoBulkAll elems + uptoBulkAll spare + 1
  | .agg parts => uptoBulkAll parts + 1
  | .iface _ d => uptoBulk d + 1
  | .map entries => uptoBulkEntries entries + 1
  | .held _ => 1
def uptoBulkAll {H : Type} : List (DataW H) → Nat
  | [] => 0
  | d :: r => uptoBulk d + uptoBulkAll r
def uptoBulkEntries {H : Type} : List (Lit × DataW H) → Nat
  | [] => 0
  | x :: r => uptoBulkEntry x + uptoBulkEntries r
def uptoBulkEntry {H : Type} : Lit × DataW H → Nat
  | (.string bytes, d) => bytes.length + uptoBulk d + 1
  | (_, d) => uptoBulk d + 1
 end
def uptoSmall : (H : Type) → List (DataW H) → Bool := fun _ ds => decide (uptoBulkAll ds ≤ 1048576)
def OpenSpec.upto (s : _root_.Go.ChangeSpec) : _root_.Go.OpenSpec := { _root_.Go.OpenSpec.ofChange s with cond := some uptoSmall }

/-- 'laws.FnThirdPoints', WHERE WHAT IT READS IS OF BULK AT MOST 1048576: true; the input reads as it did. -/
def fnThirdPointsUptoRow : OpenClaim := { program := "ytmdfhmoipgaliaa", sum := "e04dca2ff9703f1dc0622bdd9d6e8b44bf24d4c0e9ff24e17cb4689b28183071", func := "loop.example/g00921/laws.FnThirdPoints", spec := "fnThirdPoints", named := ["math/bits.divideError", "math/bits.overflowError"], apart := false, narrowed := true }
def FnThirdPointsUptoSaid : Prop := fnThirdPointsUptoRow.holds Try.pinned (OpenSpec.upto fnThirdPointsSpec)

/-- 'laws.FnExactValidPoint', WHERE WHAT IT READS IS OF BULK AT MOST 1048576: true; the input reads as it did. -/
def fnExactValidPointUptoRow : OpenClaim := { program := "ytmdfhmoipgaliaa", sum := "e04dca2ff9703f1dc0622bdd9d6e8b44bf24d4c0e9ff24e17cb4689b28183071", func := "loop.example/g00921/laws.FnExactValidPoint", spec := "fnExactValidPoint", apart := false, narrowed := true }
def FnExactValidPointUptoSaid : Prop := fnExactValidPointUptoRow.holds Try.pinned (OpenSpec.upto fnExactValidPointSpec)

/-- 'laws.FnExactValidPlate', WHERE WHAT IT READS IS OF BULK AT MOST 1048576: true; the input reads as it did. -/
def fnExactValidPlateUptoRow : OpenClaim := { program := "ytmdfhmoipgaliaa", sum := "e04dca2ff9703f1dc0622bdd9d6e8b44bf24d4c0e9ff24e17cb4689b28183071", func := "loop.example/g00921/laws.FnExactValidPlate", spec := "fnExactValidPlate", unfollowed := true, recurses := true, apart := false, narrowed := true }
def FnExactValidPlateUptoSaid : Prop := fnExactValidPlateUptoRow.holds Try.pinned (OpenSpec.upto fnExactValidPlateSpec)

/-- 'laws.FnExactSamePlate', WHERE WHAT IT READS IS OF BULK AT MOST 1048576: true; the input reads as it did. -/
def fnExactSamePlateUptoRow : OpenClaim := { program := "ytmdfhmoipgaliaa", sum := "e04dca2ff9703f1dc0622bdd9d6e8b44bf24d4c0e9ff24e17cb4689b28183071", func := "loop.example/g00921/laws.FnExactSamePlate", spec := "fnExactSamePlate", apart := false, narrowed := true }
def FnExactSamePlateUptoSaid : Prop := fnExactSamePlateUptoRow.holds Try.pinned (OpenSpec.upto fnExactSamePlateSpec)

/-- 'laws.FnExactSquaredDistance', WHERE WHAT IT READS IS OF BULK AT MOST 1048576: true; the input reads as it did. -/
def fnExactSquaredDistanceUptoRow : OpenClaim := { program := "ytmdfhmoipgaliaa", sum := "e04dca2ff9703f1dc0622bdd9d6e8b44bf24d4c0e9ff24e17cb4689b28183071", func := "loop.example/g00921/laws.FnExactSquaredDistance", spec := "fnExactSquaredDistance", apart := false, narrowed := true }
def FnExactSquaredDistanceUptoSaid : Prop := fnExactSquaredDistanceUptoRow.holds Try.pinned (OpenSpec.upto fnExactSquaredDistanceSpec)

/-- 'laws.FnExactCentreDistance', WHERE WHAT IT READS IS OF BULK AT MOST 1048576: true; the input reads as it did. -/
def fnExactCentreDistanceUptoRow : OpenClaim := { program := "ytmdfhmoipgaliaa", sum := "e04dca2ff9703f1dc0622bdd9d6e8b44bf24d4c0e9ff24e17cb4689b28183071", func := "loop.example/g00921/laws.FnExactCentreDistance", spec := "fnExactCentreDistance", unfollowed := true, recurses := true, apart := false, narrowed := true }
def FnExactCentreDistanceUptoSaid : Prop := fnExactCentreDistanceUptoRow.holds Try.pinned (OpenSpec.upto fnExactCentreDistanceSpec)

/-- 'laws.FnExactThirdPoint', WHERE WHAT IT READS IS OF BULK AT MOST 1048576: true; the input reads as it did. -/
def fnExactThirdPointUptoRow : OpenClaim := { program := "ytmdfhmoipgaliaa", sum := "e04dca2ff9703f1dc0622bdd9d6e8b44bf24d4c0e9ff24e17cb4689b28183071", func := "loop.example/g00921/laws.FnExactThirdPoint", spec := "fnExactThirdPoint", named := ["math/bits.divideError", "math/bits.overflowError"], apart := false, narrowed := true }
def FnExactThirdPointUptoSaid : Prop := fnExactThirdPointUptoRow.holds Try.pinned (OpenSpec.upto fnExactThirdPointSpec)

/-- 'laws.FnExactClearanceBetween', WHERE WHAT IT READS IS OF BULK AT MOST 1048576: true; the input reads as it did. -/
def fnExactClearanceBetweenUptoRow : OpenClaim := { program := "ytmdfhmoipgaliaa", sum := "e04dca2ff9703f1dc0622bdd9d6e8b44bf24d4c0e9ff24e17cb4689b28183071", func := "loop.example/g00921/laws.FnExactClearanceBetween", spec := "fnExactClearanceBetween", unfollowed := true, recurses := true, apart := false, narrowed := true }
def FnExactClearanceBetweenUptoSaid : Prop := fnExactClearanceBetweenUptoRow.holds Try.pinned (OpenSpec.upto fnExactClearanceBetweenSpec)

end Rows
end Go.Proofs.Ytmdfhmoipgaliaa

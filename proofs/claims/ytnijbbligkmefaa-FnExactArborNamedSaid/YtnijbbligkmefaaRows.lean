/-
  No cell of these rows narrows 'for every input' (looked for: loops, veiled, ifaces, maps, wideKeys, modest, calm, conditions, laid).
  DERIVED. THE GIVEN ROWS OF THIS SEAT. 8 by the template 'for every input the law returns true; each argument reads behind the call as it read before'; 0 by the template 'total and deterministic' (their statements: YtnijbbligkmefaaTotals.lean).
  GIVEN WITH THE SEED: the statements are not yours to turn. If you find one false, say at which input.
  Laid BY PROGRAM, IN A SANDBOX (cutbox-rows.mjs): the forced cells as the released guide's own fill.sh prints them over the translation a43c3c8417419537… (all of the seat's roots in one cut). By AI agents, Wed Nov 11 2026. No macro, syntax, notation, axiom, sorry.
-/
import Derived.Test.YtnijbbligkmefaaChecked
import GoSem.Claim
import GoSem.ClaimJoined
import GoSem.ClaimMapViews
import Derived.JoinedTies
import Derived.KernelRfl
namespace Go.Proofs.Ytnijbbligkmefaa
/- THE CELL 'sum', in the pinned program and in every row, IS THE sha256 OF THE DUMP (.gsa) THAT YtnijbbligkmefaaProg.lean LOADS. Nothing in Lean hashes anything: it is a label: what it is worth is what the hold of that sum in a sandbox is worth. -/
noncomputable def Try.pinned : Pinned := { name := "ytnijbbligkmefaa", sum := "a43c3c84174195379f83e20c1b15057a1cff1132c7a9d08ba8f72594a713e8e0", checked := Try.checked }
namespace Rows
def none {H : Type} : Left H := { results := [], args := [] }

/-- 'laws.FnExactValidWorks': WHATEVER THE INPUT: true; the input reads as it did. -/
def fnExactValidWorksSpec : ChangeSpec := { name := "fnExactValidWorks", fn := fun _ => fun
  | [d] => { results := [.lit (.bool true)], args := [d] }
  | _ => none }
def fnExactValidWorksRow : OpenClaim := { program := "ytnijbbligkmefaa", sum := "a43c3c84174195379f83e20c1b15057a1cff1132c7a9d08ba8f72594a713e8e0", func := "loop.example/g00921/laws.FnExactValidWorks", spec := "fnExactValidWorks", unfollowed := true, recurses := true, apart := false }
def FnExactValidWorksSaid : Prop := fnExactValidWorksRow.holds Try.pinned (OpenSpec.ofChange fnExactValidWorksSpec)

/-- ITS FALSE NEIGHBOUR: 'it returns false'. Refute it at one input. -/
def fnExactValidWorksWrong : ChangeSpec := { name := "fnExactValidWorks", fn := fun _ => fun
  | [d] => { results := [.lit (.bool false)], args := [d] }
  | _ => none }
def FnExactValidWorksWrongFalsely : Prop := fnExactValidWorksRow.holds Try.pinned (OpenSpec.ofChange fnExactValidWorksWrong)

/-- 'laws.FnExactSameWorks': WHATEVER THE INPUT: true; the input reads as it did. -/
def fnExactSameWorksSpec : ChangeSpec := { name := "fnExactSameWorks", fn := fun _ => fun
  | [d1, d2] => { results := [.lit (.bool true)], args := [d1, d2] }
  | _ => none }
def fnExactSameWorksRow : OpenClaim := { program := "ytnijbbligkmefaa", sum := "a43c3c84174195379f83e20c1b15057a1cff1132c7a9d08ba8f72594a713e8e0", func := "loop.example/g00921/laws.FnExactSameWorks", spec := "fnExactSameWorks", unfollowed := true, recurses := true, apart := false }
def FnExactSameWorksSaid : Prop := fnExactSameWorksRow.holds Try.pinned (OpenSpec.ofChange fnExactSameWorksSpec)

/-- ITS FALSE NEIGHBOUR: 'it returns false'. Refute it at one input. -/
def fnExactSameWorksWrong : ChangeSpec := { name := "fnExactSameWorks", fn := fun _ => fun
  | [d1, d2] => { results := [.lit (.bool false)], args := [d1, d2] }
  | _ => none }
def FnExactSameWorksWrongFalsely : Prop := fnExactSameWorksRow.holds Try.pinned (OpenSpec.ofChange fnExactSameWorksWrong)

/-- 'laws.FnExactAddArbor': WHATEVER THE INPUT: true; the input reads as it did. -/
def fnExactAddArborSpec : ChangeSpec := { name := "fnExactAddArbor", fn := fun _ => fun
  | [d1, d2] => { results := [.lit (.bool true)], args := [d1, d2] }
  | _ => none }
def fnExactAddArborRow : OpenClaim := { program := "ytnijbbligkmefaa", sum := "a43c3c84174195379f83e20c1b15057a1cff1132c7a9d08ba8f72594a713e8e0", func := "loop.example/g00921/laws.FnExactAddArbor", spec := "fnExactAddArbor", unfollowed := true, recurses := true, apart := false }
def FnExactAddArborSaid : Prop := fnExactAddArborRow.holds Try.pinned (OpenSpec.ofChange fnExactAddArborSpec)

/-- ITS FALSE NEIGHBOUR: 'it returns false'. Refute it at one input. -/
def fnExactAddArborWrong : ChangeSpec := { name := "fnExactAddArbor", fn := fun _ => fun
  | [d1, d2] => { results := [.lit (.bool false)], args := [d1, d2] }
  | _ => none }
def FnExactAddArborWrongFalsely : Prop := fnExactAddArborRow.holds Try.pinned (OpenSpec.ofChange fnExactAddArborWrong)

/-- 'laws.FnExactAddMesh': WHATEVER THE INPUT: true; the input reads as it did. -/
def fnExactAddMeshSpec : ChangeSpec := { name := "fnExactAddMesh", fn := fun _ => fun
  | [d1, d2] => { results := [.lit (.bool true)], args := [d1, d2] }
  | _ => none }
def fnExactAddMeshRow : OpenClaim := { program := "ytnijbbligkmefaa", sum := "a43c3c84174195379f83e20c1b15057a1cff1132c7a9d08ba8f72594a713e8e0", func := "loop.example/g00921/laws.FnExactAddMesh", spec := "fnExactAddMesh", unfollowed := true, recurses := true, apart := false }
def FnExactAddMeshSaid : Prop := fnExactAddMeshRow.holds Try.pinned (OpenSpec.ofChange fnExactAddMeshSpec)

/-- ITS FALSE NEIGHBOUR: 'it returns false'. Refute it at one input. -/
def fnExactAddMeshWrong : ChangeSpec := { name := "fnExactAddMesh", fn := fun _ => fun
  | [d1, d2] => { results := [.lit (.bool false)], args := [d1, d2] }
  | _ => none }
def FnExactAddMeshWrongFalsely : Prop := fnExactAddMeshRow.holds Try.pinned (OpenSpec.ofChange fnExactAddMeshWrong)

/-- 'laws.FnExactArborNamed': WHATEVER THE INPUT: true; the input reads as it did. -/
def fnExactArborNamedSpec : ChangeSpec := { name := "fnExactArborNamed", fn := fun _ => fun
  | [d1, d2] => { results := [.lit (.bool true)], args := [d1, d2] }
  | _ => none }
def fnExactArborNamedRow : OpenClaim := { program := "ytnijbbligkmefaa", sum := "a43c3c84174195379f83e20c1b15057a1cff1132c7a9d08ba8f72594a713e8e0", func := "loop.example/g00921/laws.FnExactArborNamed", spec := "fnExactArborNamed", unfollowed := true, recurses := true, apart := false }
def FnExactArborNamedSaid : Prop := fnExactArborNamedRow.holds Try.pinned (OpenSpec.ofChange fnExactArborNamedSpec)

/-- ITS FALSE NEIGHBOUR: 'it returns false'. Refute it at one input. -/
def fnExactArborNamedWrong : ChangeSpec := { name := "fnExactArborNamed", fn := fun _ => fun
  | [d1, d2] => { results := [.lit (.bool false)], args := [d1, d2] }
  | _ => none }
def FnExactArborNamedWrongFalsely : Prop := fnExactArborNamedRow.holds Try.pinned (OpenSpec.ofChange fnExactArborNamedWrong)

/-- 'laws.FnExactPairOf': WHATEVER THE INPUT: true; the input reads as it did. -/
def fnExactPairOfSpec : ChangeSpec := { name := "fnExactPairOf", fn := fun _ => fun
  | [d1, d2] => { results := [.lit (.bool true)], args := [d1, d2] }
  | _ => none }
def fnExactPairOfRow : OpenClaim := { program := "ytnijbbligkmefaa", sum := "a43c3c84174195379f83e20c1b15057a1cff1132c7a9d08ba8f72594a713e8e0", func := "loop.example/g00921/laws.FnExactPairOf", spec := "fnExactPairOf", unfollowed := true, recurses := true, apart := false }
def FnExactPairOfSaid : Prop := fnExactPairOfRow.holds Try.pinned (OpenSpec.ofChange fnExactPairOfSpec)

/-- ITS FALSE NEIGHBOUR: 'it returns false'. Refute it at one input. -/
def fnExactPairOfWrong : ChangeSpec := { name := "fnExactPairOf", fn := fun _ => fun
  | [d1, d2] => { results := [.lit (.bool false)], args := [d1, d2] }
  | _ => none }
def FnExactPairOfWrongFalsely : Prop := fnExactPairOfRow.holds Try.pinned (OpenSpec.ofChange fnExactPairOfWrong)

/-- 'laws.FnExactPathBetween': WHATEVER THE INPUT: true; the input reads as it did. -/
def fnExactPathBetweenSpec : ChangeSpec := { name := "fnExactPathBetween", fn := fun _ => fun
  | [d1, d2, d3] => { results := [.lit (.bool true)], args := [d1, d2, d3] }
  | _ => none }
def fnExactPathBetweenRow : OpenClaim := { program := "ytnijbbligkmefaa", sum := "a43c3c84174195379f83e20c1b15057a1cff1132c7a9d08ba8f72594a713e8e0", func := "loop.example/g00921/laws.FnExactPathBetween", spec := "fnExactPathBetween", unfollowed := true, recurses := true, apart := false }
def FnExactPathBetweenSaid : Prop := fnExactPathBetweenRow.holds Try.pinned (OpenSpec.ofChange fnExactPathBetweenSpec)

/-- ITS FALSE NEIGHBOUR: 'it returns false'. Refute it at one input. -/
def fnExactPathBetweenWrong : ChangeSpec := { name := "fnExactPathBetween", fn := fun _ => fun
  | [d1, d2, d3] => { results := [.lit (.bool false)], args := [d1, d2, d3] }
  | _ => none }
def FnExactPathBetweenWrongFalsely : Prop := fnExactPathBetweenRow.holds Try.pinned (OpenSpec.ofChange fnExactPathBetweenWrong)

/-- 'laws.FnExactTrainBetween': WHATEVER THE INPUT: true; the input reads as it did. -/
def fnExactTrainBetweenSpec : ChangeSpec := { name := "fnExactTrainBetween", fn := fun _ => fun
  | [d1, d2, d3] => { results := [.lit (.bool true)], args := [d1, d2, d3] }
  | _ => none }
def fnExactTrainBetweenRow : OpenClaim := { program := "ytnijbbligkmefaa", sum := "a43c3c84174195379f83e20c1b15057a1cff1132c7a9d08ba8f72594a713e8e0", func := "loop.example/g00921/laws.FnExactTrainBetween", spec := "fnExactTrainBetween", unfollowed := true, recurses := true, apart := false }
def FnExactTrainBetweenSaid : Prop := fnExactTrainBetweenRow.holds Try.pinned (OpenSpec.ofChange fnExactTrainBetweenSpec)

/-- ITS FALSE NEIGHBOUR: 'it returns false'. Refute it at one input. -/
def fnExactTrainBetweenWrong : ChangeSpec := { name := "fnExactTrainBetween", fn := fun _ => fun
  | [d1, d2, d3] => { results := [.lit (.bool false)], args := [d1, d2, d3] }
  | _ => none }
def FnExactTrainBetweenWrongFalsely : Prop := fnExactTrainBetweenRow.holds Try.pinned (OpenSpec.ofChange fnExactTrainBetweenWrong)

/- THE SECOND FORM. 'bulk': how many values and letters a reading holds, each counted each time it is reached (what is shared counts as often as it is met; a slice's spare places count too). A statement '..UptoSaid' is the law's where the arguments, and the package variables that the reading takes, are together of bulk at most 1048576: NARROWER than '..Said'. Prove '..Said' where nothing that the law and all that it calls make is longer than what came in: it says more and counts as full. Else prove '..UptoSaid'. A law counts once. -/
mutual
def uptoBulk {H : Type} : DataW H → Nat
  | .lit (.string bytes) => bytes.length + 1
  | .lit _ => 1
  | .nil => 1
  | .ptr d => uptoBulk d + 1
  | .slice elems spare => uptoBulkAll elems + uptoBulkAll spare + 1
  | .agg parts => uptoBulkAll parts + 1
  | .iface _ d => uptoBulk d + 1
  | .map entries => uptoBulkEntries entries + 1
  | .held _ => 1
def uptoBulkAll {H : Type} : List (DataW H) → Nat
  | [] => 0
  | d :: r => uptoBulk d + uptoBulkAll r
def uptoBulkEntries {H : Type} : List (Lit × DataW H) → Nat
  | [] => 0
  | x :: r => uptoBulkEntry x + uptoBulkEntries r
def uptoBulkEntry {H : Type} : Lit × DataW H → Nat
  | (.string bytes, d) => bytes.length + uptoBulk d + 1
  | (_, d) => uptoBulk d + 1
 end
def uptoSmall : (H : Type) → List (DataW H) → Bool := fun _ ds => decide (uptoBulkAll ds ≤ 1048576)
def OpenSpec.upto (s : _root_.Go.ChangeSpec) : _root_.Go.OpenSpec := { _root_.Go.OpenSpec.ofChange s with cond := some uptoSmall }

/-- 'laws.FnExactValidWorks', WHERE WHAT IT READS IS OF BULK AT MOST 1048576: true; the input reads as it did. -/
def fnExactValidWorksUptoRow : OpenClaim := { program := "ytnijbbligkmefaa", sum := "a43c3c84174195379f83e20c1b15057a1cff1132c7a9d08ba8f72594a713e8e0", func := "loop.example/g00921/laws.FnExactValidWorks", spec := "fnExactValidWorks", unfollowed := true, recurses := true, apart := false, narrowed := true }
def FnExactValidWorksUptoSaid : Prop := fnExactValidWorksUptoRow.holds Try.pinned (OpenSpec.upto fnExactValidWorksSpec)

/-- 'laws.FnExactSameWorks', WHERE WHAT IT READS IS OF BULK AT MOST 1048576: true; the input reads as it did. -/
def fnExactSameWorksUptoRow : OpenClaim := { program := "ytnijbbligkmefaa", sum := "a43c3c84174195379f83e20c1b15057a1cff1132c7a9d08ba8f72594a713e8e0", func := "loop.example/g00921/laws.FnExactSameWorks", spec := "fnExactSameWorks", unfollowed := true, recurses := true, apart := false, narrowed := true }
def FnExactSameWorksUptoSaid : Prop := fnExactSameWorksUptoRow.holds Try.pinned (OpenSpec.upto fnExactSameWorksSpec)

/-- 'laws.FnExactAddArbor', WHERE WHAT IT READS IS OF BULK AT MOST 1048576: true; the input reads as it did. -/
def fnExactAddArborUptoRow : OpenClaim := { program := "ytnijbbligkmefaa", sum := "a43c3c84174195379f83e20c1b15057a1cff1132c7a9d08ba8f72594a713e8e0", func := "loop.example/g00921/laws.FnExactAddArbor", spec := "fnExactAddArbor", unfollowed := true, recurses := true, apart := false, narrowed := true }
def FnExactAddArborUptoSaid : Prop := fnExactAddArborUptoRow.holds Try.pinned (OpenSpec.upto fnExactAddArborSpec)

/-- 'laws.FnExactAddMesh', WHERE WHAT IT READS IS OF BULK AT MOST 1048576: true; the input reads as it did. -/
def fnExactAddMeshUptoRow : OpenClaim := { program := "ytnijbbligkmefaa", sum := "a43c3c84174195379f83e20c1b15057a1cff1132c7a9d08ba8f72594a713e8e0", func := "loop.example/g00921/laws.FnExactAddMesh", spec := "fnExactAddMesh", unfollowed := true, recurses := true, apart := false, narrowed := true }
def FnExactAddMeshUptoSaid : Prop := fnExactAddMeshUptoRow.holds Try.pinned (OpenSpec.upto fnExactAddMeshSpec)

/-- 'laws.FnExactArborNamed', WHERE WHAT IT READS IS OF BULK AT MOST 1048576: true; the input reads as it did. -/
def fnExactArborNamedUptoRow : OpenClaim := { program := "ytnijbbligkmefaa", sum := "a43c3c84174195379f83e20c1b15057a1cff1132c7a9d08ba8f72594a713e8e0", func := "loop.example/g00921/laws.FnExactArborNamed", spec := "fnExactArborNamed", unfollowed := true, recurses := true, apart := false, narrowed := true }
def FnExactArborNamedUptoSaid : Prop := fnExactArborNamedUptoRow.holds Try.pinned (OpenSpec.upto fnExactArborNamedSpec)

/-- 'laws.FnExactPairOf', WHERE WHAT IT READS IS OF BULK AT MOST 1048576: true; the input reads as it did. -/
def fnExactPairOfUptoRow : OpenClaim := { program := "ytnijbbligkmefaa", sum := "a43c3c84174195379f83e20c1b15057a1cff1132c7a9d08ba8f72594a713e8e0", func := "loop.example/g00921/laws.FnExactPairOf", spec := "fnExactPairOf", unfollowed := true, recurses := true, apart := false, narrowed := true }
def FnExactPairOfUptoSaid : Prop := fnExactPairOfUptoRow.holds Try.pinned (OpenSpec.upto fnExactPairOfSpec)

/-- 'laws.FnExactPathBetween', WHERE WHAT IT READS IS OF BULK AT MOST 1048576: true; the input reads as it did. -/
def fnExactPathBetweenUptoRow : OpenClaim := { program := "ytnijbbligkmefaa", sum := "a43c3c84174195379f83e20c1b15057a1cff1132c7a9d08ba8f72594a713e8e0", func := "loop.example/g00921/laws.FnExactPathBetween", spec := "fnExactPathBetween", unfollowed := true, recurses := true, apart := false, narrowed := true }
def FnExactPathBetweenUptoSaid : Prop := fnExactPathBetweenUptoRow.holds Try.pinned (OpenSpec.upto fnExactPathBetweenSpec)

/-- 'laws.FnExactTrainBetween', WHERE WHAT IT READS IS OF BULK AT MOST 1048576: true; the input reads as it did. -/
def fnExactTrainBetweenUptoRow : OpenClaim := { program := "ytnijbbligkmefaa", sum := "a43c3c84174195379f83e20c1b15057a1cff1132c7a9d08ba8f72594a713e8e0", func := "loop.example/g00921/laws.FnExactTrainBetween", spec := "fnExactTrainBetween", unfollowed := true, recurses := true, apart := false, narrowed := true }
def FnExactTrainBetweenUptoSaid : Prop := fnExactTrainBetweenUptoRow.holds Try.pinned (OpenSpec.upto fnExactTrainBetweenSpec)

end Rows
end Go.Proofs.Ytnijbbligkmefaa

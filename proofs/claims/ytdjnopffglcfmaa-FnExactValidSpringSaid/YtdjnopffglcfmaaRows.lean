/-
  No cell of these rows narrows 'for every input' (looked for: loops, veiled, ifaces, maps, wideKeys, modest, calm, conditions, laid).
  DERIVED. THE GIVEN ROWS OF THIS SEAT. 3 by the template 'for every input the law returns true; each argument reads behind the call as it read before'; 0 by the template 'total and deterministic' (their statements: YtdjnopffglcfmaaTotals.lean).
  GIVEN WITH THE SEED: the statements are not yours to turn. If you find one false, say at which input.
  Laid BY PROGRAM, IN A SANDBOX (cutbox-rows.mjs): the forced cells as the released guide's own fill.sh prints them over the translation 8aa88a203699bea8… (all of the seat's roots in one cut). By AI agents, Wed Nov 11 2026. No macro, syntax, notation, axiom, sorry.
-/
import Derived.Test.YtdjnopffglcfmaaChecked
import GoSem.Claim
import GoSem.ClaimJoined
import GoSem.ClaimMapViews
import Derived.JoinedTies
import Derived.KernelRfl
namespace Go.Proofs.Ytdjnopffglcfmaa
/- THE CELL 'sum', in the pinned program and in every row, IS THE sha256 OF THE DUMP (.gsa) THAT YtdjnopffglcfmaaProg.lean LOADS. Nothing in Lean hashes anything: it is a label: what it is worth is what the hold of that sum in a sandbox is worth. -/
noncomputable def Try.pinned : Pinned := { name := "ytdjnopffglcfmaa", sum := "8aa88a203699bea8b1a6211328314f08f4cef615491b08786dbd910453039995", checked := Try.checked }
namespace Rows
def none {H : Type} : Left H := { results := [], args := [] }

/-- 'laws.FnExactValidSpring': WHATEVER THE INPUT: true; the input reads as it did. -/
def fnExactValidSpringSpec : ChangeSpec := { name := "fnExactValidSpring", fn := fun _ => fun
  | [d] => { results := [.lit (.bool true)], args := [d] }
  | _ => none }
def fnExactValidSpringRow : OpenClaim := { program := "ytdjnopffglcfmaa", sum := "8aa88a203699bea8b1a6211328314f08f4cef615491b08786dbd910453039995", func := "loop.example/g00921/laws.FnExactValidSpring", spec := "fnExactValidSpring", apart := false }
def FnExactValidSpringSaid : Prop := fnExactValidSpringRow.holds Try.pinned (OpenSpec.ofChange fnExactValidSpringSpec)

/-- ITS FALSE NEIGHBOUR: 'it returns false'. Refute it at one input. -/
def fnExactValidSpringWrong : ChangeSpec := { name := "fnExactValidSpring", fn := fun _ => fun
  | [d] => { results := [.lit (.bool false)], args := [d] }
  | _ => none }
def FnExactValidSpringWrongFalsely : Prop := fnExactValidSpringRow.holds Try.pinned (OpenSpec.ofChange fnExactValidSpringWrong)

/-- 'laws.FnExactWeightFor': WHATEVER THE INPUT: true; the input reads as it did. -/
def fnExactWeightForSpec : ChangeSpec := { name := "fnExactWeightFor", fn := fun _ => fun
  | [d1, d2] => { results := [.lit (.bool true)], args := [d1, d2] }
  | _ => none }
def fnExactWeightForRow : OpenClaim := { program := "ytdjnopffglcfmaa", sum := "8aa88a203699bea8b1a6211328314f08f4cef615491b08786dbd910453039995", func := "loop.example/g00921/laws.FnExactWeightFor", spec := "fnExactWeightFor", apart := false }
def FnExactWeightForSaid : Prop := fnExactWeightForRow.holds Try.pinned (OpenSpec.ofChange fnExactWeightForSpec)

/-- ITS FALSE NEIGHBOUR: 'it returns false'. Refute it at one input. -/
def fnExactWeightForWrong : ChangeSpec := { name := "fnExactWeightFor", fn := fun _ => fun
  | [d1, d2] => { results := [.lit (.bool false)], args := [d1, d2] }
  | _ => none }
def FnExactWeightForWrongFalsely : Prop := fnExactWeightForRow.holds Try.pinned (OpenSpec.ofChange fnExactWeightForWrong)

/-- 'laws.FnExactDaysOf': WHATEVER THE INPUT: true; the input reads as it did. -/
def fnExactDaysOfSpec : ChangeSpec := { name := "fnExactDaysOf", fn := fun _ => fun
  | [d1, d2] => { results := [.lit (.bool true)], args := [d1, d2] }
  | _ => none }
def fnExactDaysOfRow : OpenClaim := { program := "ytdjnopffglcfmaa", sum := "8aa88a203699bea8b1a6211328314f08f4cef615491b08786dbd910453039995", func := "loop.example/g00921/laws.FnExactDaysOf", spec := "fnExactDaysOf", apart := false }
def FnExactDaysOfSaid : Prop := fnExactDaysOfRow.holds Try.pinned (OpenSpec.ofChange fnExactDaysOfSpec)

/-- ITS FALSE NEIGHBOUR: 'it returns false'. Refute it at one input. -/
def fnExactDaysOfWrong : ChangeSpec := { name := "fnExactDaysOf", fn := fun _ => fun
  | [d1, d2] => { results := [.lit (.bool false)], args := [d1, d2] }
  | _ => none }
def FnExactDaysOfWrongFalsely : Prop := fnExactDaysOfRow.holds Try.pinned (OpenSpec.ofChange fnExactDaysOfWrong)

/- THE SECOND FORM. 'bulk': how many values and letters a reading holds, each counted each time it is reached (what is shared counts as often as it is met; a slice's spare places count too). A statement '..UptoSaid' is the law's where the arguments, and the package variables that the reading takes, are together of bulk at most 1048576: NARROWER than '..Said'. Prove '..Said' where nothing that the law and all that it calls make is longer than what came in: it says more and counts as full. Else prove '..UptoSaid'. A law counts once. -/
mutual
def uptoBulk {H : Type} : DataW H → Nat
  | .lit (.string bytes) => bytes.length + 1
  | .lit _ => 1
  | .nil => 1
  | .ptr d => uptoBulk d + 1
  | .slice elems spare => uptoBulkAll elems + uptoBulkAll spare + 1
  | .agg parts => uptoBulkAll parts + 1
  | .iface _ d => uptoBulk d + 1
  | .map entries => uptoBulkEntries entries + 1
  | .held _ => 1
def uptoBulkAll {H : Type} : List (DataW H) → Nat
  | [] => 0
  | d :: r => uptoBulk d + uptoBulkAll r
def uptoBulkEntries {H : Type} : List (Lit × DataW H) → Nat
  | [] => 0
  | x :: r => uptoBulkEntry x + uptoBulkEntries r
def uptoBulkEntry {H : Type} : Lit × DataW H → Nat
  | (.string bytes, d) => bytes.length + uptoBulk d + 1
  | (_, d) => uptoBulk d + 1
 end
def uptoSmall : (H : Type) → List (DataW H) → Bool := fun _ ds => decide (uptoBulkAll ds ≤ 1048576)
def OpenSpec.upto (s : _root_.Go.ChangeSpec) : _root_.Go.OpenSpec := { _root_.Go.OpenSpec.ofChange s with cond := some uptoSmall }

/-- 'laws.FnExactValidSpring', WHERE WHAT IT READS IS OF BULK AT MOST 1048576: true; the input reads as it did. -/
def fnExactValidSpringUptoRow : OpenClaim := { program := "ytdjnopffglcfmaa", sum := "8aa88a203699bea8b1a6211328314f08f4cef615491b08786dbd910453039995", func := "loop.example/g00921/laws.FnExactValidSpring", spec := "fnExactValidSpring", apart := false, narrowed := true }
def FnExactValidSpringUptoSaid : Prop := fnExactValidSpringUptoRow.holds Try.pinned (OpenSpec.upto fnExactValidSpringSpec)

/-- 'laws.FnExactWeightFor', WHERE WHAT IT READS IS OF BULK AT MOST 1048576: true; the input reads as it did. -/
def fnExactWeightForUptoRow : OpenClaim := { program := "ytdjnopffglcfmaa", sum := "8aa88a203699bea8b1a6211328314f08f4cef615491b08786dbd910453039995", func := "loop.example/g00921/laws.FnExactWeightFor", spec := "fnExactWeightFor", apart := false, narrowed := true }
def FnExactWeightForUptoSaid : Prop := fnExactWeightForUptoRow.holds Try.pinned (OpenSpec.upto fnExactWeightForSpec)

/-- 'laws.FnExactDaysOf', WHERE WHAT IT READS IS OF BULK AT MOST 1048576: true; the input reads as it did. -/
def fnExactDaysOfUptoRow : OpenClaim := { program := "ytdjnopffglcfmaa", sum := "8aa88a203699bea8b1a6211328314f08f4cef615491b08786dbd910453039995", func := "loop.example/g00921/laws.FnExactDaysOf", spec := "fnExactDaysOf", apart := false, narrowed := true }
def FnExactDaysOfUptoSaid : Prop := fnExactDaysOfUptoRow.holds Try.pinned (OpenSpec.upto fnExactDaysOfSpec)

end Rows
end Go.Proofs.Ytdjnopffglcfmaa

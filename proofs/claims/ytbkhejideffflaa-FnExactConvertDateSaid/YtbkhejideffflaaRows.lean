/-
  No cell of these rows narrows 'for every input' (looked for: loops, veiled, ifaces, maps, wideKeys, modest, calm, conditions, laid).
  DERIVED. THE GIVEN ROWS OF THIS SEAT. 8 by the template 'for every input the law returns true; each argument reads behind the call as it read before'; 0 by the template 'total and deterministic' (their statements: YtbkhejideffflaaTotals.lean).
  GIVEN WITH THE SEED: the statements are not yours to turn. If you find one false, say at which input.
  Laid BY PROGRAM, IN A SANDBOX (cutbox-rows.mjs): the forced cells as the released guide's own fill.sh prints them over the translation c7089bd7becde41c… (all of the seat's roots in one cut). By AI agents, Wed Nov 11 2026. No macro, syntax, notation, axiom, sorry.
-/
import Derived.Test.YtbkhejideffflaaChecked
import GoSem.Claim
import GoSem.ClaimJoined
import GoSem.ClaimMapViews
import Derived.JoinedTies
import Derived.KernelRfl
namespace Go.Proofs.Ytbkhejideffflaa
/- THE CELL 'sum', in the pinned program and in every row, IS THE sha256 OF THE DUMP (.gsa) THAT YtbkhejideffflaaProg.lean LOADS. Nothing in Lean hashes anything: it is a label: what it is worth is what the hold of that sum in a sandbox is worth. -/
noncomputable def Try.pinned : Pinned := { name := "ytbkhejideffflaa", sum := "c7089bd7becde41c2103db2586cc87a7c7b02136f91ac15e97ed88ed71429fc3", checked := Try.checked }
namespace Rows
def none {H : Type} : Left H := { results := [], args := [] }

/-- 'laws.FnExactValidDate': WHATEVER THE INPUT: true; the input reads as it did. -/
def fnExactValidDateSpec : ChangeSpec := { name := "fnExactValidDate", fn := fun _ => fun
  | [d1, d2] => { results := [.lit (.bool true)], args := [d1, d2] }
  | _ => none }
def fnExactValidDateRow : OpenClaim := { program := "ytbkhejideffflaa", sum := "c7089bd7becde41c2103db2586cc87a7c7b02136f91ac15e97ed88ed71429fc3", func := "loop.example/g00921/laws.FnExactValidDate", spec := "fnExactValidDate", unfollowed := true, recurses := true, plainKeys := false, apart := false }
def FnExactValidDateSaid : Prop := fnExactValidDateRow.holds Try.pinned (OpenSpec.ofChange fnExactValidDateSpec)

/-- ITS FALSE NEIGHBOUR: 'it returns false'. Refute it at one input. -/
def fnExactValidDateWrong : ChangeSpec := { name := "fnExactValidDate", fn := fun _ => fun
  | [d1, d2] => { results := [.lit (.bool false)], args := [d1, d2] }
  | _ => none }
def FnExactValidDateWrongFalsely : Prop := fnExactValidDateRow.holds Try.pinned (OpenSpec.ofChange fnExactValidDateWrong)

/-- 'laws.FnExactDayOf': WHATEVER THE INPUT: true; the input reads as it did. -/
def fnExactDayOfSpec : ChangeSpec := { name := "fnExactDayOf", fn := fun _ => fun
  | [d1, d2] => { results := [.lit (.bool true)], args := [d1, d2] }
  | _ => none }
def fnExactDayOfRow : OpenClaim := { program := "ytbkhejideffflaa", sum := "c7089bd7becde41c2103db2586cc87a7c7b02136f91ac15e97ed88ed71429fc3", func := "loop.example/g00921/laws.FnExactDayOf", spec := "fnExactDayOf", unfollowed := true, recurses := true, plainKeys := false, apart := false }
def FnExactDayOfSaid : Prop := fnExactDayOfRow.holds Try.pinned (OpenSpec.ofChange fnExactDayOfSpec)

/-- ITS FALSE NEIGHBOUR: 'it returns false'. Refute it at one input. -/
def fnExactDayOfWrong : ChangeSpec := { name := "fnExactDayOf", fn := fun _ => fun
  | [d1, d2] => { results := [.lit (.bool false)], args := [d1, d2] }
  | _ => none }
def FnExactDayOfWrongFalsely : Prop := fnExactDayOfRow.holds Try.pinned (OpenSpec.ofChange fnExactDayOfWrong)

/-- 'laws.FnExactDateOf': WHATEVER THE INPUT: true; the input reads as it did. -/
def fnExactDateOfSpec : ChangeSpec := { name := "fnExactDateOf", fn := fun _ => fun
  | [d1, d2] => { results := [.lit (.bool true)], args := [d1, d2] }
  | _ => none }
def fnExactDateOfRow : OpenClaim := { program := "ytbkhejideffflaa", sum := "c7089bd7becde41c2103db2586cc87a7c7b02136f91ac15e97ed88ed71429fc3", func := "loop.example/g00921/laws.FnExactDateOf", spec := "fnExactDateOf", unfollowed := true, recurses := true, plainKeys := false, apart := false }
def FnExactDateOfSaid : Prop := fnExactDateOfRow.holds Try.pinned (OpenSpec.ofChange fnExactDateOfSpec)

/-- ITS FALSE NEIGHBOUR: 'it returns false'. Refute it at one input. -/
def fnExactDateOfWrong : ChangeSpec := { name := "fnExactDateOf", fn := fun _ => fun
  | [d1, d2] => { results := [.lit (.bool false)], args := [d1, d2] }
  | _ => none }
def FnExactDateOfWrongFalsely : Prop := fnExactDateOfRow.holds Try.pinned (OpenSpec.ofChange fnExactDateOfWrong)

/-- 'laws.FnExactAddDays': WHATEVER THE INPUT: true; the input reads as it did. -/
def fnExactAddDaysSpec : ChangeSpec := { name := "fnExactAddDays", fn := fun _ => fun
  | [d1, d2, d3] => { results := [.lit (.bool true)], args := [d1, d2, d3] }
  | _ => none }
def fnExactAddDaysRow : OpenClaim := { program := "ytbkhejideffflaa", sum := "c7089bd7becde41c2103db2586cc87a7c7b02136f91ac15e97ed88ed71429fc3", func := "loop.example/g00921/laws.FnExactAddDays", spec := "fnExactAddDays", unfollowed := true, recurses := true, plainKeys := false, apart := false }
def FnExactAddDaysSaid : Prop := fnExactAddDaysRow.holds Try.pinned (OpenSpec.ofChange fnExactAddDaysSpec)

/-- ITS FALSE NEIGHBOUR: 'it returns false'. Refute it at one input. -/
def fnExactAddDaysWrong : ChangeSpec := { name := "fnExactAddDays", fn := fun _ => fun
  | [d1, d2, d3] => { results := [.lit (.bool false)], args := [d1, d2, d3] }
  | _ => none }
def FnExactAddDaysWrongFalsely : Prop := fnExactAddDaysRow.holds Try.pinned (OpenSpec.ofChange fnExactAddDaysWrong)

/-- 'laws.FnExactDaysBetween': WHATEVER THE INPUT: true; the input reads as it did. -/
def fnExactDaysBetweenSpec : ChangeSpec := { name := "fnExactDaysBetween", fn := fun _ => fun
  | [d1, d2, d3] => { results := [.lit (.bool true)], args := [d1, d2, d3] }
  | _ => none }
def fnExactDaysBetweenRow : OpenClaim := { program := "ytbkhejideffflaa", sum := "c7089bd7becde41c2103db2586cc87a7c7b02136f91ac15e97ed88ed71429fc3", func := "loop.example/g00921/laws.FnExactDaysBetween", spec := "fnExactDaysBetween", unfollowed := true, recurses := true, plainKeys := false, apart := false }
def FnExactDaysBetweenSaid : Prop := fnExactDaysBetweenRow.holds Try.pinned (OpenSpec.ofChange fnExactDaysBetweenSpec)

/-- ITS FALSE NEIGHBOUR: 'it returns false'. Refute it at one input. -/
def fnExactDaysBetweenWrong : ChangeSpec := { name := "fnExactDaysBetween", fn := fun _ => fun
  | [d1, d2, d3] => { results := [.lit (.bool false)], args := [d1, d2, d3] }
  | _ => none }
def FnExactDaysBetweenWrongFalsely : Prop := fnExactDaysBetweenRow.holds Try.pinned (OpenSpec.ofChange fnExactDaysBetweenWrong)

/-- 'laws.FnExactWeekdayOf': WHATEVER THE INPUT: true; the input reads as it did. -/
def fnExactWeekdayOfSpec : ChangeSpec := { name := "fnExactWeekdayOf", fn := fun _ => fun
  | [d1, d2, d3] => { results := [.lit (.bool true)], args := [d1, d2, d3] }
  | _ => none }
def fnExactWeekdayOfRow : OpenClaim := { program := "ytbkhejideffflaa", sum := "c7089bd7becde41c2103db2586cc87a7c7b02136f91ac15e97ed88ed71429fc3", func := "loop.example/g00921/laws.FnExactWeekdayOf", spec := "fnExactWeekdayOf", unfollowed := true, recurses := true, plainKeys := false, apart := false }
def FnExactWeekdayOfSaid : Prop := fnExactWeekdayOfRow.holds Try.pinned (OpenSpec.ofChange fnExactWeekdayOfSpec)

/-- ITS FALSE NEIGHBOUR: 'it returns false'. Refute it at one input. -/
def fnExactWeekdayOfWrong : ChangeSpec := { name := "fnExactWeekdayOf", fn := fun _ => fun
  | [d1, d2, d3] => { results := [.lit (.bool false)], args := [d1, d2, d3] }
  | _ => none }
def FnExactWeekdayOfWrongFalsely : Prop := fnExactWeekdayOfRow.holds Try.pinned (OpenSpec.ofChange fnExactWeekdayOfWrong)

/-- 'laws.FnExactConvertDate': WHATEVER THE INPUT: true; the input reads as it did. -/
def fnExactConvertDateSpec : ChangeSpec := { name := "fnExactConvertDate", fn := fun _ => fun
  | [d1, d2, d3, d4] => { results := [.lit (.bool true)], args := [d1, d2, d3, d4] }
  | _ => none }
def fnExactConvertDateRow : OpenClaim := { program := "ytbkhejideffflaa", sum := "c7089bd7becde41c2103db2586cc87a7c7b02136f91ac15e97ed88ed71429fc3", func := "loop.example/g00921/laws.FnExactConvertDate", spec := "fnExactConvertDate", unfollowed := true, recurses := true, plainKeys := false, apart := false }
def FnExactConvertDateSaid : Prop := fnExactConvertDateRow.holds Try.pinned (OpenSpec.ofChange fnExactConvertDateSpec)

/-- ITS FALSE NEIGHBOUR: 'it returns false'. Refute it at one input. -/
def fnExactConvertDateWrong : ChangeSpec := { name := "fnExactConvertDate", fn := fun _ => fun
  | [d1, d2, d3, d4] => { results := [.lit (.bool false)], args := [d1, d2, d3, d4] }
  | _ => none }
def FnExactConvertDateWrongFalsely : Prop := fnExactConvertDateRow.holds Try.pinned (OpenSpec.ofChange fnExactConvertDateWrong)

/-- 'laws.FnConvert': WHATEVER THE INPUT: true; the input reads as it did. -/
def fnConvertSpec : ChangeSpec := { name := "fnConvert", fn := fun _ => fun
  | [d1, d2] => { results := [.lit (.bool true)], args := [d1, d2] }
  | _ => none }
def fnConvertRow : OpenClaim := { program := "ytbkhejideffflaa", sum := "c7089bd7becde41c2103db2586cc87a7c7b02136f91ac15e97ed88ed71429fc3", func := "loop.example/g00921/laws.FnConvert", spec := "fnConvert", unfollowed := true, recurses := true, plainKeys := false, apart := false }
def FnConvertSaid : Prop := fnConvertRow.holds Try.pinned (OpenSpec.ofChange fnConvertSpec)

/-- ITS FALSE NEIGHBOUR: 'it returns false'. Refute it at one input. -/
def fnConvertWrong : ChangeSpec := { name := "fnConvert", fn := fun _ => fun
  | [d1, d2] => { results := [.lit (.bool false)], args := [d1, d2] }
  | _ => none }
def FnConvertWrongFalsely : Prop := fnConvertRow.holds Try.pinned (OpenSpec.ofChange fnConvertWrong)

/- THE SECOND FORM. 'bulk': how many values and letters a reading holds, each counted each time it is reached (what is shared counts as often as it is met; a slice's spare places count too). A statement '..UptoSaid' is the law's where the arguments, and the package variables that the reading takes, are together of bulk at most 1048576: NARROWER than '..Said'. Prove '..Said' where nothing that the law and all that it calls make is longer than what came in: it says more and counts as full. Else prove '..UptoSaid'. A law counts once. -/
mutual
def uptoBulk {H : Type} : DataW H → Nat
  | .lit (.string bytes) => bytes.length + 1
  | .lit _ => 1
  | .nil => 1
  | .ptr d => uptoBulk d + 1
  | .slice elems spare => uptoBulkAll elems + uptoBulkAll spare + 1
  | .agg parts => uptoBulkAll parts + 1
  | .iface _ d => uptoBulk d + 1
  | .map entries => uptoBulkEntries entries + 1
  | .held _ => 1
def uptoBulkAll {H : Type} : List (DataW H) → Nat
  | [] => 0
  | d :: r => uptoBulk d + uptoBulkAll r
def uptoBulkEntries {H : Type} : List (Lit × DataW H) → Nat
  | [] => 0
  | x :: r => uptoBulkEntry x + uptoBulkEntries r
def uptoBulkEntry {H : Type} : Lit × DataW H → Nat
  | (.string bytes, d) => bytes.length + uptoBulk d + 1
  | (_, d) => uptoBulk d + 1
 end
def uptoSmall : (H : Type) → List (DataW H) → Bool := fun _ ds => decide (uptoBulkAll ds ≤ 1048576)
def OpenSpec.upto (s : _root_.Go.ChangeSpec) : _root_.Go.OpenSpec := { _root_.Go.OpenSpec.ofChange s with cond := some uptoSmall }

/-- 'laws.FnExactValidDate', WHERE WHAT IT READS IS OF BULK AT MOST 1048576: true; the input reads as it did. -/
def fnExactValidDateUptoRow : OpenClaim := { program := "ytbkhejideffflaa", sum := "c7089bd7becde41c2103db2586cc87a7c7b02136f91ac15e97ed88ed71429fc3", func := "loop.example/g00921/laws.FnExactValidDate", spec := "fnExactValidDate", unfollowed := true, recurses := true, plainKeys := false, apart := false, narrowed := true }
def FnExactValidDateUptoSaid : Prop := fnExactValidDateUptoRow.holds Try.pinned (OpenSpec.upto fnExactValidDateSpec)

/-- 'laws.FnExactDayOf', WHERE WHAT IT READS IS OF BULK AT MOST 1048576: true; the input reads as it did. -/
def fnExactDayOfUptoRow : OpenClaim := { program := "ytbkhejideffflaa", sum := "c7089bd7becde41c2103db2586cc87a7c7b02136f91ac15e97ed88ed71429fc3", func := "loop.example/g00921/laws.FnExactDayOf", spec := "fnExactDayOf", unfollowed := true, recurses := true, plainKeys := false, apart := false, narrowed := true }
def FnExactDayOfUptoSaid : Prop := fnExactDayOfUptoRow.holds Try.pinned (OpenSpec.upto fnExactDayOfSpec)

/-- 'laws.FnExactDateOf', WHERE WHAT IT READS IS OF BULK AT MOST 1048576: true; the input reads as it did. -/
def fnExactDateOfUptoRow : OpenClaim := { program := "ytbkhejideffflaa", sum := "c7089bd7becde41c2103db2586cc87a7c7b02136f91ac15e97ed88ed71429fc3", func := "loop.example/g00921/laws.FnExactDateOf", spec := "fnExactDateOf", unfollowed := true, recurses := true, plainKeys := false, apart := false, narrowed := true }
def FnExactDateOfUptoSaid : Prop := fnExactDateOfUptoRow.holds Try.pinned (OpenSpec.upto fnExactDateOfSpec)

/-- 'laws.FnExactAddDays', WHERE WHAT IT READS IS OF BULK AT MOST 1048576: true; the input reads as it did. -/
def fnExactAddDaysUptoRow : OpenClaim := { program := "ytbkhejideffflaa", sum := "c7089bd7becde41c2103db2586cc87a7c7b02136f91ac15e97ed88ed71429fc3", func := "loop.example/g00921/laws.FnExactAddDays", spec := "fnExactAddDays", unfollowed := true, recurses := true, plainKeys := false, apart := false, narrowed := true }
def FnExactAddDaysUptoSaid : Prop := fnExactAddDaysUptoRow.holds Try.pinned (OpenSpec.upto fnExactAddDaysSpec)

/-- 'laws.FnExactDaysBetween', WHERE WHAT IT READS IS OF BULK AT MOST 1048576: true; the input reads as it did. -/
def fnExactDaysBetweenUptoRow : OpenClaim := { program := "ytbkhejideffflaa", sum := "c7089bd7becde41c2103db2586cc87a7c7b02136f91ac15e97ed88ed71429fc3", func := "loop.example/g00921/laws.FnExactDaysBetween", spec := "fnExactDaysBetween", unfollowed := true, recurses := true, plainKeys := false, apart := false, narrowed := true }
def FnExactDaysBetweenUptoSaid : Prop := fnExactDaysBetweenUptoRow.holds Try.pinned (OpenSpec.upto fnExactDaysBetweenSpec)

/-- 'laws.FnExactWeekdayOf', WHERE WHAT IT READS IS OF BULK AT MOST 1048576: true; the input reads as it did. -/
def fnExactWeekdayOfUptoRow : OpenClaim := { program := "ytbkhejideffflaa", sum := "c7089bd7becde41c2103db2586cc87a7c7b02136f91ac15e97ed88ed71429fc3", func := "loop.example/g00921/laws.FnExactWeekdayOf", spec := "fnExactWeekdayOf", unfollowed := true, recurses := true, plainKeys := false, apart := false, narrowed := true }
def FnExactWeekdayOfUptoSaid : Prop := fnExactWeekdayOfUptoRow.holds Try.pinned (OpenSpec.upto fnExactWeekdayOfSpec)

/-- 'laws.FnExactConvertDate', WHERE WHAT IT READS IS OF BULK AT MOST 1048576: true; the input reads as it did. -/
def fnExactConvertDateUptoRow : OpenClaim := { program := "ytbkhejideffflaa", sum := "c7089bd7becde41c2103db2586cc87a7c7b02136f91ac15e97ed88ed71429fc3", func := "loop.example/g00921/laws.FnExactConvertDate", spec := "fnExactConvertDate", unfollowed := true, recurses := true, plainKeys := false, apart := false, narrowed := true }
def FnExactConvertDateUptoSaid : Prop := fnExactConvertDateUptoRow.holds Try.pinned (OpenSpec.upto fnExactConvertDateSpec)

/-- 'laws.FnConvert', WHERE WHAT IT READS IS OF BULK AT MOST 1048576: true; the input reads as it did. -/
def fnConvertUptoRow : OpenClaim := { program := "ytbkhejideffflaa", sum := "c7089bd7becde41c2103db2586cc87a7c7b02136f91ac15e97ed88ed71429fc3", func := "loop.example/g00921/laws.FnConvert", spec := "fnConvert", unfollowed := true, recurses := true, plainKeys := false, apart := false, narrowed := true }
def FnConvertUptoSaid : Prop := fnConvertUptoRow.holds Try.pinned (OpenSpec.upto fnConvertSpec)

end Rows
end Go.Proofs.Ytbkhejideffflaa

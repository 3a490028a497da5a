/-
  NARROWER THAN 'FOR EVERY INPUT', by the rows' own cells (each row's printed sentence says how): FnSwings: ifaces, laid · FnExactWheelTurns: ifaces, laid.
  DERIVED. THE GIVEN ROWS OF THIS SEAT. 2 by the template 'for every input the law returns true; each argument reads behind the call as it read before'; 0 by the template 'total and deterministic' (their statements: YtkagciekoeaijaaDoorTotals.lean).
  GIVEN WITH THE SEED: the statements are not yours to turn. If you find one false, say at which input.
  Laid BY PROGRAM, IN A SANDBOX (cutbox-rows.mjs): the forced cells as the released guide's own fill.sh prints them over the translation df6acb20a1eb470d… (all of the seat's roots in one cut). By AI agents, Wed Nov 11 2026. No macro, syntax, notation, axiom, sorry.
-/
import Derived.Test.YtkagciekoeaijaaDoorChecked
import GoSem.Claim
import GoSem.ClaimJoined
import GoSem.ClaimMapViews
import Derived.JoinedTies
import Derived.KernelRfl
namespace Go.Proofs.YtkagciekoeaijaaDoor
/- THE CELL 'sum', in the pinned program and in every row, IS THE sha256 OF THE DUMP (.gsa) THAT YtkagciekoeaijaaDoorProg.lean LOADS. Nothing in Lean hashes anything: it is a label: what it is worth is what the hold of that sum in a sandbox is worth. -/
noncomputable def Tryd.pinned : Pinned := { name := "ytkagciekoeaijaadoor", sum := "df6acb20a1eb470db90bed9fadac54abf105c89ba52f902269b3ccb601ae636d", checked := Tryd.checked }
namespace Rows
def none {H : Type} : Left H := { results := [], args := [] }

/- WHAT THE LISTED PACKAGE-LEVEL VARIABLES READ AS WHEN THE CALL BEGINS. Each datum BY PROGRAM (the guide's laid-datum.mjs) off the statement by which the dump's own 'gosem.cut.vars' lays the variable. In a bare row this is a premise. The card (YtkagciekoeaijaaDoorCards.lean) ties it to the program's text. -/
def laid_loop_example_g00921_impl_errNoDivisor {H : Type} : DataW H := .iface "*errors.errorString" (.ptr (.agg [.lit (.string [100, 105, 118, 105, 115, 105, 111, 110, 32, 98, 121, 32, 122, 101, 114, 111])]))
def laid_loop_example_g00921_impl_errTermRange {H : Type} : DataW H := .iface "*errors.errorString" (.ptr (.agg [.lit (.string [116, 101, 114, 109, 32, 111, 117, 116, 32, 111, 102, 32, 114, 97, 110, 103, 101])]))

/-- 'laws.FnSwings': WHATEVER THE INPUT: true; the input reads as it did. -/
def fnSwingsSpec : ChangeSpec := { name := "fnSwings", vars := ["loop.example/g00921/impl.errNoDivisor", "loop.example/g00921/impl.errTermRange"], fn := fun _ => fun
  | [d, g1, g2] => { results := [.lit (.bool true)], args := [d], vars := [g1, g2] }
  | _ => none }
def fnSwingsRow : OpenClaim := { program := "ytkagciekoeaijaadoor", sum := "df6acb20a1eb470db90bed9fadac54abf105c89ba52f902269b3ccb601ae636d", func := "loop.example/g00921/laws.FnSwings", spec := "fnSwings", inPlace := ["internal/reflectlite.TypeOf"], unfollowed := true, recurses := true, named := ["loop.example/g00921/impl.errNoDivisor", "loop.example/g00921/impl.errTermRange"], ifaces := true, apart := false, laid := [("loop.example/g00921/impl.errNoDivisor", laid_loop_example_g00921_impl_errNoDivisor), ("loop.example/g00921/impl.errTermRange", laid_loop_example_g00921_impl_errTermRange)] }
def FnSwingsSaid : Prop := fnSwingsRow.holds Tryd.pinned (OpenSpec.ofChange fnSwingsSpec)

/-- ITS FALSE NEIGHBOUR: 'it returns false'. Refute it at one input. -/
def fnSwingsWrong : ChangeSpec := { name := "fnSwings", vars := ["loop.example/g00921/impl.errNoDivisor", "loop.example/g00921/impl.errTermRange"], fn := fun _ => fun
  | [d, g1, g2] => { results := [.lit (.bool false)], args := [d], vars := [g1, g2] }
  | _ => none }
def FnSwingsWrongFalsely : Prop := fnSwingsRow.holds Tryd.pinned (OpenSpec.ofChange fnSwingsWrong)

/-- 'laws.FnExactWheelTurns': WHATEVER THE INPUT: true; the input reads as it did. -/
def fnExactWheelTurnsSpec : ChangeSpec := { name := "fnExactWheelTurns", vars := ["loop.example/g00921/impl.errNoDivisor", "loop.example/g00921/impl.errTermRange"], fn := fun _ => fun
  | [d1, d2, g1, g2] => { results := [.lit (.bool true)], args := [d1, d2], vars := [g1, g2] }
  | _ => none }
def fnExactWheelTurnsRow : OpenClaim := { program := "ytkagciekoeaijaadoor", sum := "df6acb20a1eb470db90bed9fadac54abf105c89ba52f902269b3ccb601ae636d", func := "loop.example/g00921/laws.FnExactWheelTurns", spec := "fnExactWheelTurns", inPlace := ["internal/reflectlite.TypeOf"], unfollowed := true, recurses := true, named := ["loop.example/g00921/impl.errNoDivisor", "loop.example/g00921/impl.errTermRange"], ifaces := true, apart := false, laid := [("loop.example/g00921/impl.errNoDivisor", laid_loop_example_g00921_impl_errNoDivisor), ("loop.example/g00921/impl.errTermRange", laid_loop_example_g00921_impl_errTermRange)] }
def FnExactWheelTurnsSaid : Prop := fnExactWheelTurnsRow.holds Tryd.pinned (OpenSpec.ofChange fnExactWheelTurnsSpec)

/-- ITS FALSE NEIGHBOUR: 'it returns false'. Refute it at one input. -/
def fnExactWheelTurnsWrong : ChangeSpec := { name := "fnExactWheelTurns", vars := ["loop.example/g00921/impl.errNoDivisor", "loop.example/g00921/impl.errTermRange"], fn := fun _ => fun
  | [d1, d2, g1, g2] => { results := [.lit (.bool false)], args := [d1, d2], vars := [g1, g2] }
  | _ => none }
def FnExactWheelTurnsWrongFalsely : Prop := fnExactWheelTurnsRow.holds Tryd.pinned (OpenSpec.ofChange fnExactWheelTurnsWrong)

/- THE SECOND FORM. 'bulk': how many values and letters a reading holds, each counted each time it is reached (what is shared counts as often as it is met; a slice's spare places count too). A statement '..UptoSaid' is the law's where the arguments, and the package variables that the reading takes, are together of bulk at most 1048576: NARROWER than '..Said'. Prove '..Said' where nothing that the law and all that it calls make is longer than what came in: it says more and counts as full. Else prove '..UptoSaid'. A law counts once. -/
mutual
def uptoBulk {H : Type} : DataW H → Nat
  | .lit (.string bytes) => bytes.length + 1
  | .lit _ => 1
  | .nil => 1
  | .ptr d => uptoBulk d + 1
  | .slice elems spare => uptoBulkAll elems + uptoBulkAll spare + 1
  | .agg parts => uptoBulkAll parts + 1
  | .iface _ d => uptoBulk d + 1
  | .map entries => uptoBulkEntries entries + 1
  | .held _ => 1
def uptoBulkAll {H : Type} : List (DataW H) → Nat
  | [] => 0
  | d :: r => uptoBulk d + uptoBulkAll r
def uptoBulkEntries {H : Type} : List (Lit × DataW H) → Nat
  | [] => 0
  | x :: r => uptoBulkEntry x + uptoBulkEntries r
def uptoBulkEntry {H : Type} : Lit × DataW H → Nat
  | (.string bytes, d) => bytes.length + uptoBulk d + 1
  | (_, d) => uptoBulk d + 1
 end
def uptoSmall : (H : Type) → List (DataW H) → Bool := fun _ ds => decide (uptoBulkAll ds ≤ 1048576)
def OpenSpec.upto (s : _root_.Go.ChangeSpec) : _root_.Go.OpenSpec := { _root_.Go.OpenSpec.ofChange s with cond := some uptoSmall }

/-- 'laws.FnSwings', WHERE WHAT IT READS IS OF BULK AT MOST 1048576: true; the input reads as it did. -/
def fnSwingsUptoRow : OpenClaim := { program := "ytkagciekoeaijaadoor", sum := "df6acb20a1eb470db90bed9fadac54abf105c89ba52f902269b3ccb601ae636d", func := "loop.example/g00921/laws.FnSwings", spec := "fnSwings", inPlace := ["internal/reflectlite.TypeOf"], unfollowed := true, recurses := true, named := ["loop.example/g00921/impl.errNoDivisor", "loop.example/g00921/impl.errTermRange"], ifaces := true, apart := false, laid := [("loop.example/g00921/impl.errNoDivisor", laid_loop_example_g00921_impl_errNoDivisor), ("loop.example/g00921/impl.errTermRange", laid_loop_example_g00921_impl_errTermRange)], narrowed := true }
def FnSwingsUptoSaid : Prop := fnSwingsUptoRow.holds Tryd.pinned (OpenSpec.upto fnSwingsSpec)

/-- 'laws.FnExactWheelTurns', WHERE WHAT IT READS IS OF BULK AT MOST 1048576: true; the input reads as it did. -/
def fnExactWheelTurnsUptoRow : OpenClaim := { program := "ytkagciekoeaijaadoor", sum := "df6acb20a1eb470db90bed9fadac54abf105c89ba52f902269b3ccb601ae636d", func := "loop.example/g00921/laws.FnExactWheelTurns", spec := "fnExactWheelTurns", inPlace := ["internal/reflectlite.TypeOf"], unfollowed := true, recurses := true, named := ["loop.example/g00921/impl.errNoDivisor", "loop.example/g00921/impl.errTermRange"], ifaces := true, apart := false, laid := [("loop.example/g00921/impl.errNoDivisor", laid_loop_example_g00921_impl_errNoDivisor), ("loop.example/g00921/impl.errTermRange", laid_loop_example_g00921_impl_errTermRange)], narrowed := true }
def FnExactWheelTurnsUptoSaid : Prop := fnExactWheelTurnsUptoRow.holds Tryd.pinned (OpenSpec.upto fnExactWheelTurnsSpec)

end Rows
end Go.Proofs.YtkagciekoeaijaaDoor

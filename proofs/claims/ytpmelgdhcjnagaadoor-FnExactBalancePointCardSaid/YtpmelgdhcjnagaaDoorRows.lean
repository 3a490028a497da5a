/-
  NARROWER THAN 'FOR EVERY INPUT', by the rows' own cells (each row's printed sentence says how): FnExactMeanTemp: ifaces, laid · FnExactBalancePoint: ifaces, laid · FnMergedSegments: ifaces, laid · FnBalance: ifaces, laid.
  DERIVED. THE GIVEN ROWS OF THIS SEAT. 4 by the template 'for every input the law returns true; each argument reads behind the call as it read before'; 0 by the template 'total and deterministic' (their statements: YtpmelgdhcjnagaaDoorTotals.lean).
  GIVEN WITH THE SEED: the statements are not yours to turn. If you find one false, say at which input.
  Laid BY PROGRAM, IN A SANDBOX (cutbox-rows.mjs): the forced cells as the released guide's own fill.sh prints them over the translation 72417f693ae6cd7b… (all of the seat's roots in one cut). By AI agents, Wed Nov 11 2026. No macro, syntax, notation, axiom, sorry.
-/
import Derived.Test.YtpmelgdhcjnagaaDoorChecked
import GoSem.Claim
import GoSem.ClaimJoined
import GoSem.ClaimMapViews
import Derived.JoinedTies
import Derived.KernelRfl
namespace Go.Proofs.YtpmelgdhcjnagaaDoor
/- THE CELL 'sum', in the pinned program and in every row, IS THE sha256 OF THE DUMP (.gsa) THAT YtpmelgdhcjnagaaDoorProg.lean LOADS. Nothing in Lean hashes anything: it is a label: what it is worth is what the hold of that sum in a sandbox is worth. -/
noncomputable def Tryd.pinned : Pinned := { name := "ytpmelgdhcjnagaadoor", sum := "72417f693ae6cd7b31930947a8a29e5668a2ad689e5ea3d3fc8b3c56eb9450c3", checked := Tryd.checked }
namespace Rows
def none {H : Type} : Left H := { results := [], args := [] }

/- WHAT THE LISTED PACKAGE-LEVEL VARIABLES READ AS WHEN THE CALL BEGINS. Each datum BY PROGRAM (the guide's laid-datum.mjs) off the statement by which the dump's own 'gosem.cut.vars' lays the variable. In a bare row this is a premise. The card (YtpmelgdhcjnagaaDoorCards.lean) ties it to the program's text. -/
def laid_loop_example_g00921_impl_errNoDivisor {H : Type} : DataW H := .iface "*errors.errorString" (.ptr (.agg [.lit (.string [100, 105, 118, 105, 115, 105, 111, 110, 32, 98, 121, 32, 122, 101, 114, 111])]))
def laid_loop_example_g00921_impl_errTermRange {H : Type} : DataW H := .iface "*errors.errorString" (.ptr (.agg [.lit (.string [116, 101, 114, 109, 32, 111, 117, 116, 32, 111, 102, 32, 114, 97, 110, 103, 101])]))

/-- 'laws.FnExactMeanTemp': WHATEVER THE INPUT: true; the input reads as it did. -/
def fnExactMeanTempSpec : ChangeSpec := { name := "fnExactMeanTemp", vars := ["loop.example/g00921/impl.errNoDivisor", "loop.example/g00921/impl.errTermRange"], fn := fun _ => fun
  | [d, g1, g2] => { results := [.lit (.bool true)], args := [d], vars := [g1, g2] }
  | _ => none }
def fnExactMeanTempRow : OpenClaim := { program := "ytpmelgdhcjnagaadoor", sum := "72417f693ae6cd7b31930947a8a29e5668a2ad689e5ea3d3fc8b3c56eb9450c3", func := "loop.example/g00921/laws.FnExactMeanTemp", spec := "fnExactMeanTemp", inPlace := ["internal/reflectlite.TypeOf"], unfollowed := true, recurses := true, named := ["loop.example/g00921/impl.errNoDivisor", "loop.example/g00921/impl.errTermRange"], ifaces := true, apart := false, laid := [("loop.example/g00921/impl.errNoDivisor", laid_loop_example_g00921_impl_errNoDivisor), ("loop.example/g00921/impl.errTermRange", laid_loop_example_g00921_impl_errTermRange)] }
def FnExactMeanTempSaid : Prop := fnExactMeanTempRow.holds Tryd.pinned (OpenSpec.ofChange fnExactMeanTempSpec)

/-- ITS FALSE NEIGHBOUR: 'it returns false'. Refute it at one input. -/
def fnExactMeanTempWrong : ChangeSpec := { name := "fnExactMeanTemp", vars := ["loop.example/g00921/impl.errNoDivisor", "loop.example/g00921/impl.errTermRange"], fn := fun _ => fun
  | [d, g1, g2] => { results := [.lit (.bool false)], args := [d], vars := [g1, g2] }
  | _ => none }
def FnExactMeanTempWrongFalsely : Prop := fnExactMeanTempRow.holds Tryd.pinned (OpenSpec.ofChange fnExactMeanTempWrong)

/-- 'laws.FnExactBalancePoint': WHATEVER THE INPUT: true; the input reads as it did. -/
def fnExactBalancePointSpec : ChangeSpec := { name := "fnExactBalancePoint", vars := ["loop.example/g00921/impl.errNoDivisor", "loop.example/g00921/impl.errTermRange"], fn := fun _ => fun
  | [d, g1, g2] => { results := [.lit (.bool true)], args := [d], vars := [g1, g2] }
  | _ => none }
def fnExactBalancePointRow : OpenClaim := { program := "ytpmelgdhcjnagaadoor", sum := "72417f693ae6cd7b31930947a8a29e5668a2ad689e5ea3d3fc8b3c56eb9450c3", func := "loop.example/g00921/laws.FnExactBalancePoint", spec := "fnExactBalancePoint", inPlace := ["internal/reflectlite.TypeOf"], unfollowed := true, recurses := true, named := ["loop.example/g00921/impl.errNoDivisor", "loop.example/g00921/impl.errTermRange"], ifaces := true, apart := false, laid := [("loop.example/g00921/impl.errNoDivisor", laid_loop_example_g00921_impl_errNoDivisor), ("loop.example/g00921/impl.errTermRange", laid_loop_example_g00921_impl_errTermRange)] }
def FnExactBalancePointSaid : Prop := fnExactBalancePointRow.holds Tryd.pinned (OpenSpec.ofChange fnExactBalancePointSpec)

/-- ITS FALSE NEIGHBOUR: 'it returns false'. Refute it at one input. -/
def fnExactBalancePointWrong : ChangeSpec := { name := "fnExactBalancePoint", vars := ["loop.example/g00921/impl.errNoDivisor", "loop.example/g00921/impl.errTermRange"], fn := fun _ => fun
  | [d, g1, g2] => { results := [.lit (.bool false)], args := [d], vars := [g1, g2] }
  | _ => none }
def FnExactBalancePointWrongFalsely : Prop := fnExactBalancePointRow.holds Tryd.pinned (OpenSpec.ofChange fnExactBalancePointWrong)

/-- 'laws.FnMergedSegments': WHATEVER THE INPUT: true; the input reads as it did. -/
def fnMergedSegmentsSpec : ChangeSpec := { name := "fnMergedSegments", vars := ["loop.example/g00921/impl.errNoDivisor", "loop.example/g00921/impl.errTermRange"], fn := fun _ => fun
  | [d, g1, g2] => { results := [.lit (.bool true)], args := [d], vars := [g1, g2] }
  | _ => none }
def fnMergedSegmentsRow : OpenClaim := { program := "ytpmelgdhcjnagaadoor", sum := "72417f693ae6cd7b31930947a8a29e5668a2ad689e5ea3d3fc8b3c56eb9450c3", func := "loop.example/g00921/laws.FnMergedSegments", spec := "fnMergedSegments", inPlace := ["internal/reflectlite.TypeOf"], unfollowed := true, recurses := true, named := ["loop.example/g00921/impl.errNoDivisor", "loop.example/g00921/impl.errTermRange"], ifaces := true, apart := false, laid := [("loop.example/g00921/impl.errNoDivisor", laid_loop_example_g00921_impl_errNoDivisor), ("loop.example/g00921/impl.errTermRange", laid_loop_example_g00921_impl_errTermRange)] }
def FnMergedSegmentsSaid : Prop := fnMergedSegmentsRow.holds Tryd.pinned (OpenSpec.ofChange fnMergedSegmentsSpec)

/-- ITS FALSE NEIGHBOUR: 'it returns false'. Refute it at one input. -/
def fnMergedSegmentsWrong : ChangeSpec := { name := "fnMergedSegments", vars := ["loop.example/g00921/impl.errNoDivisor", "loop.example/g00921/impl.errTermRange"], fn := fun _ => fun
  | [d, g1, g2] => { results := [.lit (.bool false)], args := [d], vars := [g1, g2] }
  | _ => none }
def FnMergedSegmentsWrongFalsely : Prop := fnMergedSegmentsRow.holds Tryd.pinned (OpenSpec.ofChange fnMergedSegmentsWrong)

/-- 'laws.FnBalance': WHATEVER THE INPUT: true; the input reads as it did. -/
def fnBalanceSpec : ChangeSpec := { name := "fnBalance", vars := ["loop.example/g00921/impl.errNoDivisor", "loop.example/g00921/impl.errTermRange"], fn := fun _ => fun
  | [d, g1, g2] => { results := [.lit (.bool true)], args := [d], vars := [g1, g2] }
  | _ => none }
def fnBalanceRow : OpenClaim := { program := "ytpmelgdhcjnagaadoor", sum := "72417f693ae6cd7b31930947a8a29e5668a2ad689e5ea3d3fc8b3c56eb9450c3", func := "loop.example/g00921/laws.FnBalance", spec := "fnBalance", inPlace := ["internal/reflectlite.TypeOf"], unfollowed := true, recurses := true, named := ["loop.example/g00921/impl.errNoDivisor", "loop.example/g00921/impl.errTermRange"], ifaces := true, apart := false, laid := [("loop.example/g00921/impl.errNoDivisor", laid_loop_example_g00921_impl_errNoDivisor), ("loop.example/g00921/impl.errTermRange", laid_loop_example_g00921_impl_errTermRange)] }
def FnBalanceSaid : Prop := fnBalanceRow.holds Tryd.pinned (OpenSpec.ofChange fnBalanceSpec)

/-- ITS FALSE NEIGHBOUR: 'it returns false'. Refute it at one input. -/
def fnBalanceWrong : ChangeSpec := { name := "fnBalance", vars := ["loop.example/g00921/impl.errNoDivisor", "loop.example/g00921/impl.errTermRange"], fn := fun _ => fun
  | [d, g1, g2] => { results := [.lit (.bool false)], args := [d], vars := [g1, g2] }
  | _ => none }
def FnBalanceWrongFalsely : Prop := fnBalanceRow.holds Tryd.pinned (OpenSpec.ofChange fnBalanceWrong)

/- THE SECOND FORM. 'bulk': how many values and letters a reading holds, each counted each time it is reached (what is shared counts as often as it is met; a slice's spare places count too). A statement '..UptoSaid' is the law's where the arguments, and the package variables that the reading takes, are together of bulk at most 1048576: NARROWER than '..Said'. Prove '..Said' where nothing that the law and all that it calls make is longer than what came in: it says more and counts as full. Else prove '..UptoSaid'. A law counts once. -/
mutual
def uptoBulk {H : Type} : DataW H → Nat
  | .lit (.string bytes) => bytes.length + 1
  | .lit _ => 1
  | .nil => 1
  | .ptr d => uptoBulk d + 1
  | .slice elems spare => uptoBulkAll elems + uptoBulkAll spare + 1
  | .agg parts => uptoBulkAll parts + 1
  | .iface _ d => uptoBulk d + 1
  | .map entries => uptoBulkEntries entries + 1
  | .held _ => 1
def uptoBulkAll {H : Type} : List (DataW H) → Nat
  | [] => 0
  | d :: r => uptoBulk d + uptoBulkAll r
def uptoBulkEntries {H : Type} : List (Lit × DataW H) → Nat
  | [] => 0
  | x :: r => uptoBulkEntry x + uptoBulkEntries r
def uptoBulkEntry {H : Type} : Lit × DataW H → Nat
  | (.string bytes, d) => bytes.length + uptoBulk d + 1
  | (_, d) => uptoBulk d + 1
 end
def uptoSmall : (H : Type) → List (DataW H) → Bool := fun _ ds => decide (uptoBulkAll ds ≤ 1048576)
def OpenSpec.upto (s : _root_.Go.ChangeSpec) : _root_.Go.OpenSpec := { _root_.Go.OpenSpec.ofChange s with cond := some uptoSmall }

/-- 'laws.FnExactMeanTemp', WHERE WHAT IT READS IS OF BULK AT MOST 1048576: true; the input reads as it did. -/
def fnExactMeanTempUptoRow : OpenClaim := { program := "ytpmelgdhcjnagaadoor", sum := "72417f693ae6cd7b31930947a8a29e5668a2ad689e5ea3d3fc8b3c56eb9450c3", func := "loop.example/g00921/laws.FnExactMeanTemp", spec := "fnExactMeanTemp", inPlace := ["internal/reflectlite.TypeOf"], unfollowed := true, recurses := true, named := ["loop.example/g00921/impl.errNoDivisor", "loop.example/g00921/impl.errTermRange"], ifaces := true, apart := false, laid := [("loop.example/g00921/impl.errNoDivisor", laid_loop_example_g00921_impl_errNoDivisor), ("loop.example/g00921/impl.errTermRange", laid_loop_example_g00921_impl_errTermRange)], narrowed := true }
def FnExactMeanTempUptoSaid : Prop := fnExactMeanTempUptoRow.holds Tryd.pinned (OpenSpec.upto fnExactMeanTempSpec)

/-- 'laws.FnExactBalancePoint', WHERE WHAT IT READS IS OF BULK AT MOST 1048576: true; the input reads as it did. -/
def fnExactBalancePointUptoRow : OpenClaim := { program := "ytpmelgdhcjnagaadoor", sum := "72417f693ae6cd7b31930947a8a29e5668a2ad689e5ea3d3fc8b3c56eb9450c3", func := "loop.example/g00921/laws.FnExactBalancePoint", spec := "fnExactBalancePoint", inPlace := ["internal/reflectlite.TypeOf"], unfollowed := true, recurses := true, named := ["loop.example/g00921/impl.errNoDivisor", "loop.example/g00921/impl.errTermRange"], ifaces := true, apart := false, laid := [("loop.example/g00921/impl.errNoDivisor", laid_loop_example_g00921_impl_errNoDivisor), ("loop.example/g00921/impl.errTermRange", laid_loop_example_g00921_impl_errTermRange)], narrowed := true }
def FnExactBalancePointUptoSaid : Prop := fnExactBalancePointUptoRow.holds Tryd.pinned (OpenSpec.upto fnExactBalancePointSpec)

/-- 'laws.FnMergedSegments', WHERE WHAT IT READS IS OF BULK AT MOST 1048576: true; the input reads as it did. -/
def fnMergedSegmentsUptoRow : OpenClaim := { program := "ytpmelgdhcjnagaadoor", sum := "72417f693ae6cd7b31930947a8a29e5668a2ad689e5ea3d3fc8b3c56eb9450c3", func := "loop.example/g00921/laws.FnMergedSegments", spec := "fnMergedSegments", inPlace := ["internal/reflectlite.TypeOf"], unfollowed := true, recurses := true, named := ["loop.example/g00921/impl.errNoDivisor", "loop.example/g00921/impl.errTermRange"], ifaces := true, apart := false, laid := [("loop.example/g00921/impl.errNoDivisor", laid_loop_example_g00921_impl_errNoDivisor), ("loop.example/g00921/impl.errTermRange", laid_loop_example_g00921_impl_errTermRange)], narrowed := true }
def FnMergedSegmentsUptoSaid : Prop := fnMergedSegmentsUptoRow.holds Tryd.pinned (OpenSpec.upto fnMergedSegmentsSpec)

/-- 'laws.FnBalance', WHERE WHAT IT READS IS OF BULK AT MOST 1048576: true; the input reads as it did. -/
def fnBalanceUptoRow : OpenClaim := { program := "ytpmelgdhcjnagaadoor", sum := "72417f693ae6cd7b31930947a8a29e5668a2ad689e5ea3d3fc8b3c56eb9450c3", func := "loop.example/g00921/laws.FnBalance", spec := "fnBalance", inPlace := ["internal/reflectlite.TypeOf"], unfollowed := true, recurses := true, named := ["loop.example/g00921/impl.errNoDivisor", "loop.example/g00921/impl.errTermRange"], ifaces := true, apart := false, laid := [("loop.example/g00921/impl.errNoDivisor", laid_loop_example_g00921_impl_errNoDivisor), ("loop.example/g00921/impl.errTermRange", laid_loop_example_g00921_impl_errTermRange)], narrowed := true }
def FnBalanceUptoSaid : Prop := fnBalanceUptoRow.holds Tryd.pinned (OpenSpec.upto fnBalanceSpec)

end Rows
end Go.Proofs.YtpmelgdhcjnagaaDoor

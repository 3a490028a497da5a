/-
  No cell of these rows narrows 'for every input' (looked for: loops, veiled, ifaces, maps, wideKeys, modest, calm, conditions, laid).
  DERIVED. THE GIVEN ROWS OF THIS SEAT. 8 by the template 'for every input the law returns true; each argument reads behind the call as it read before'; 0 by the template 'total and deterministic' (their statements: YtgdnojdleoongaaTotals.lean).
  GIVEN WITH THE SEED: the statements are not yours to turn. If you find one false, say at which input.
  Laid BY PROGRAM, IN A SANDBOX (cutbox-rows.mjs): the forced cells as the released guide's own fill.sh prints them over the translation df8a099863491ba0… (all of the seat's roots in one cut). By AI agents, Wed Nov 11 2026. No macro, syntax, notation, axiom, sorry.
-/
import Derived.Test.YtgdnojdleoongaaChecked
import GoSem.Claim
import GoSem.ClaimJoined
import GoSem.ClaimMapViews
import Derived.JoinedTies
import Derived.KernelRfl
namespace Go.Proofs.Ytgdnojdleoongaa
/- THE CELL 'sum', in the pinned program and in every row, IS THE sha256 OF THE DUMP (.gsa) THAT YtgdnojdleoongaaProg.lean LOADS. Nothing in Lean hashes anything: it is a label: what it is worth is what the hold of that sum in a sandbox is worth. -/
noncomputable def Try.pinned : Pinned := { name := "ytgdnojdleoongaa", sum := "df8a099863491ba0cb5292a67b805abb1c048fc03e3c17dc23dda8bcde9f6adb", checked := Try.checked }
namespace Rows
def none {H : Type} : Left H := { results := [], args := [] }

/-- 'laws.FnExactValidReadings': WHATEVER THE INPUT: true; the input reads as it did. -/
def fnExactValidReadingsSpec : ChangeSpec := { name := "fnExactValidReadings", fn := fun _ => fun
  | [d] => { results := [.lit (.bool true)], args := [d] }
  | _ => none }
def fnExactValidReadingsRow : OpenClaim := { program := "ytgdnojdleoongaa", sum := "df8a099863491ba0cb5292a67b805abb1c048fc03e3c17dc23dda8bcde9f6adb", func := "loop.example/g00921/laws.FnExactValidReadings", spec := "fnExactValidReadings", apart := false }
def FnExactValidReadingsSaid : Prop := fnExactValidReadingsRow.holds Try.pinned (OpenSpec.ofChange fnExactValidReadingsSpec)

/-- ITS FALSE NEIGHBOUR: 'it returns false'. Refute it at one input. -/
def fnExactValidReadingsWrong : ChangeSpec := { name := "fnExactValidReadings", fn := fun _ => fun
  | [d] => { results := [.lit (.bool false)], args := [d] }
  | _ => none }
def FnExactValidReadingsWrongFalsely : Prop := fnExactValidReadingsRow.holds Try.pinned (OpenSpec.ofChange fnExactValidReadingsWrong)

/-- 'laws.FnExactFitOf': WHATEVER THE INPUT: true; the input reads as it did. -/
def fnExactFitOfSpec : ChangeSpec := { name := "fnExactFitOf", fn := fun _ => fun
  | [d] => { results := [.lit (.bool true)], args := [d] }
  | _ => none }
def fnExactFitOfRow : OpenClaim := { program := "ytgdnojdleoongaa", sum := "df8a099863491ba0cb5292a67b805abb1c048fc03e3c17dc23dda8bcde9f6adb", func := "loop.example/g00921/laws.FnExactFitOf", spec := "fnExactFitOf", unfollowed := true, recurses := true, apart := false }
def FnExactFitOfSaid : Prop := fnExactFitOfRow.holds Try.pinned (OpenSpec.ofChange fnExactFitOfSpec)

/-- ITS FALSE NEIGHBOUR: 'it returns false'. Refute it at one input. -/
def fnExactFitOfWrong : ChangeSpec := { name := "fnExactFitOf", fn := fun _ => fun
  | [d] => { results := [.lit (.bool false)], args := [d] }
  | _ => none }
def FnExactFitOfWrongFalsely : Prop := fnExactFitOfRow.holds Try.pinned (OpenSpec.ofChange fnExactFitOfWrong)

/-- 'laws.FnExactAddFits': WHATEVER THE INPUT: true; the input reads as it did. -/
def fnExactAddFitsSpec : ChangeSpec := { name := "fnExactAddFits", fn := fun _ => fun
  | [d1, d2] => { results := [.lit (.bool true)], args := [d1, d2] }
  | _ => none }
def fnExactAddFitsRow : OpenClaim := { program := "ytgdnojdleoongaa", sum := "df8a099863491ba0cb5292a67b805abb1c048fc03e3c17dc23dda8bcde9f6adb", func := "loop.example/g00921/laws.FnExactAddFits", spec := "fnExactAddFits", apart := false }
def FnExactAddFitsSaid : Prop := fnExactAddFitsRow.holds Try.pinned (OpenSpec.ofChange fnExactAddFitsSpec)

/-- ITS FALSE NEIGHBOUR: 'it returns false'. Refute it at one input. -/
def fnExactAddFitsWrong : ChangeSpec := { name := "fnExactAddFits", fn := fun _ => fun
  | [d1, d2] => { results := [.lit (.bool false)], args := [d1, d2] }
  | _ => none }
def FnExactAddFitsWrongFalsely : Prop := fnExactAddFitsRow.holds Try.pinned (OpenSpec.ofChange fnExactAddFitsWrong)

/-- 'laws.FnExactValidFit': WHATEVER THE INPUT: true; the input reads as it did. -/
def fnExactValidFitSpec : ChangeSpec := { name := "fnExactValidFit", fn := fun _ => fun
  | [d] => { results := [.lit (.bool true)], args := [d] }
  | _ => none }
def fnExactValidFitRow : OpenClaim := { program := "ytgdnojdleoongaa", sum := "df8a099863491ba0cb5292a67b805abb1c048fc03e3c17dc23dda8bcde9f6adb", func := "loop.example/g00921/laws.FnExactValidFit", spec := "fnExactValidFit", apart := false }
def FnExactValidFitSaid : Prop := fnExactValidFitRow.holds Try.pinned (OpenSpec.ofChange fnExactValidFitSpec)

/-- ITS FALSE NEIGHBOUR: 'it returns false'. Refute it at one input. -/
def fnExactValidFitWrong : ChangeSpec := { name := "fnExactValidFit", fn := fun _ => fun
  | [d] => { results := [.lit (.bool false)], args := [d] }
  | _ => none }
def FnExactValidFitWrongFalsely : Prop := fnExactValidFitRow.holds Try.pinned (OpenSpec.ofChange fnExactValidFitWrong)

/-- 'laws.FnExactDailyRate': WHATEVER THE INPUT: true; the input reads as it did. -/
def fnExactDailyRateSpec : ChangeSpec := { name := "fnExactDailyRate", fn := fun _ => fun
  | [d] => { results := [.lit (.bool true)], args := [d] }
  | _ => none }
def fnExactDailyRateRow : OpenClaim := { program := "ytgdnojdleoongaa", sum := "df8a099863491ba0cb5292a67b805abb1c048fc03e3c17dc23dda8bcde9f6adb", func := "loop.example/g00921/laws.FnExactDailyRate", spec := "fnExactDailyRate", named := ["math/bits.divideError", "math/bits.overflowError"], apart := false }
def FnExactDailyRateSaid : Prop := fnExactDailyRateRow.holds Try.pinned (OpenSpec.ofChange fnExactDailyRateSpec)

/-- ITS FALSE NEIGHBOUR: 'it returns false'. Refute it at one input. -/
def fnExactDailyRateWrong : ChangeSpec := { name := "fnExactDailyRate", fn := fun _ => fun
  | [d] => { results := [.lit (.bool false)], args := [d] }
  | _ => none }
def FnExactDailyRateWrongFalsely : Prop := fnExactDailyRateRow.holds Try.pinned (OpenSpec.ofChange fnExactDailyRateWrong)

/-- 'laws.FnExactOffAt': WHATEVER THE INPUT: true; the input reads as it did. -/
def fnExactOffAtSpec : ChangeSpec := { name := "fnExactOffAt", fn := fun _ => fun
  | [d1, d2] => { results := [.lit (.bool true)], args := [d1, d2] }
  | _ => none }
def fnExactOffAtRow : OpenClaim := { program := "ytgdnojdleoongaa", sum := "df8a099863491ba0cb5292a67b805abb1c048fc03e3c17dc23dda8bcde9f6adb", func := "loop.example/g00921/laws.FnExactOffAt", spec := "fnExactOffAt", named := ["math/bits.divideError", "math/bits.overflowError"], apart := false }
def FnExactOffAtSaid : Prop := fnExactOffAtRow.holds Try.pinned (OpenSpec.ofChange fnExactOffAtSpec)

/-- ITS FALSE NEIGHBOUR: 'it returns false'. Refute it at one input. -/
def fnExactOffAtWrong : ChangeSpec := { name := "fnExactOffAt", fn := fun _ => fun
  | [d1, d2] => { results := [.lit (.bool false)], args := [d1, d2] }
  | _ => none }
def FnExactOffAtWrongFalsely : Prop := fnExactOffAtRow.holds Try.pinned (OpenSpec.ofChange fnExactOffAtWrong)

/-- 'laws.FnExactRatesBetween': WHATEVER THE INPUT: true; the input reads as it did. -/
def fnExactRatesBetweenSpec : ChangeSpec := { name := "fnExactRatesBetween", fn := fun _ => fun
  | [d] => { results := [.lit (.bool true)], args := [d] }
  | _ => none }
def fnExactRatesBetweenRow : OpenClaim := { program := "ytgdnojdleoongaa", sum := "df8a099863491ba0cb5292a67b805abb1c048fc03e3c17dc23dda8bcde9f6adb", func := "loop.example/g00921/laws.FnExactRatesBetween", spec := "fnExactRatesBetween", named := ["math/bits.divideError", "math/bits.overflowError"], apart := false }
def FnExactRatesBetweenSaid : Prop := fnExactRatesBetweenRow.holds Try.pinned (OpenSpec.ofChange fnExactRatesBetweenSpec)

/-- ITS FALSE NEIGHBOUR: 'it returns false'. Refute it at one input. -/
def fnExactRatesBetweenWrong : ChangeSpec := { name := "fnExactRatesBetween", fn := fun _ => fun
  | [d] => { results := [.lit (.bool false)], args := [d] }
  | _ => none }
def FnExactRatesBetweenWrongFalsely : Prop := fnExactRatesBetweenRow.holds Try.pinned (OpenSpec.ofChange fnExactRatesBetweenWrong)

/-- 'laws.FnExactResidualsOf': WHATEVER THE INPUT: true; the input reads as it did. -/
def fnExactResidualsOfSpec : ChangeSpec := { name := "fnExactResidualsOf", fn := fun _ => fun
  | [d] => { results := [.lit (.bool true)], args := [d] }
  | _ => none }
def fnExactResidualsOfRow : OpenClaim := { program := "ytgdnojdleoongaa", sum := "df8a099863491ba0cb5292a67b805abb1c048fc03e3c17dc23dda8bcde9f6adb", func := "loop.example/g00921/laws.FnExactResidualsOf", spec := "fnExactResidualsOf", unfollowed := true, recurses := true, named := ["math/bits.divideError", "math/bits.overflowError"], apart := false }
def FnExactResidualsOfSaid : Prop := fnExactResidualsOfRow.holds Try.pinned (OpenSpec.ofChange fnExactResidualsOfSpec)

/-- ITS FALSE NEIGHBOUR: 'it returns false'. Refute it at one input. -/
def fnExactResidualsOfWrong : ChangeSpec := { name := "fnExactResidualsOf", fn := fun _ => fun
  | [d] => { results := [.lit (.bool false)], args := [d] }
  | _ => none }
def FnExactResidualsOfWrongFalsely : Prop := fnExactResidualsOfRow.holds Try.pinned (OpenSpec.ofChange fnExactResidualsOfWrong)

/- THE SECOND FORM. 'bulk': how many values and letters a reading holds, each counted each time it is reached (what is shared counts as often as it is met; a slice's spare places count too). A statement '..UptoSaid' is the law's where the arguments, and the package variables that the reading takes, are together of bulk at most 1048576: NARROWER than '..Said'. Prove '..Said' where nothing that the law and all that it calls make is longer than what came in: it says more and counts as full. Else prove '..UptoSaid'. A law counts once. -/
mutual
def uptoBulk {H : Type} : DataW H → Nat
  | .lit (.string bytes) => bytes.length + 1
  | .lit _ => 1
  | .nil => 1
  | .ptr d => uptoBulk d + 1
  | .slice elems spare => uptoBulkAll elems + uptoBulkAll spare + 1
  | .agg parts => uptoBulkAll parts + 1
  | .iface _ d => uptoBulk d + 1
  | .map entries => uptoBulkEntries entries + 1
  | .held _ => 1
def uptoBulkAll {H : Type} : List (DataW H) → Nat
  | [] => 0
  | d :: r => uptoBulk d + uptoBulkAll r
def uptoBulkEntries {H : Type} : List (Lit × DataW H) → Nat
  | [] => 0
  | x :: r => uptoBulkEntry x + uptoBulkEntries r
def uptoBulkEntry {H : Type} : Lit × DataW H → Nat
  | (.string bytes, d) => bytes.length + uptoBulk d + 1
  | (_, d) => uptoBulk d + 1
 end
def uptoSmall : (H : Type) → List (DataW H) → Bool := fun _ ds => decide (uptoBulkAll ds ≤ 1048576)
def OpenSpec.upto (s : _root_.Go.ChangeSpec) : _root_.Go.OpenSpec := { _root_.Go.OpenSpec.ofChange s with cond := some uptoSmall }

/-- 'laws.FnExactValidReadings', WHERE WHAT IT READS IS OF BULK AT MOST 1048576: true; the input reads as it did. -/
def fnExactValidReadingsUptoRow : OpenClaim := { program := "ytgdnojdleoongaa", sum := "df8a099863491ba0cb5292a67b805abb1c048fc03e3c17dc23dda8bcde9f6adb", func := "loop.example/g00921/laws.FnExactValidReadings", spec := "fnExactValidReadings", apart := false, narrowed := true }
def FnExactValidReadingsUptoSaid : Prop := fnExactValidReadingsUptoRow.holds Try.pinned (OpenSpec.upto fnExactValidReadingsSpec)

/-- 'laws.FnExactFitOf', WHERE WHAT IT READS IS OF BULK AT MOST 1048576: true; the input reads as it did. -/
def fnExactFitOfUptoRow : OpenClaim := { program := "ytgdnojdleoongaa", sum := "df8a099863491ba0cb5292a67b805abb1c048fc03e3c17dc23dda8bcde9f6adb", func := "loop.example/g00921/laws.FnExactFitOf", spec := "fnExactFitOf", unfollowed := true, recurses := true, apart := false, narrowed := true }
def FnExactFitOfUptoSaid : Prop := fnExactFitOfUptoRow.holds Try.pinned (OpenSpec.upto fnExactFitOfSpec)

/-- 'laws.FnExactAddFits', WHERE WHAT IT READS IS OF BULK AT MOST 1048576: true; the input reads as it did. -/
def fnExactAddFitsUptoRow : OpenClaim := { program := "ytgdnojdleoongaa", sum := "df8a099863491ba0cb5292a67b805abb1c048fc03e3c17dc23dda8bcde9f6adb", func := "loop.example/g00921/laws.FnExactAddFits", spec := "fnExactAddFits", apart := false, narrowed := true }
def FnExactAddFitsUptoSaid : Prop := fnExactAddFitsUptoRow.holds Try.pinned (OpenSpec.upto fnExactAddFitsSpec)

/-- 'laws.FnExactValidFit', WHERE WHAT IT READS IS OF BULK AT MOST 1048576: true; the input reads as it did. -/
def fnExactValidFitUptoRow : OpenClaim := { program := "ytgdnojdleoongaa", sum := "df8a099863491ba0cb5292a67b805abb1c048fc03e3c17dc23dda8bcde9f6adb", func := "loop.example/g00921/laws.FnExactValidFit", spec := "fnExactValidFit", apart := false, narrowed := true }
def FnExactValidFitUptoSaid : Prop := fnExactValidFitUptoRow.holds Try.pinned (OpenSpec.upto fnExactValidFitSpec)

/-- 'laws.FnExactDailyRate', WHERE WHAT IT READS IS OF BULK AT MOST 1048576: true; the input reads as it did. -/
def fnExactDailyRateUptoRow : OpenClaim := { program := "ytgdnojdleoongaa", sum := "df8a099863491ba0cb5292a67b805abb1c048fc03e3c17dc23dda8bcde9f6adb", func := "loop.example/g00921/laws.FnExactDailyRate", spec := "fnExactDailyRate", named := ["math/bits.divideError", "math/bits.overflowError"], apart := false, narrowed := true }
def FnExactDailyRateUptoSaid : Prop := fnExactDailyRateUptoRow.holds Try.pinned (OpenSpec.upto fnExactDailyRateSpec)

/-- 'laws.FnExactOffAt', WHERE WHAT IT READS IS OF BULK AT MOST 1048576: true; the input reads as it did. -/
def fnExactOffAtUptoRow : OpenClaim := { program := "ytgdnojdleoongaa", sum := "df8a099863491ba0cb5292a67b805abb1c048fc03e3c17dc23dda8bcde9f6adb", func := "loop.example/g00921/laws.FnExactOffAt", spec := "fnExactOffAt", named := ["math/bits.divideError", "math/bits.overflowError"], apart := false, narrowed := true }
def FnExactOffAtUptoSaid : Prop := fnExactOffAtUptoRow.holds Try.pinned (OpenSpec.upto fnExactOffAtSpec)

/-- 'laws.FnExactRatesBetween', WHERE WHAT IT READS IS OF BULK AT MOST 1048576: true; the input reads as it did. -/
def fnExactRatesBetweenUptoRow : OpenClaim := { program := "ytgdnojdleoongaa", sum := "df8a099863491ba0cb5292a67b805abb1c048fc03e3c17dc23dda8bcde9f6adb", func := "loop.example/g00921/laws.FnExactRatesBetween", spec := "fnExactRatesBetween", named := ["math/bits.divideError", "math/bits.overflowError"], apart := false, narrowed := true }
def FnExactRatesBetweenUptoSaid : Prop := fnExactRatesBetweenUptoRow.holds Try.pinned (OpenSpec.upto fnExactRatesBetweenSpec)

/-- 'laws.FnExactResidualsOf', WHERE WHAT IT READS IS OF BULK AT MOST 1048576: true; the input reads as it did. -/
def fnExactResidualsOfUptoRow : OpenClaim := { program := "ytgdnojdleoongaa", sum := "df8a099863491ba0cb5292a67b805abb1c048fc03e3c17dc23dda8bcde9f6adb", func := "loop.example/g00921/laws.FnExactResidualsOf", spec := "fnExactResidualsOf", unfollowed := true, recurses := true, named := ["math/bits.divideError", "math/bits.overflowError"], apart := false, narrowed := true }
def FnExactResidualsOfUptoSaid : Prop := fnExactResidualsOfUptoRow.holds Try.pinned (OpenSpec.upto fnExactResidualsOfSpec)

end Rows
end Go.Proofs.Ytgdnojdleoongaa

/-
  No cell of these rows narrows 'for every input' (looked for: loops, veiled, ifaces, maps, wideKeys, modest, calm, conditions, laid).
  DERIVED. THE GIVEN ROWS OF THIS SEAT. 7 by the template 'for every input the law returns true; each argument reads behind the call as it read before'; 0 by the template 'total and deterministic' (their statements: YtpbmpmcifpgchaaTotals.lean).
  GIVEN WITH THE SEED: the statements are not yours to turn. If you find one false, say at which input.
  Laid BY PROGRAM, IN A SANDBOX (cutbox-rows.mjs): the forced cells as the released guide's own fill.sh prints them over the translation cae8c5afef549215… (all of the seat's roots in one cut). By AI agents, Wed Nov 11 2026. No macro, syntax, notation, axiom, sorry.
-/
import Derived.Test.YtpbmpmcifpgchaaChecked
import GoSem.Claim
import GoSem.ClaimJoined
import GoSem.ClaimMapViews
import Derived.JoinedTies
import Derived.KernelRfl
namespace Go.Proofs.Ytpbmpmcifpgchaa
/- THE CELL 'sum', in the pinned program and in every row, IS THE sha256 OF THE DUMP (.gsa) THAT YtpbmpmcifpgchaaProg.lean LOADS. Nothing in Lean hashes anything: it is a label: what it is worth is what the hold of that sum in a sandbox is worth. -/
noncomputable def Try.pinned : Pinned := { name := "ytpbmpmcifpgchaa", sum := "cae8c5afef5492150b2b52d54bde0ca3ee4062f12c39e105dd5b8bbe8dcb926a", checked := Try.checked }
namespace Rows
def none {H : Type} : Left H := { results := [], args := [] }

/-- 'laws.FnExactInterferes': WHATEVER THE INPUT: true; the input reads as it did. -/
def fnExactInterferesSpec : ChangeSpec := { name := "fnExactInterferes", fn := fun _ => fun
  | [d1, d2] => { results := [.lit (.bool true)], args := [d1, d2] }
  | _ => none }
def fnExactInterferesRow : OpenClaim := { program := "ytpbmpmcifpgchaa", sum := "cae8c5afef5492150b2b52d54bde0ca3ee4062f12c39e105dd5b8bbe8dcb926a", func := "loop.example/g00921/laws.FnExactInterferes", spec := "fnExactInterferes", inPlace := ["math/bits.Add64"], unfollowed := true, recurses := true, apart := false }
def FnExactInterferesSaid : Prop := fnExactInterferesRow.holds Try.pinned (OpenSpec.ofChange fnExactInterferesSpec)

/-- ITS FALSE NEIGHBOUR: 'it returns false'. Refute it at one input. -/
def fnExactInterferesWrong : ChangeSpec := { name := "fnExactInterferes", fn := fun _ => fun
  | [d1, d2] => { results := [.lit (.bool false)], args := [d1, d2] }
  | _ => none }
def FnExactInterferesWrongFalsely : Prop := fnExactInterferesRow.holds Try.pinned (OpenSpec.ofChange fnExactInterferesWrong)

/-- 'laws.FnExactGreatestAddendum': WHATEVER THE INPUT: true; the input reads as it did. -/
def fnExactGreatestAddendumSpec : ChangeSpec := { name := "fnExactGreatestAddendum", fn := fun _ => fun
  | [d1, d2] => { results := [.lit (.bool true)], args := [d1, d2] }
  | _ => none }
def fnExactGreatestAddendumRow : OpenClaim := { program := "ytpbmpmcifpgchaa", sum := "cae8c5afef5492150b2b52d54bde0ca3ee4062f12c39e105dd5b8bbe8dcb926a", func := "loop.example/g00921/laws.FnExactGreatestAddendum", spec := "fnExactGreatestAddendum", inPlace := ["math/bits.Add64"], unfollowed := true, recurses := true, apart := false }
def FnExactGreatestAddendumSaid : Prop := fnExactGreatestAddendumRow.holds Try.pinned (OpenSpec.ofChange fnExactGreatestAddendumSpec)

/-- ITS FALSE NEIGHBOUR: 'it returns false'. Refute it at one input. -/
def fnExactGreatestAddendumWrong : ChangeSpec := { name := "fnExactGreatestAddendum", fn := fun _ => fun
  | [d1, d2] => { results := [.lit (.bool false)], args := [d1, d2] }
  | _ => none }
def FnExactGreatestAddendumWrongFalsely : Prop := fnExactGreatestAddendumRow.holds Try.pinned (OpenSpec.ofChange fnExactGreatestAddendumWrong)

/-- 'laws.FnExactContactBounds': WHATEVER THE INPUT: true; the input reads as it did. -/
def fnExactContactBoundsSpec : ChangeSpec := { name := "fnExactContactBounds", fn := fun _ => fun
  | [d1, d2] => { results := [.lit (.bool true)], args := [d1, d2] }
  | _ => none }
def fnExactContactBoundsRow : OpenClaim := { program := "ytpbmpmcifpgchaa", sum := "cae8c5afef5492150b2b52d54bde0ca3ee4062f12c39e105dd5b8bbe8dcb926a", func := "loop.example/g00921/laws.FnExactContactBounds", spec := "fnExactContactBounds", inPlace := ["math/bits.Add64", "math/bits.Sub64"], unfollowed := true, recurses := true, apart := false }
def FnExactContactBoundsSaid : Prop := fnExactContactBoundsRow.holds Try.pinned (OpenSpec.ofChange fnExactContactBoundsSpec)

/-- ITS FALSE NEIGHBOUR: 'it returns false'. Refute it at one input. -/
def fnExactContactBoundsWrong : ChangeSpec := { name := "fnExactContactBounds", fn := fun _ => fun
  | [d1, d2] => { results := [.lit (.bool false)], args := [d1, d2] }
  | _ => none }
def FnExactContactBoundsWrongFalsely : Prop := fnExactContactBoundsRow.holds Try.pinned (OpenSpec.ofChange fnExactContactBoundsWrong)

/-- 'laws.FnLeastTeeth': WHATEVER THE INPUT: true; the input reads as it did. -/
def fnLeastTeethSpec : ChangeSpec := { name := "fnLeastTeeth", fn := fun _ => fun
  | [d] => { results := [.lit (.bool true)], args := [d] }
  | _ => none }
def fnLeastTeethRow : OpenClaim := { program := "ytpbmpmcifpgchaa", sum := "cae8c5afef5492150b2b52d54bde0ca3ee4062f12c39e105dd5b8bbe8dcb926a", func := "loop.example/g00921/laws.FnLeastTeeth", spec := "fnLeastTeeth", inPlace := ["math/bits.Add64"], apart := false }
def FnLeastTeethSaid : Prop := fnLeastTeethRow.holds Try.pinned (OpenSpec.ofChange fnLeastTeethSpec)

/-- ITS FALSE NEIGHBOUR: 'it returns false'. Refute it at one input. -/
def fnLeastTeethWrong : ChangeSpec := { name := "fnLeastTeeth", fn := fun _ => fun
  | [d] => { results := [.lit (.bool false)], args := [d] }
  | _ => none }
def FnLeastTeethWrongFalsely : Prop := fnLeastTeethRow.holds Try.pinned (OpenSpec.ofChange fnLeastTeethWrong)

/-- 'laws.FnContacts': WHATEVER THE INPUT: true; the input reads as it did. -/
def fnContactsSpec : ChangeSpec := { name := "fnContacts", fn := fun _ => fun
  | [d] => { results := [.lit (.bool true)], args := [d] }
  | _ => none }
def fnContactsRow : OpenClaim := { program := "ytpbmpmcifpgchaa", sum := "cae8c5afef5492150b2b52d54bde0ca3ee4062f12c39e105dd5b8bbe8dcb926a", func := "loop.example/g00921/laws.FnContacts", spec := "fnContacts", inPlace := ["math/bits.Add64", "math/bits.Sub64"], unfollowed := true, recurses := true, apart := false }
def FnContactsSaid : Prop := fnContactsRow.holds Try.pinned (OpenSpec.ofChange fnContactsSpec)

/-- ITS FALSE NEIGHBOUR: 'it returns false'. Refute it at one input. -/
def fnContactsWrong : ChangeSpec := { name := "fnContacts", fn := fun _ => fun
  | [d] => { results := [.lit (.bool false)], args := [d] }
  | _ => none }
def FnContactsWrongFalsely : Prop := fnContactsRow.holds Try.pinned (OpenSpec.ofChange fnContactsWrong)

/-- 'laws.FnInterference': WHATEVER THE INPUT: true; the input reads as it did. -/
def fnInterferenceSpec : ChangeSpec := { name := "fnInterference", fn := fun _ => fun
  | [d] => { results := [.lit (.bool true)], args := [d] }
  | _ => none }
def fnInterferenceRow : OpenClaim := { program := "ytpbmpmcifpgchaa", sum := "cae8c5afef5492150b2b52d54bde0ca3ee4062f12c39e105dd5b8bbe8dcb926a", func := "loop.example/g00921/laws.FnInterference", spec := "fnInterference", inPlace := ["math/bits.Add64"], unfollowed := true, recurses := true, apart := false }
def FnInterferenceSaid : Prop := fnInterferenceRow.holds Try.pinned (OpenSpec.ofChange fnInterferenceSpec)

/-- ITS FALSE NEIGHBOUR: 'it returns false'. Refute it at one input. -/
def fnInterferenceWrong : ChangeSpec := { name := "fnInterference", fn := fun _ => fun
  | [d] => { results := [.lit (.bool false)], args := [d] }
  | _ => none }
def FnInterferenceWrongFalsely : Prop := fnInterferenceRow.holds Try.pinned (OpenSpec.ofChange fnInterferenceWrong)

/-- 'laws.FnTeethSizes': WHATEVER THE INPUT: true; the input reads as it did. -/
def fnTeethSizesSpec : ChangeSpec := { name := "fnTeethSizes", fn := fun _ => fun
  | [d] => { results := [.lit (.bool true)], args := [d] }
  | _ => none }
def fnTeethSizesRow : OpenClaim := { program := "ytpbmpmcifpgchaa", sum := "cae8c5afef5492150b2b52d54bde0ca3ee4062f12c39e105dd5b8bbe8dcb926a", func := "loop.example/g00921/laws.FnTeethSizes", spec := "fnTeethSizes", inPlace := ["math/bits.Add64"], unfollowed := true, recurses := true, apart := false }
def FnTeethSizesSaid : Prop := fnTeethSizesRow.holds Try.pinned (OpenSpec.ofChange fnTeethSizesSpec)

/-- ITS FALSE NEIGHBOUR: 'it returns false'. Refute it at one input. -/
def fnTeethSizesWrong : ChangeSpec := { name := "fnTeethSizes", fn := fun _ => fun
  | [d] => { results := [.lit (.bool false)], args := [d] }
  | _ => none }
def FnTeethSizesWrongFalsely : Prop := fnTeethSizesRow.holds Try.pinned (OpenSpec.ofChange fnTeethSizesWrong)

/- THE SECOND FORM. 'bulk': how many values and letters a reading holds, each counted each time it is reached (what is shared counts as often as it is met; a slice's spare places count too). A statement '..UptoSaid' is the law's where the arguments, and the package variables that the reading takes, are together of bulk at most 1048576: NARROWER than '..Said'. Prove '..Said' where nothing that the law and all that it calls make is longer than what came in: it says more and counts as full. Else prove '..UptoSaid'. A law counts once. -/
mutual
def uptoBulk {H : Type} : DataW H → Nat
  | .lit (.string bytes) => bytes.length + 1
  | .lit _ => 1
  | .nil => 1
  | .ptr d => uptoBulk d + 1
  | .slice elems spare => uptoBulkAll elems + uptoBulkAll spare + 1
  | .agg parts => uptoBulkAll parts + 1
  | .iface _ d => uptoBulk d + 1
  | .map entries => uptoBulkEntries entries + 1
  | .held _ => 1
def uptoBulkAll {H : Type} : List (DataW H) → Nat
  | [] => 0
  | d :: r => uptoBulk d + uptoBulkAll r
def uptoBulkEntries {H : Type} : List (Lit × DataW H) → Nat
  | [] => 0
  | x :: r => uptoBulkEntry x + uptoBulkEntries r
def uptoBulkEntry {H : Type} : Lit × DataW H → Nat
  | (.string bytes, d) => bytes.length + uptoBulk d + 1
  | (_, d) => uptoBulk d + 1
 end
def uptoSmall : (H : Type) → List (DataW H) → Bool := fun _ ds => decide (uptoBulkAll ds ≤ 1048576)
def OpenSpec.upto (s : _root_.Go.ChangeSpec) : _root_.Go.OpenSpec := { _root_.Go.OpenSpec.ofChange s with cond := some uptoSmall }

/-- 'laws.FnExactInterferes', WHERE WHAT IT READS IS OF BULK AT MOST 1048576: true; the input reads as it did. -/
def fnExactInterferesUptoRow : OpenClaim := { program := "ytpbmpmcifpgchaa", sum := "cae8c5afef5492150b2b52d54bde0ca3ee4062f12c39e105dd5b8bbe8dcb926a", func := "loop.example/g00921/laws.FnExactInterferes", spec := "fnExactInterferes", inPlace := ["math/bits.Add64"], unfollowed := true, recurses := true, apart := false, narrowed := true }
def FnExactInterferesUptoSaid : Prop := fnExactInterferesUptoRow.holds Try.pinned (OpenSpec.upto fnExactInterferesSpec)

/-- 'laws.FnExactGreatestAddendum', WHERE WHAT IT READS IS OF BULK AT MOST 1048576: true; the input reads as it did. -/
def fnExactGreatestAddendumUptoRow : OpenClaim := { program := "ytpbmpmcifpgchaa", sum := "cae8c5afef5492150b2b52d54bde0ca3ee4062f12c39e105dd5b8bbe8dcb926a", func := "loop.example/g00921/laws.FnExactGreatestAddendum", spec := "fnExactGreatestAddendum", inPlace := ["math/bits.Add64"], unfollowed := true, recurses := true, apart := false, narrowed := true }
def FnExactGreatestAddendumUptoSaid : Prop := fnExactGreatestAddendumUptoRow.holds Try.pinned (OpenSpec.upto fnExactGreatestAddendumSpec)

/-- 'laws.FnExactContactBounds', WHERE WHAT IT READS IS OF BULK AT MOST 1048576: true; the input reads as it did. -/
def fnExactContactBoundsUptoRow : OpenClaim := { program := "ytpbmpmcifpgchaa", sum := "cae8c5afef5492150b2b52d54bde0ca3ee4062f12c39e105dd5b8bbe8dcb926a", func := "loop.example/g00921/laws.FnExactContactBounds", spec := "fnExactContactBounds", inPlace := ["math/bits.Add64", "math/bits.Sub64"], unfollowed := true, recurses := true, apart := false, narrowed := true }
def FnExactContactBoundsUptoSaid : Prop := fnExactContactBoundsUptoRow.holds Try.pinned (OpenSpec.upto fnExactContactBoundsSpec)

/-- 'laws.FnLeastTeeth', WHERE WHAT IT READS IS OF BULK AT MOST 1048576: true; the input reads as it did. -/
def fnLeastTeethUptoRow : OpenClaim := { program := "ytpbmpmcifpgchaa", sum := "cae8c5afef5492150b2b52d54bde0ca3ee4062f12c39e105dd5b8bbe8dcb926a", func := "loop.example/g00921/laws.FnLeastTeeth", spec := "fnLeastTeeth", inPlace := ["math/bits.Add64"], apart := false, narrowed := true }
def FnLeastTeethUptoSaid : Prop := fnLeastTeethUptoRow.holds Try.pinned (OpenSpec.upto fnLeastTeethSpec)

/-- 'laws.FnContacts', WHERE WHAT IT READS IS OF BULK AT MOST 1048576: true; the input reads as it did. -/
def fnContactsUptoRow : OpenClaim := { program := "ytpbmpmcifpgchaa", sum := "cae8c5afef5492150b2b52d54bde0ca3ee4062f12c39e105dd5b8bbe8dcb926a", func := "loop.example/g00921/laws.FnContacts", spec := "fnContacts", inPlace := ["math/bits.Add64", "math/bits.Sub64"], unfollowed := true, recurses := true, apart := false, narrowed := true }
def FnContactsUptoSaid : Prop := fnContactsUptoRow.holds Try.pinned (OpenSpec.upto fnContactsSpec)

/-- 'laws.FnInterference', WHERE WHAT IT READS IS OF BULK AT MOST 1048576: true; the input reads as it did. -/
def fnInterferenceUptoRow : OpenClaim := { program := "ytpbmpmcifpgchaa", sum := "cae8c5afef5492150b2b52d54bde0ca3ee4062f12c39e105dd5b8bbe8dcb926a", func := "loop.example/g00921/laws.FnInterference", spec := "fnInterference", inPlace := ["math/bits.Add64"], unfollowed := true, recurses := true, apart := false, narrowed := true }
def FnInterferenceUptoSaid : Prop := fnInterferenceUptoRow.holds Try.pinned (OpenSpec.upto fnInterferenceSpec)

/-- 'laws.FnTeethSizes', WHERE WHAT IT READS IS OF BULK AT MOST 1048576: true; the input reads as it did. -/
def fnTeethSizesUptoRow : OpenClaim := { program := "ytpbmpmcifpgchaa", sum := "cae8c5afef5492150b2b52d54bde0ca3ee4062f12c39e105dd5b8bbe8dcb926a", func := "loop.example/g00921/laws.FnTeethSizes", spec := "fnTeethSizes", inPlace := ["math/bits.Add64"], unfollowed := true, recurses := true, apart := false, narrowed := true }
def FnTeethSizesUptoSaid : Prop := fnTeethSizesUptoRow.holds Try.pinned (OpenSpec.upto fnTeethSizesSpec)

end Rows
end Go.Proofs.Ytpbmpmcifpgchaa

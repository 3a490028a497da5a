/-
  No cell of these rows narrows 'for every input' (looked for: loops, veiled, ifaces, maps, wideKeys, modest, calm, conditions, laid).
  DERIVED. THE GIVEN ROWS OF THIS SEAT. 10 by the template 'for every input the law returns true; each argument reads behind the call as it read before'; 0 by the template 'total and deterministic' (their statements: YtcgennkddoajeaaTotals.lean).
  GIVEN WITH THE SEED: the statements are not yours to turn. If you find one false, say at which input.
  Laid BY PROGRAM, IN A SANDBOX (cutbox-rows.mjs): the forced cells as the released guide's own fill.sh prints them over the translation 419b16e723245562… (all of the seat's roots in one cut). By AI agents, Wed Nov 11 2026. No macro, syntax, notation, axiom, sorry.
-/
import Derived.Test.YtcgennkddoajeaaChecked
import GoSem.Claim
import GoSem.ClaimJoined
import GoSem.ClaimMapViews
import Derived.JoinedTies
import Derived.KernelRfl
namespace Go.Proofs.Ytcgennkddoajeaa
/- THE CELL 'sum', in the pinned program and in every row, IS THE sha256 OF THE DUMP (.gsa) THAT YtcgennkddoajeaaProg.lean LOADS. Nothing in Lean hashes anything: it is a label: what it is worth is what the hold of that sum in a sandbox is worth. -/
noncomputable def Try.pinned : Pinned := { name := "ytcgennkddoajeaa", sum := "419b16e723245562f70dd397f24be8f74555b9cdf3a0b154dc4cbdd9788692e2", checked := Try.checked }
namespace Rows
def none {H : Type} : Left H := { results := [], args := [] }

/-- 'laws.FnTerms': WHATEVER THE INPUT: true; the input reads as it did. -/
def fnTermsSpec : ChangeSpec := { name := "fnTerms", fn := fun _ => fun
  | [d] => { results := [.lit (.bool true)], args := [d] }
  | _ => none }
def fnTermsRow : OpenClaim := { program := "ytcgennkddoajeaa", sum := "419b16e723245562f70dd397f24be8f74555b9cdf3a0b154dc4cbdd9788692e2", func := "loop.example/g00921/laws.FnTerms", spec := "fnTerms", unfollowed := true, recurses := true, apart := false }
def FnTermsSaid : Prop := fnTermsRow.holds Try.pinned (OpenSpec.ofChange fnTermsSpec)

/-- ITS FALSE NEIGHBOUR: 'it returns false'. Refute it at one input. -/
def fnTermsWrong : ChangeSpec := { name := "fnTerms", fn := fun _ => fun
  | [d] => { results := [.lit (.bool false)], args := [d] }
  | _ => none }
def FnTermsWrongFalsely : Prop := fnTermsRow.holds Try.pinned (OpenSpec.ofChange fnTermsWrong)

/-- 'laws.FnMeeting': WHATEVER THE INPUT: true; the input reads as it did. -/
def fnMeetingSpec : ChangeSpec := { name := "fnMeeting", fn := fun _ => fun
  | [d] => { results := [.lit (.bool true)], args := [d] }
  | _ => none }
def fnMeetingRow : OpenClaim := { program := "ytcgennkddoajeaa", sum := "419b16e723245562f70dd397f24be8f74555b9cdf3a0b154dc4cbdd9788692e2", func := "loop.example/g00921/laws.FnMeeting", spec := "fnMeeting", unfollowed := true, recurses := true, apart := false }
def FnMeetingSaid : Prop := fnMeetingRow.holds Try.pinned (OpenSpec.ofChange fnMeetingSpec)

/-- ITS FALSE NEIGHBOUR: 'it returns false'. Refute it at one input. -/
def fnMeetingWrong : ChangeSpec := { name := "fnMeeting", fn := fun _ => fun
  | [d] => { results := [.lit (.bool false)], args := [d] }
  | _ => none }
def FnMeetingWrongFalsely : Prop := fnMeetingRow.holds Try.pinned (OpenSpec.ofChange fnMeetingWrong)

/-- 'laws.FnExactPathOf': WHATEVER THE INPUT: true; the input reads as it did. -/
def fnExactPathOfSpec : ChangeSpec := { name := "fnExactPathOf", fn := fun _ => fun
  | [d] => { results := [.lit (.bool true)], args := [d] }
  | _ => none }
def fnExactPathOfRow : OpenClaim := { program := "ytcgennkddoajeaa", sum := "419b16e723245562f70dd397f24be8f74555b9cdf3a0b154dc4cbdd9788692e2", func := "loop.example/g00921/laws.FnExactPathOf", spec := "fnExactPathOf", inPlace := ["internal/abi.NoEscape"], unfollowed := true, recurses := true, apart := false }
def FnExactPathOfSaid : Prop := fnExactPathOfRow.holds Try.pinned (OpenSpec.ofChange fnExactPathOfSpec)

/-- ITS FALSE NEIGHBOUR: 'it returns false'. Refute it at one input. -/
def fnExactPathOfWrong : ChangeSpec := { name := "fnExactPathOf", fn := fun _ => fun
  | [d] => { results := [.lit (.bool false)], args := [d] }
  | _ => none }
def FnExactPathOfWrongFalsely : Prop := fnExactPathOfRow.holds Try.pinned (OpenSpec.ofChange fnExactPathOfWrong)

/-- 'laws.FnExactValidPair': WHATEVER THE INPUT: true; the input reads as it did. -/
def fnExactValidPairSpec : ChangeSpec := { name := "fnExactValidPair", fn := fun _ => fun
  | [d] => { results := [.lit (.bool true)], args := [d] }
  | _ => none }
def fnExactValidPairRow : OpenClaim := { program := "ytcgennkddoajeaa", sum := "419b16e723245562f70dd397f24be8f74555b9cdf3a0b154dc4cbdd9788692e2", func := "loop.example/g00921/laws.FnExactValidPair", spec := "fnExactValidPair", unfollowed := true, recurses := true, apart := false }
def FnExactValidPairSaid : Prop := fnExactValidPairRow.holds Try.pinned (OpenSpec.ofChange fnExactValidPairSpec)

/-- ITS FALSE NEIGHBOUR: 'it returns false'. Refute it at one input. -/
def fnExactValidPairWrong : ChangeSpec := { name := "fnExactValidPair", fn := fun _ => fun
  | [d] => { results := [.lit (.bool false)], args := [d] }
  | _ => none }
def FnExactValidPairWrongFalsely : Prop := fnExactValidPairRow.holds Try.pinned (OpenSpec.ofChange fnExactValidPairWrong)

/-- 'laws.FnExactValidTrain': WHATEVER THE INPUT: true; the input reads as it did. -/
def fnExactValidTrainSpec : ChangeSpec := { name := "fnExactValidTrain", fn := fun _ => fun
  | [d] => { results := [.lit (.bool true)], args := [d] }
  | _ => none }
def fnExactValidTrainRow : OpenClaim := { program := "ytcgennkddoajeaa", sum := "419b16e723245562f70dd397f24be8f74555b9cdf3a0b154dc4cbdd9788692e2", func := "loop.example/g00921/laws.FnExactValidTrain", spec := "fnExactValidTrain", unfollowed := true, recurses := true, apart := false }
def FnExactValidTrainSaid : Prop := fnExactValidTrainRow.holds Try.pinned (OpenSpec.ofChange fnExactValidTrainSpec)

/-- ITS FALSE NEIGHBOUR: 'it returns false'. Refute it at one input. -/
def fnExactValidTrainWrong : ChangeSpec := { name := "fnExactValidTrain", fn := fun _ => fun
  | [d] => { results := [.lit (.bool false)], args := [d] }
  | _ => none }
def FnExactValidTrainWrongFalsely : Prop := fnExactValidTrainRow.holds Try.pinned (OpenSpec.ofChange fnExactValidTrainWrong)

/-- 'laws.FnExactSameTrain': WHATEVER THE INPUT: true; the input reads as it did. -/
def fnExactSameTrainSpec : ChangeSpec := { name := "fnExactSameTrain", fn := fun _ => fun
  | [d1, d2] => { results := [.lit (.bool true)], args := [d1, d2] }
  | _ => none }
def fnExactSameTrainRow : OpenClaim := { program := "ytcgennkddoajeaa", sum := "419b16e723245562f70dd397f24be8f74555b9cdf3a0b154dc4cbdd9788692e2", func := "loop.example/g00921/laws.FnExactSameTrain", spec := "fnExactSameTrain", apart := false }
def FnExactSameTrainSaid : Prop := fnExactSameTrainRow.holds Try.pinned (OpenSpec.ofChange fnExactSameTrainSpec)

/-- ITS FALSE NEIGHBOUR: 'it returns false'. Refute it at one input. -/
def fnExactSameTrainWrong : ChangeSpec := { name := "fnExactSameTrain", fn := fun _ => fun
  | [d1, d2] => { results := [.lit (.bool false)], args := [d1, d2] }
  | _ => none }
def FnExactSameTrainWrongFalsely : Prop := fnExactSameTrainRow.holds Try.pinned (OpenSpec.ofChange fnExactSameTrainWrong)

/-- 'laws.FnExactCanonTrain': WHATEVER THE INPUT: true; the input reads as it did. -/
def fnExactCanonTrainSpec : ChangeSpec := { name := "fnExactCanonTrain", fn := fun _ => fun
  | [d] => { results := [.lit (.bool true)], args := [d] }
  | _ => none }
def fnExactCanonTrainRow : OpenClaim := { program := "ytcgennkddoajeaa", sum := "419b16e723245562f70dd397f24be8f74555b9cdf3a0b154dc4cbdd9788692e2", func := "loop.example/g00921/laws.FnExactCanonTrain", spec := "fnExactCanonTrain", unfollowed := true, recurses := true, apart := false }
def FnExactCanonTrainSaid : Prop := fnExactCanonTrainRow.holds Try.pinned (OpenSpec.ofChange fnExactCanonTrainSpec)

/-- ITS FALSE NEIGHBOUR: 'it returns false'. Refute it at one input. -/
def fnExactCanonTrainWrong : ChangeSpec := { name := "fnExactCanonTrain", fn := fun _ => fun
  | [d] => { results := [.lit (.bool false)], args := [d] }
  | _ => none }
def FnExactCanonTrainWrongFalsely : Prop := fnExactCanonTrainRow.holds Try.pinned (OpenSpec.ofChange fnExactCanonTrainWrong)

/-- 'laws.FnExactReverseTrain': WHATEVER THE INPUT: true; the input reads as it did. -/
def fnExactReverseTrainSpec : ChangeSpec := { name := "fnExactReverseTrain", fn := fun _ => fun
  | [d] => { results := [.lit (.bool true)], args := [d] }
  | _ => none }
def fnExactReverseTrainRow : OpenClaim := { program := "ytcgennkddoajeaa", sum := "419b16e723245562f70dd397f24be8f74555b9cdf3a0b154dc4cbdd9788692e2", func := "loop.example/g00921/laws.FnExactReverseTrain", spec := "fnExactReverseTrain", unfollowed := true, recurses := true, apart := false }
def FnExactReverseTrainSaid : Prop := fnExactReverseTrainRow.holds Try.pinned (OpenSpec.ofChange fnExactReverseTrainSpec)

/-- ITS FALSE NEIGHBOUR: 'it returns false'. Refute it at one input. -/
def fnExactReverseTrainWrong : ChangeSpec := { name := "fnExactReverseTrain", fn := fun _ => fun
  | [d] => { results := [.lit (.bool false)], args := [d] }
  | _ => none }
def FnExactReverseTrainWrongFalsely : Prop := fnExactReverseTrainRow.holds Try.pinned (OpenSpec.ofChange fnExactReverseTrainWrong)

/-- 'laws.FnExactTeethOf': WHATEVER THE INPUT: true; the input reads as it did. -/
def fnExactTeethOfSpec : ChangeSpec := { name := "fnExactTeethOf", fn := fun _ => fun
  | [d] => { results := [.lit (.bool true)], args := [d] }
  | _ => none }
def fnExactTeethOfRow : OpenClaim := { program := "ytcgennkddoajeaa", sum := "419b16e723245562f70dd397f24be8f74555b9cdf3a0b154dc4cbdd9788692e2", func := "loop.example/g00921/laws.FnExactTeethOf", spec := "fnExactTeethOf", unfollowed := true, recurses := true, apart := false }
def FnExactTeethOfSaid : Prop := fnExactTeethOfRow.holds Try.pinned (OpenSpec.ofChange fnExactTeethOfSpec)

/-- ITS FALSE NEIGHBOUR: 'it returns false'. Refute it at one input. -/
def fnExactTeethOfWrong : ChangeSpec := { name := "fnExactTeethOf", fn := fun _ => fun
  | [d] => { results := [.lit (.bool false)], args := [d] }
  | _ => none }
def FnExactTeethOfWrongFalsely : Prop := fnExactTeethOfRow.holds Try.pinned (OpenSpec.ofChange fnExactTeethOfWrong)

/-- 'laws.FnExactMeetingTurns': WHATEVER THE INPUT: true; the input reads as it did. -/
def fnExactMeetingTurnsSpec : ChangeSpec := { name := "fnExactMeetingTurns", fn := fun _ => fun
  | [d] => { results := [.lit (.bool true)], args := [d] }
  | _ => none }
def fnExactMeetingTurnsRow : OpenClaim := { program := "ytcgennkddoajeaa", sum := "419b16e723245562f70dd397f24be8f74555b9cdf3a0b154dc4cbdd9788692e2", func := "loop.example/g00921/laws.FnExactMeetingTurns", spec := "fnExactMeetingTurns", unfollowed := true, recurses := true, apart := false }
def FnExactMeetingTurnsSaid : Prop := fnExactMeetingTurnsRow.holds Try.pinned (OpenSpec.ofChange fnExactMeetingTurnsSpec)

/-- ITS FALSE NEIGHBOUR: 'it returns false'. Refute it at one input. -/
def fnExactMeetingTurnsWrong : ChangeSpec := { name := "fnExactMeetingTurns", fn := fun _ => fun
  | [d] => { results := [.lit (.bool false)], args := [d] }
  | _ => none }
def FnExactMeetingTurnsWrongFalsely : Prop := fnExactMeetingTurnsRow.holds Try.pinned (OpenSpec.ofChange fnExactMeetingTurnsWrong)

/- THE SECOND FORM. 'bulk': how many values and letters a reading holds, each counted each time it is reached (what is shared counts as often as it is met; a slice's spare places count too). A statement '..UptoSaid' is the law's where the arguments, and the package variables that the reading takes, are together of bulk at most 1048576: NARROWER than '..Said'. Prove '..Said' where nothing that the law and all that it calls make is longer than what came in: it says more and counts as full. Else prove '..UptoSaid'. A law counts once. -/
mutual
def uptoBulk {H : Type} : DataW H → Nat
  | .lit (.string bytes) => bytes.length + 1
  | .lit _ => 1
  | .nil => 1
  | .ptr d => uptoBulk d + 1
  | .slice elems spare => uptoBulkAll elems + uptoBulkAll spare + 1
  | .agg parts => uptoBulkAll parts + 1
  | .iface _ d => uptoBulk d + 1
  | .map entries => uptoBulkEntries entries + 1
  | .held _ => 1
def uptoBulkAll {H : Type} : List (DataW H) → Nat
  | [] => 0
  | d :: r => uptoBulk d + uptoBulkAll r
def uptoBulkEntries {H : Type} : List (Lit × DataW H) → Nat
  | [] => 0
  | x :: r => uptoBulkEntry x + uptoBulkEntries r
def uptoBulkEntry {H : Type} : Lit × DataW H → Nat
  | (.string bytes, d) => bytes.length + uptoBulk d + 1
  | (_, d) => uptoBulk d + 1
 end
def uptoSmall : (H : Type) → List (DataW H) → Bool := fun _ ds => decide (uptoBulkAll ds ≤ 1048576)
def OpenSpec.upto (s : _root_.Go.ChangeSpec) : _root_.Go.OpenSpec := { _root_.Go.OpenSpec.ofChange s with cond := some uptoSmall }

/-- 'laws.FnTerms', WHERE WHAT IT READS IS OF BULK AT MOST 1048576: true; the input reads as it did. -/
def fnTermsUptoRow : OpenClaim := { program := "ytcgennkddoajeaa", sum := "419b16e723245562f70dd397f24be8f74555b9cdf3a0b154dc4cbdd9788692e2", func := "loop.example/g00921/laws.FnTerms", spec := "fnTerms", unfollowed := true, recurses := true, apart := false, narrowed := true }
def FnTermsUptoSaid : Prop := fnTermsUptoRow.holds Try.pinned (OpenSpec.upto fnTermsSpec)

/-- 'laws.FnMeeting', WHERE WHAT IT READS IS OF BULK AT MOST 1048576: true; the input reads as it did. -/
def fnMeetingUptoRow : OpenClaim := { program := "ytcgennkddoajeaa", sum := "419b16e723245562f70dd397f24be8f74555b9cdf3a0b154dc4cbdd9788692e2", func := "loop.example/g00921/laws.FnMeeting", spec := "fnMeeting", unfollowed := true, recurses := true, apart := false, narrowed := true }
def FnMeetingUptoSaid : Prop := fnMeetingUptoRow.holds Try.pinned (OpenSpec.upto fnMeetingSpec)

/-- 'laws.FnExactPathOf', WHERE WHAT IT READS IS OF BULK AT MOST 1048576: true; the input reads as it did. -/
def fnExactPathOfUptoRow : OpenClaim := { program := "ytcgennkddoajeaa", sum := "419b16e723245562f70dd397f24be8f74555b9cdf3a0b154dc4cbdd9788692e2", func := "loop.example/g00921/laws.FnExactPathOf", spec := "fnExactPathOf", inPlace := ["internal/abi.NoEscape"], unfollowed := true, recurses := true, apart := false, narrowed := true }
def FnExactPathOfUptoSaid : Prop := fnExactPathOfUptoRow.holds Try.pinned (OpenSpec.upto fnExactPathOfSpec)

/-- 'laws.FnExactValidPair', WHERE WHAT IT READS IS OF BULK AT MOST 1048576: true; the input reads as it did. -/
def fnExactValidPairUptoRow : OpenClaim := { program := "ytcgennkddoajeaa", sum := "419b16e723245562f70dd397f24be8f74555b9cdf3a0b154dc4cbdd9788692e2", func := "loop.example/g00921/laws.FnExactValidPair", spec := "fnExactValidPair", unfollowed := true, recurses := true, apart := false, narrowed := true }
def FnExactValidPairUptoSaid : Prop := fnExactValidPairUptoRow.holds Try.pinned (OpenSpec.upto fnExactValidPairSpec)

/-- 'laws.FnExactValidTrain', WHERE WHAT IT READS IS OF BULK AT MOST 1048576: true; the input reads as it did. -/
def fnExactValidTrainUptoRow : OpenClaim := { program := "ytcgennkddoajeaa", sum := "419b16e723245562f70dd397f24be8f74555b9cdf3a0b154dc4cbdd9788692e2", func := "loop.example/g00921/laws.FnExactValidTrain", spec := "fnExactValidTrain", unfollowed := true, recurses := true, apart := false, narrowed := true }
def FnExactValidTrainUptoSaid : Prop := fnExactValidTrainUptoRow.holds Try.pinned (OpenSpec.upto fnExactValidTrainSpec)

/-- 'laws.FnExactSameTrain', WHERE WHAT IT READS IS OF BULK AT MOST 1048576: true; the input reads as it did. -/
def fnExactSameTrainUptoRow : OpenClaim := { program := "ytcgennkddoajeaa", sum := "419b16e723245562f70dd397f24be8f74555b9cdf3a0b154dc4cbdd9788692e2", func := "loop.example/g00921/laws.FnExactSameTrain", spec := "fnExactSameTrain", apart := false, narrowed := true }
def FnExactSameTrainUptoSaid : Prop := fnExactSameTrainUptoRow.holds Try.pinned (OpenSpec.upto fnExactSameTrainSpec)

/-- 'laws.FnExactCanonTrain', WHERE WHAT IT READS IS OF BULK AT MOST 1048576: true; the input reads as it did. -/
def fnExactCanonTrainUptoRow : OpenClaim := { program := "ytcgennkddoajeaa", sum := "419b16e723245562f70dd397f24be8f74555b9cdf3a0b154dc4cbdd9788692e2", func := "loop.example/g00921/laws.FnExactCanonTrain", spec := "fnExactCanonTrain", unfollowed := true, recurses := true, apart := false, narrowed := true }
def FnExactCanonTrainUptoSaid : Prop := fnExactCanonTrainUptoRow.holds Try.pinned (OpenSpec.upto fnExactCanonTrainSpec)

/-- 'laws.FnExactReverseTrain', WHERE WHAT IT READS IS OF BULK AT MOST 1048576: true; the input reads as it did. -/
def fnExactReverseTrainUptoRow : OpenClaim := { program := "ytcgennkddoajeaa", sum := "419b16e723245562f70dd397f24be8f74555b9cdf3a0b154dc4cbdd9788692e2", func := "loop.example/g00921/laws.FnExactReverseTrain", spec := "fnExactReverseTrain", unfollowed := true, recurses := true, apart := false, narrowed := true }
def FnExactReverseTrainUptoSaid : Prop := fnExactReverseTrainUptoRow.holds Try.pinned (OpenSpec.upto fnExactReverseTrainSpec)

/-- 'laws.FnExactTeethOf', WHERE WHAT IT READS IS OF BULK AT MOST 1048576: true; the input reads as it did. -/
def fnExactTeethOfUptoRow : OpenClaim := { program := "ytcgennkddoajeaa", sum := "419b16e723245562f70dd397f24be8f74555b9cdf3a0b154dc4cbdd9788692e2", func := "loop.example/g00921/laws.FnExactTeethOf", spec := "fnExactTeethOf", unfollowed := true, recurses := true, apart := false, narrowed := true }
def FnExactTeethOfUptoSaid : Prop := fnExactTeethOfUptoRow.holds Try.pinned (OpenSpec.upto fnExactTeethOfSpec)

/-- 'laws.FnExactMeetingTurns', WHERE WHAT IT READS IS OF BULK AT MOST 1048576: true; the input reads as it did. -/
def fnExactMeetingTurnsUptoRow : OpenClaim := { program := "ytcgennkddoajeaa", sum := "419b16e723245562f70dd397f24be8f74555b9cdf3a0b154dc4cbdd9788692e2", func := "loop.example/g00921/laws.FnExactMeetingTurns", spec := "fnExactMeetingTurns", unfollowed := true, recurses := true, apart := false, narrowed := true }
def FnExactMeetingTurnsUptoSaid : Prop := fnExactMeetingTurnsUptoRow.holds Try.pinned (OpenSpec.upto fnExactMeetingTurnsSpec)

end Rows
end Go.Proofs.Ytcgennkddoajeaa

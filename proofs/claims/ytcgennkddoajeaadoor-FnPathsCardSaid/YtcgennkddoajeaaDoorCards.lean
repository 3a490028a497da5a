/-
  DERIVED. GIVEN WITH THE SEED: THE CARDS: each row of YtcgennkddoajeaaDoorRows.lean that lists a variable, with what it lists TIED to the program's text (the seventh form; the later family's looks); each row that meets fmt, with fmt's text TOLD by the authors' own Lean function (tested against real Go, not proved from fmt's source: count such statements apart). THE CARD IS WHAT COUNTS. Prove the row's statement (the work); the ties are given (YtcgennkddoajeaaDoorTie.lean); close each card by the builder's one call (the guide's Derived/Test/ToyasCard.lean, 'card_holds'). Laid BY PROGRAM, IN A SANDBOX (cutbox-door.mjs). By AI agents, Wed Nov 11 2026. No macro, syntax, notation, axiom, sorry.
-/
import Derived.Test.YtcgennkddoajeaaDoorRows
import GoSem.ClaimSeven
namespace Go.Proofs.YtcgennkddoajeaaDoor
namespace Rows

/-- THE TIED CARD OF 'laws.FnPaths'. -/
def fnPathsCard : Claim7 := { stood := { row := fnPathsRow, standIns := [], harness := (true, "72c999ee5a0d27645f8f707421683a2415eaf6fa68ae4656b28d9c5c2c2cc61a"), looks := true }, kinds := [], alts := [], laidByText := true, laidKinds := [.data, .pinned], laidTests := true, laidLooks := .later }
def FnPathsCardSaid : Prop := Claim7.holds Tryd.pinned (.plain (OpenSpec.ofChange fnPathsSpec)) fnPathsCard

/-- THE TIED CARD OF 'laws.FnExactTrainRatio'. -/
def fnExactTrainRatioCard : Claim7 := { stood := { row := fnExactTrainRatioRow, standIns := [], harness := (true, "72c999ee5a0d27645f8f707421683a2415eaf6fa68ae4656b28d9c5c2c2cc61a"), looks := true }, kinds := [], alts := [], laidByText := true, laidKinds := [.sentinel, .sentinel], laidTests := true, laidLooks := .later }
def FnExactTrainRatioCardSaid : Prop := Claim7.holds Tryd.pinned (.plain (OpenSpec.ofChange fnExactTrainRatioSpec)) fnExactTrainRatioCard

/-- THE TIED CARD OF 'laws.FnExactBeatsPerHour'. -/
def fnExactBeatsPerHourCard : Claim7 := { stood := { row := fnExactBeatsPerHourRow, standIns := [], harness := (true, "72c999ee5a0d27645f8f707421683a2415eaf6fa68ae4656b28d9c5c2c2cc61a"), looks := true }, kinds := [], alts := [], laidByText := true, laidKinds := [.sentinel, .sentinel], laidTests := true, laidLooks := .later }
def FnExactBeatsPerHourCardSaid : Prop := Claim7.holds Tryd.pinned (.plain (OpenSpec.ofChange fnExactBeatsPerHourSpec)) fnExactBeatsPerHourCard

/-- THE TIED CARD OF 'laws.FnExactTrainText'. -/
def fnExactTrainTextCard : Claim7 := { stood := { row := fnExactTrainTextRow, standIns := [], harness := (true, "72c999ee5a0d27645f8f707421683a2415eaf6fa68ae4656b28d9c5c2c2cc61a"), looks := true }, kinds := [], alts := [], laidByText := true, laidKinds := [.data, .data, .data], laidTests := true, laidLooks := .later }
def FnExactTrainTextCardSaid : Prop := Claim7.holds Tryd.pinned (.plain (OpenSpec.ofChange fnExactTrainTextSpec)) fnExactTrainTextCard

/-- THE TIED CARD OF 'laws.FnExactReadTrain'. -/
def fnExactReadTrainCard : Claim7 := { stood := { row := fnExactReadTrainRow, standIns := [], harness := (true, "72c999ee5a0d27645f8f707421683a2415eaf6fa68ae4656b28d9c5c2c2cc61a"), looks := true }, kinds := [], alts := [], laidByText := true, laidKinds := [.data, .data, .data, .data, .sentinel, .sentinel, .pinned], laidTests := true, laidLooks := .later }
def FnExactReadTrainCardSaid : Prop := Claim7.holds Tryd.pinned (.plain (OpenSpec.ofChange fnExactReadTrainSpec)) fnExactReadTrainCard

/-- THE SECOND FORM's CARD OF 'laws.FnPaths'. -/
def fnPathsUptoCard : Claim7 := { stood := { row := fnPathsUptoRow, standIns := [], harness := (true, "72c999ee5a0d27645f8f707421683a2415eaf6fa68ae4656b28d9c5c2c2cc61a"), looks := true }, kinds := [], alts := [], laidByText := true, laidKinds := [.data, .pinned], laidTests := true, laidLooks := .later }
def FnPathsUptoCardSaid : Prop := Claim7.holds Tryd.pinned (.plain (OpenSpec.upto fnPathsSpec)) fnPathsUptoCard

/-- THE SECOND FORM's CARD OF 'laws.FnExactTrainRatio'. -/
def fnExactTrainRatioUptoCard : Claim7 := { stood := { row := fnExactTrainRatioUptoRow, standIns := [], harness := (true, "72c999ee5a0d27645f8f707421683a2415eaf6fa68ae4656b28d9c5c2c2cc61a"), looks := true }, kinds := [], alts := [], laidByText := true, laidKinds := [.sentinel, .sentinel], laidTests := true, laidLooks := .later }
def FnExactTrainRatioUptoCardSaid : Prop := Claim7.holds Tryd.pinned (.plain (OpenSpec.upto fnExactTrainRatioSpec)) fnExactTrainRatioUptoCard

/-- THE SECOND FORM's CARD OF 'laws.FnExactBeatsPerHour'. -/
def fnExactBeatsPerHourUptoCard : Claim7 := { stood := { row := fnExactBeatsPerHourUptoRow, standIns := [], harness := (true, "72c999ee5a0d27645f8f707421683a2415eaf6fa68ae4656b28d9c5c2c2cc61a"), looks := true }, kinds := [], alts := [], laidByText := true, laidKinds := [.sentinel, .sentinel], laidTests := true, laidLooks := .later }
def FnExactBeatsPerHourUptoCardSaid : Prop := Claim7.holds Tryd.pinned (.plain (OpenSpec.upto fnExactBeatsPerHourSpec)) fnExactBeatsPerHourUptoCard

/-- THE SECOND FORM's CARD OF 'laws.FnExactTrainText'. -/
def fnExactTrainTextUptoCard : Claim7 := { stood := { row := fnExactTrainTextUptoRow, standIns := [], harness := (true, "72c999ee5a0d27645f8f707421683a2415eaf6fa68ae4656b28d9c5c2c2cc61a"), looks := true }, kinds := [], alts := [], laidByText := true, laidKinds := [.data, .data, .data], laidTests := true, laidLooks := .later }
def FnExactTrainTextUptoCardSaid : Prop := Claim7.holds Tryd.pinned (.plain (OpenSpec.upto fnExactTrainTextSpec)) fnExactTrainTextUptoCard

/-- THE SECOND FORM's CARD OF 'laws.FnExactReadTrain'. -/
def fnExactReadTrainUptoCard : Claim7 := { stood := { row := fnExactReadTrainUptoRow, standIns := [], harness := (true, "72c999ee5a0d27645f8f707421683a2415eaf6fa68ae4656b28d9c5c2c2cc61a"), looks := true }, kinds := [], alts := [], laidByText := true, laidKinds := [.data, .data, .data, .data, .sentinel, .sentinel, .pinned], laidTests := true, laidLooks := .later }
def FnExactReadTrainUptoCardSaid : Prop := Claim7.holds Tryd.pinned (.plain (OpenSpec.upto fnExactReadTrainSpec)) fnExactReadTrainUptoCard
end Rows
end Go.Proofs.YtcgennkddoajeaaDoor

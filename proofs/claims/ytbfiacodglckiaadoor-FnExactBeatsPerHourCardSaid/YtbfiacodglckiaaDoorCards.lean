/-
  DERIVED. GIVEN WITH THE SEED: THE CARDS: each row of YtbfiacodglckiaaDoorRows.lean that lists a variable, with what it lists TIED to the program's text (the seventh form; the later family's looks); each row that meets fmt, with fmt's text TOLD by the authors' own Lean function (tested against real Go, not proved from fmt's source: count such statements apart). THE CARD IS WHAT COUNTS. Prove the row's statement (the work); the ties are given (YtbfiacodglckiaaDoorTie.lean); close each card by the builder's one call (the guide's Derived/Test/ToyasCard.lean, 'card_holds'). Laid BY PROGRAM, IN A SANDBOX (cutbox-door.mjs). By AI agents, Wed Nov 11 2026. No macro, syntax, notation, axiom, sorry.
-/
import Derived.Test.YtbfiacodglckiaaDoorRows
import GoSem.ClaimSeven
namespace Go.Proofs.YtbfiacodglckiaaDoor
namespace Rows

/-- THE TIED CARD OF 'laws.FnExactBeatsPerHour'. -/
def fnExactBeatsPerHourCard : Claim7 := { stood := { row := fnExactBeatsPerHourRow, standIns := [], harness := (true, "e0493b412a170bd58ba1d1e05418d5dda0ad802baefb68b37c7d476ed8e4267f"), looks := true }, kinds := [], alts := [], laidByText := true, laidKinds := [.sentinel, .sentinel], laidTests := true, laidLooks := .later }
def FnExactBeatsPerHourCardSaid : Prop := Claim7.holds Tryd.pinned (.plain (OpenSpec.ofChange fnExactBeatsPerHourSpec)) fnExactBeatsPerHourCard

/-- THE TIED CARD OF 'laws.FnExactReadTrain'. -/
def fnExactReadTrainCard : Claim7 := { stood := { row := fnExactReadTrainRow, standIns := [], harness := (true, "e0493b412a170bd58ba1d1e05418d5dda0ad802baefb68b37c7d476ed8e4267f"), looks := true }, kinds := [], alts := [], laidByText := true, laidKinds := [.data, .data, .data, .data, .sentinel, .sentinel, .pinned], laidTests := true, laidLooks := .later }
def FnExactReadTrainCardSaid : Prop := Claim7.holds Tryd.pinned (.plain (OpenSpec.ofChange fnExactReadTrainSpec)) fnExactReadTrainCard

/-- THE TIED CARD OF 'laws.FnExactErrorOf'. -/
def fnExactErrorOfCard : Claim7 := { stood := { row := fnExactErrorOfRow, standIns := [], harness := (true, "e0493b412a170bd58ba1d1e05418d5dda0ad802baefb68b37c7d476ed8e4267f"), looks := true }, kinds := [], alts := [], laidByText := true, laidKinds := [.sentinel, .sentinel], laidTests := true, laidLooks := .later }
def FnExactErrorOfCardSaid : Prop := Claim7.holds Tryd.pinned (.plain (OpenSpec.ofChange fnExactErrorOfSpec)) fnExactErrorOfCard

/-- THE SECOND FORM's CARD OF 'laws.FnExactBeatsPerHour'. -/
def fnExactBeatsPerHourUptoCard : Claim7 := { stood := { row := fnExactBeatsPerHourUptoRow, standIns := [], harness := (true, "e0493b412a170bd58ba1d1e05418d5dda0ad802baefb68b37c7d476ed8e4267f"), looks := true }, kinds := [], alts := [], laidByText := true, laidKinds := [.sentinel, .sentinel], laidTests := true, laidLooks := .later }
def FnExactBeatsPerHourUptoCardSaid : Prop := Claim7.holds Tryd.pinned (.plain (OpenSpec.upto fnExactBeatsPerHourSpec)) fnExactBeatsPerHourUptoCard

/-- THE SECOND FORM's CARD OF 'laws.FnExactReadTrain'. -/
def fnExactReadTrainUptoCard : Claim7 := { stood := { row := fnExactReadTrainUptoRow, standIns := [], harness := (true, "e0493b412a170bd58ba1d1e05418d5dda0ad802baefb68b37c7d476ed8e4267f"), looks := true }, kinds := [], alts := [], laidByText := true, laidKinds := [.data, .data, .data, .data, .sentinel, .sentinel, .pinned], laidTests := true, laidLooks := .later }
def FnExactReadTrainUptoCardSaid : Prop := Claim7.holds Tryd.pinned (.plain (OpenSpec.upto fnExactReadTrainSpec)) fnExactReadTrainUptoCard

/-- THE SECOND FORM's CARD OF 'laws.FnExactErrorOf'. -/
def fnExactErrorOfUptoCard : Claim7 := { stood := { row := fnExactErrorOfUptoRow, standIns := [], harness := (true, "e0493b412a170bd58ba1d1e05418d5dda0ad802baefb68b37c7d476ed8e4267f"), looks := true }, kinds := [], alts := [], laidByText := true, laidKinds := [.sentinel, .sentinel], laidTests := true, laidLooks := .later }
def FnExactErrorOfUptoCardSaid : Prop := Claim7.holds Tryd.pinned (.plain (OpenSpec.upto fnExactErrorOfSpec)) fnExactErrorOfUptoCard
end Rows
end Go.Proofs.YtbfiacodglckiaaDoor

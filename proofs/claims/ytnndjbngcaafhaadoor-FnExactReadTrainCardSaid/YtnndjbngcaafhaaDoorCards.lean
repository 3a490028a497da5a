/-
  DERIVED. GIVEN WITH THE SEED: THE CARDS: each row of YtnndjbngcaafhaaDoorRows.lean that lists a variable, with what it lists TIED to the program's text (the seventh form; the later family's looks); each row that meets fmt, with fmt's text TOLD by the authors' own Lean function (tested against real Go, not proved from fmt's source: count such statements apart). THE CARD IS WHAT COUNTS. Prove the row's statement (the work); the ties are given (YtnndjbngcaafhaaDoorTie.lean); close each card by the builder's one call (the guide's Derived/Test/ToyasCard.lean, 'card_holds'). Laid BY PROGRAM, IN A SANDBOX (cutbox-door.mjs). By AI agents, Wed Nov 11 2026. No macro, syntax, notation, axiom, sorry.
-/
import Derived.Test.YtnndjbngcaafhaaDoorRows
import GoSem.ClaimSeven
namespace Go.Proofs.YtnndjbngcaafhaaDoor
namespace Rows

/-- THE TIED CARD OF 'laws.FnExactReadTrain'. -/
def fnExactReadTrainCard : Claim7 := { stood := { row := fnExactReadTrainRow, standIns := [], harness := (true, "733cbb2a67b988451b075ebfff887c58767b42e7ebbff49df5baac8a1996bf15"), looks := true }, kinds := [], alts := [], laidByText := true, laidKinds := [.data, .data, .data, .data, .sentinel, .sentinel, .pinned], laidTests := true, laidLooks := .later }
def FnExactReadTrainCardSaid : Prop := Claim7.holds Tryd.pinned (.plain (OpenSpec.ofChange fnExactReadTrainSpec)) fnExactReadTrainCard

/-- THE TIED CARD OF 'laws.FnExactErrorOf'. -/
def fnExactErrorOfCard : Claim7 := { stood := { row := fnExactErrorOfRow, standIns := [], harness := (true, "733cbb2a67b988451b075ebfff887c58767b42e7ebbff49df5baac8a1996bf15"), looks := true }, kinds := [], alts := [], laidByText := true, laidKinds := [.sentinel, .sentinel], laidTests := true, laidLooks := .later }
def FnExactErrorOfCardSaid : Prop := Claim7.holds Tryd.pinned (.plain (OpenSpec.ofChange fnExactErrorOfSpec)) fnExactErrorOfCard

/-- THE TIED CARD OF 'laws.FnExactDriftOf'. -/
def fnExactDriftOfCard : Claim7 := { stood := { row := fnExactDriftOfRow, standIns := [], harness := (true, "733cbb2a67b988451b075ebfff887c58767b42e7ebbff49df5baac8a1996bf15"), looks := true }, kinds := [], alts := [], laidByText := true, laidKinds := [.sentinel, .sentinel], laidTests := true, laidLooks := .later }
def FnExactDriftOfCardSaid : Prop := Claim7.holds Tryd.pinned (.plain (OpenSpec.ofChange fnExactDriftOfSpec)) fnExactDriftOfCard

/-- THE TIED CARD OF 'laws.FnExactFoundText'. -/
def fnExactFoundTextCard : Claim7 := { stood := { row := fnExactFoundTextRow, standIns := [], harness := (true, "733cbb2a67b988451b075ebfff887c58767b42e7ebbff49df5baac8a1996bf15"), looks := true }, kinds := [], alts := [], laidByText := true, laidKinds := [.data, .data, .data], laidTests := true, laidLooks := .later }
def FnExactFoundTextCardSaid : Prop := Claim7.holds Tryd.pinned (.plain (OpenSpec.ofChange fnExactFoundTextSpec)) fnExactFoundTextCard

/-- THE SECOND FORM's CARD OF 'laws.FnExactReadTrain'. -/
def fnExactReadTrainUptoCard : Claim7 := { stood := { row := fnExactReadTrainUptoRow, standIns := [], harness := (true, "733cbb2a67b988451b075ebfff887c58767b42e7ebbff49df5baac8a1996bf15"), looks := true }, kinds := [], alts := [], laidByText := true, laidKinds := [.data, .data, .data, .data, .sentinel, .sentinel, .pinned], laidTests := true, laidLooks := .later }
def FnExactReadTrainUptoCardSaid : Prop := Claim7.holds Tryd.pinned (.plain (OpenSpec.upto fnExactReadTrainSpec)) fnExactReadTrainUptoCard

/-- THE SECOND FORM's CARD OF 'laws.FnExactErrorOf'. -/
def fnExactErrorOfUptoCard : Claim7 := { stood := { row := fnExactErrorOfUptoRow, standIns := [], harness := (true, "733cbb2a67b988451b075ebfff887c58767b42e7ebbff49df5baac8a1996bf15"), looks := true }, kinds := [], alts := [], laidByText := true, laidKinds := [.sentinel, .sentinel], laidTests := true, laidLooks := .later }
def FnExactErrorOfUptoCardSaid : Prop := Claim7.holds Tryd.pinned (.plain (OpenSpec.upto fnExactErrorOfSpec)) fnExactErrorOfUptoCard

/-- THE SECOND FORM's CARD OF 'laws.FnExactDriftOf'. -/
def fnExactDriftOfUptoCard : Claim7 := { stood := { row := fnExactDriftOfUptoRow, standIns := [], harness := (true, "733cbb2a67b988451b075ebfff887c58767b42e7ebbff49df5baac8a1996bf15"), looks := true }, kinds := [], alts := [], laidByText := true, laidKinds := [.sentinel, .sentinel], laidTests := true, laidLooks := .later }
def FnExactDriftOfUptoCardSaid : Prop := Claim7.holds Tryd.pinned (.plain (OpenSpec.upto fnExactDriftOfSpec)) fnExactDriftOfUptoCard

/-- THE SECOND FORM's CARD OF 'laws.FnExactFoundText'. -/
def fnExactFoundTextUptoCard : Claim7 := { stood := { row := fnExactFoundTextUptoRow, standIns := [], harness := (true, "733cbb2a67b988451b075ebfff887c58767b42e7ebbff49df5baac8a1996bf15"), looks := true }, kinds := [], alts := [], laidByText := true, laidKinds := [.data, .data, .data], laidTests := true, laidLooks := .later }
def FnExactFoundTextUptoCardSaid : Prop := Claim7.holds Tryd.pinned (.plain (OpenSpec.upto fnExactFoundTextSpec)) fnExactFoundTextUptoCard
end Rows
end Go.Proofs.YtnndjbngcaafhaaDoor

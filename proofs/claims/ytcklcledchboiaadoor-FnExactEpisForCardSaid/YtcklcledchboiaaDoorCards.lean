/-
  DERIVED. GIVEN WITH THE SEED: THE CARDS: each row of YtcklcledchboiaaDoorRows.lean that lists a variable, with what it lists TIED to the program's text (the seventh form; the later family's looks); each row that meets fmt, with fmt's text TOLD by the authors' own Lean function (tested against real Go, not proved from fmt's source: count such statements apart). THE CARD IS WHAT COUNTS. Prove the row's statement (the work); the ties are given (YtcklcledchboiaaDoorTie.lean); close each card by the builder's one call (the guide's Derived/Test/ToyasCard.lean, 'card_holds'). Laid BY PROGRAM, IN A SANDBOX (cutbox-door.mjs). By AI agents, Wed Nov 11 2026. No macro, syntax, notation, axiom, sorry.
-/
import Derived.Test.YtcklcledchboiaaDoorRows
import GoSem.ClaimSeven
namespace Go.Proofs.YtcklcledchboiaaDoor
namespace Rows

/-- THE TIED CARD OF 'laws.FnEpis'. -/
def fnEpisCard : Claim7 := { stood := { row := fnEpisRow, standIns := [], harness := (true, "9355ae3af50816d1ad6bac6dbe6214d4cfa1a13ea99cce2966f5b76767002f54"), looks := true }, kinds := [], alts := [], laidByText := true, laidKinds := [.sentinel, .sentinel, .data], laidTests := true, laidLooks := .later }
def FnEpisCardSaid : Prop := Claim7.holds Tryd.pinned (.plain (OpenSpec.ofChange fnEpisSpec)) fnEpisCard

/-- THE TIED CARD OF 'laws.FnExactEpiFaults'. -/
def fnExactEpiFaultsCard : Claim7 := { stood := { row := fnExactEpiFaultsRow, standIns := [], harness := (true, "9355ae3af50816d1ad6bac6dbe6214d4cfa1a13ea99cce2966f5b76767002f54"), looks := true }, kinds := [], alts := [], laidByText := true, laidKinds := [.data], laidTests := true, laidLooks := .later }
def FnExactEpiFaultsCardSaid : Prop := Claim7.holds Tryd.pinned (.plain (OpenSpec.ofChange fnExactEpiFaultsSpec)) fnExactEpiFaultsCard

/-- THE TIED CARD OF 'laws.FnExactValidEpi'. -/
def fnExactValidEpiCard : Claim7 := { stood := { row := fnExactValidEpiRow, standIns := [], harness := (true, "9355ae3af50816d1ad6bac6dbe6214d4cfa1a13ea99cce2966f5b76767002f54"), looks := true }, kinds := [], alts := [], laidByText := true, laidKinds := [.data], laidTests := true, laidLooks := .later }
def FnExactValidEpiCardSaid : Prop := Claim7.holds Tryd.pinned (.plain (OpenSpec.ofChange fnExactValidEpiSpec)) fnExactValidEpiCard

/-- THE TIED CARD OF 'laws.FnExactSunOf'. -/
def fnExactSunOfCard : Claim7 := { stood := { row := fnExactSunOfRow, standIns := [], harness := (true, "9355ae3af50816d1ad6bac6dbe6214d4cfa1a13ea99cce2966f5b76767002f54"), looks := true }, kinds := [], alts := [], laidByText := true, laidKinds := [.sentinel, .sentinel, .data], laidTests := true, laidLooks := .later }
def FnExactSunOfCardSaid : Prop := Claim7.holds Tryd.pinned (.plain (OpenSpec.ofChange fnExactSunOfSpec)) fnExactSunOfCard

/-- THE TIED CARD OF 'laws.FnExactRingOf'. -/
def fnExactRingOfCard : Claim7 := { stood := { row := fnExactRingOfRow, standIns := [], harness := (true, "9355ae3af50816d1ad6bac6dbe6214d4cfa1a13ea99cce2966f5b76767002f54"), looks := true }, kinds := [], alts := [], laidByText := true, laidKinds := [.sentinel, .sentinel, .data], laidTests := true, laidLooks := .later }
def FnExactRingOfCardSaid : Prop := Claim7.holds Tryd.pinned (.plain (OpenSpec.ofChange fnExactRingOfSpec)) fnExactRingOfCard

/-- THE TIED CARD OF 'laws.FnExactCarrierOf'. -/
def fnExactCarrierOfCard : Claim7 := { stood := { row := fnExactCarrierOfRow, standIns := [], harness := (true, "9355ae3af50816d1ad6bac6dbe6214d4cfa1a13ea99cce2966f5b76767002f54"), looks := true }, kinds := [], alts := [], laidByText := true, laidKinds := [.sentinel, .sentinel, .data], laidTests := true, laidLooks := .later }
def FnExactCarrierOfCardSaid : Prop := Claim7.holds Tryd.pinned (.plain (OpenSpec.ofChange fnExactCarrierOfSpec)) fnExactCarrierOfCard

/-- THE TIED CARD OF 'laws.FnExactPlanetOf'. -/
def fnExactPlanetOfCard : Claim7 := { stood := { row := fnExactPlanetOfRow, standIns := [], harness := (true, "9355ae3af50816d1ad6bac6dbe6214d4cfa1a13ea99cce2966f5b76767002f54"), looks := true }, kinds := [], alts := [], laidByText := true, laidKinds := [.sentinel, .sentinel, .data], laidTests := true, laidLooks := .later }
def FnExactPlanetOfCardSaid : Prop := Claim7.holds Tryd.pinned (.plain (OpenSpec.ofChange fnExactPlanetOfSpec)) fnExactPlanetOfCard

/-- THE TIED CARD OF 'laws.FnExactEpiRatio'. -/
def fnExactEpiRatioCard : Claim7 := { stood := { row := fnExactEpiRatioRow, standIns := [], harness := (true, "9355ae3af50816d1ad6bac6dbe6214d4cfa1a13ea99cce2966f5b76767002f54"), looks := true }, kinds := [], alts := [], laidByText := true, laidKinds := [.data], laidTests := true, laidLooks := .later }
def FnExactEpiRatioCardSaid : Prop := Claim7.holds Tryd.pinned (.plain (OpenSpec.ofChange fnExactEpiRatioSpec)) fnExactEpiRatioCard

/-- THE TIED CARD OF 'laws.FnExactEpisFor'. -/
def fnExactEpisForCard : Claim7 := { stood := { row := fnExactEpisForRow, standIns := [], harness := (true, "9355ae3af50816d1ad6bac6dbe6214d4cfa1a13ea99cce2966f5b76767002f54"), looks := true }, kinds := [], alts := [], laidByText := true, laidKinds := [.data], laidTests := true, laidLooks := .later }
def FnExactEpisForCardSaid : Prop := Claim7.holds Tryd.pinned (.plain (OpenSpec.ofChange fnExactEpisForSpec)) fnExactEpisForCard

/-- THE TIED CARD OF 'laws.FnExactCageOf'. -/
def fnExactCageOfCard : Claim7 := { stood := { row := fnExactCageOfRow, standIns := [], harness := (true, "9355ae3af50816d1ad6bac6dbe6214d4cfa1a13ea99cce2966f5b76767002f54"), looks := true }, kinds := [], alts := [], laidByText := true, laidKinds := [.sentinel, .sentinel], laidTests := true, laidLooks := .later }
def FnExactCageOfCardSaid : Prop := Claim7.holds Tryd.pinned (.plain (OpenSpec.ofChange fnExactCageOfSpec)) fnExactCageOfCard

/-- THE TIED CARD OF 'laws.FnExactSideOf'. -/
def fnExactSideOfCard : Claim7 := { stood := { row := fnExactSideOfRow, standIns := [], harness := (true, "9355ae3af50816d1ad6bac6dbe6214d4cfa1a13ea99cce2966f5b76767002f54"), looks := true }, kinds := [], alts := [], laidByText := true, laidKinds := [.sentinel, .sentinel], laidTests := true, laidLooks := .later }
def FnExactSideOfCardSaid : Prop := Claim7.holds Tryd.pinned (.plain (OpenSpec.ofChange fnExactSideOfSpec)) fnExactSideOfCard

/-- THE TIED CARD OF 'laws.FnExactEpiText'. -/
def fnExactEpiTextCard : Claim7 := { stood := { row := fnExactEpiTextRow, standIns := [], harness := (true, "9355ae3af50816d1ad6bac6dbe6214d4cfa1a13ea99cce2966f5b76767002f54"), looks := true }, kinds := [], alts := [], laidByText := true, laidKinds := [.data, .data, .data, .data], laidTests := true, laidLooks := .later }
def FnExactEpiTextCardSaid : Prop := Claim7.holds Tryd.pinned (.plain (OpenSpec.ofChange fnExactEpiTextSpec)) fnExactEpiTextCard

/-- THE TIED CARD OF 'laws.FnExactReadEpi'. -/
def fnExactReadEpiCard : Claim7 := { stood := { row := fnExactReadEpiRow, standIns := [], harness := (true, "9355ae3af50816d1ad6bac6dbe6214d4cfa1a13ea99cce2966f5b76767002f54"), looks := true }, kinds := [], alts := [], laidByText := true, laidKinds := [.data, .data, .data, .sentinel, .sentinel, .data], laidTests := true, laidLooks := .later }
def FnExactReadEpiCardSaid : Prop := Claim7.holds Tryd.pinned (.plain (OpenSpec.ofChange fnExactReadEpiSpec)) fnExactReadEpiCard

/-- THE SECOND FORM's CARD OF 'laws.FnEpis'. -/
def fnEpisUptoCard : Claim7 := { stood := { row := fnEpisUptoRow, standIns := [], harness := (true, "9355ae3af50816d1ad6bac6dbe6214d4cfa1a13ea99cce2966f5b76767002f54"), looks := true }, kinds := [], alts := [], laidByText := true, laidKinds := [.sentinel, .sentinel, .data], laidTests := true, laidLooks := .later }
def FnEpisUptoCardSaid : Prop := Claim7.holds Tryd.pinned (.plain (OpenSpec.upto fnEpisSpec)) fnEpisUptoCard

/-- THE SECOND FORM's CARD OF 'laws.FnExactEpiFaults'. -/
def fnExactEpiFaultsUptoCard : Claim7 := { stood := { row := fnExactEpiFaultsUptoRow, standIns := [], harness := (true, "9355ae3af50816d1ad6bac6dbe6214d4cfa1a13ea99cce2966f5b76767002f54"), looks := true }, kinds := [], alts := [], laidByText := true, laidKinds := [.data], laidTests := true, laidLooks := .later }
def FnExactEpiFaultsUptoCardSaid : Prop := Claim7.holds Tryd.pinned (.plain (OpenSpec.upto fnExactEpiFaultsSpec)) fnExactEpiFaultsUptoCard

/-- THE SECOND FORM's CARD OF 'laws.FnExactValidEpi'. -/
def fnExactValidEpiUptoCard : Claim7 := { stood := { row := fnExactValidEpiUptoRow, standIns := [], harness := (true, "9355ae3af50816d1ad6bac6dbe6214d4cfa1a13ea99cce2966f5b76767002f54"), looks := true }, kinds := [], alts := [], laidByText := true, laidKinds := [.data], laidTests := true, laidLooks := .later }
def FnExactValidEpiUptoCardSaid : Prop := Claim7.holds Tryd.pinned (.plain (OpenSpec.upto fnExactValidEpiSpec)) fnExactValidEpiUptoCard

/-- THE SECOND FORM's CARD OF 'laws.FnExactSunOf'. -/
def fnExactSunOfUptoCard : Claim7 := { stood := { row := fnExactSunOfUptoRow, standIns := [], harness := (true, "9355ae3af50816d1ad6bac6dbe6214d4cfa1a13ea99cce2966f5b76767002f54"), looks := true }, kinds := [], alts := [], laidByText := true, laidKinds := [.sentinel, .sentinel, .data], laidTests := true, laidLooks := .later }
def FnExactSunOfUptoCardSaid : Prop := Claim7.holds Tryd.pinned (.plain (OpenSpec.upto fnExactSunOfSpec)) fnExactSunOfUptoCard

/-- THE SECOND FORM's CARD OF 'laws.FnExactRingOf'. -/
def fnExactRingOfUptoCard : Claim7 := { stood := { row := fnExactRingOfUptoRow, standIns := [], harness := (true, "9355ae3af50816d1ad6bac6dbe6214d4cfa1a13ea99cce2966f5b76767002f54"), looks := true }, kinds := [], alts := [], laidByText := true, laidKinds := [.sentinel, .sentinel, .data], laidTests := true, laidLooks := .later }
def FnExactRingOfUptoCardSaid : Prop := Claim7.holds Tryd.pinned (.plain (OpenSpec.upto fnExactRingOfSpec)) fnExactRingOfUptoCard

/-- THE SECOND FORM's CARD OF 'laws.FnExactCarrierOf'. -/
def fnExactCarrierOfUptoCard : Claim7 := { stood := { row := fnExactCarrierOfUptoRow, standIns := [], harness := (true, "9355ae3af50816d1ad6bac6dbe6214d4cfa1a13ea99cce2966f5b76767002f54"), looks := true }, kinds := [], alts := [], laidByText := true, laidKinds := [.sentinel, .sentinel, .data], laidTests := true, laidLooks := .later }
def FnExactCarrierOfUptoCardSaid : Prop := Claim7.holds Tryd.pinned (.plain (OpenSpec.upto fnExactCarrierOfSpec)) fnExactCarrierOfUptoCard

/-- THE SECOND FORM's CARD OF 'laws.FnExactPlanetOf'. -/
def fnExactPlanetOfUptoCard : Claim7 := { stood := { row := fnExactPlanetOfUptoRow, standIns := [], harness := (true, "9355ae3af50816d1ad6bac6dbe6214d4cfa1a13ea99cce2966f5b76767002f54"), looks := true }, kinds := [], alts := [], laidByText := true, laidKinds := [.sentinel, .sentinel, .data], laidTests := true, laidLooks := .later }
def FnExactPlanetOfUptoCardSaid : Prop := Claim7.holds Tryd.pinned (.plain (OpenSpec.upto fnExactPlanetOfSpec)) fnExactPlanetOfUptoCard

/-- THE SECOND FORM's CARD OF 'laws.FnExactEpiRatio'. -/
def fnExactEpiRatioUptoCard : Claim7 := { stood := { row := fnExactEpiRatioUptoRow, standIns := [], harness := (true, "9355ae3af50816d1ad6bac6dbe6214d4cfa1a13ea99cce2966f5b76767002f54"), looks := true }, kinds := [], alts := [], laidByText := true, laidKinds := [.data], laidTests := true, laidLooks := .later }
def FnExactEpiRatioUptoCardSaid : Prop := Claim7.holds Tryd.pinned (.plain (OpenSpec.upto fnExactEpiRatioSpec)) fnExactEpiRatioUptoCard

/-- THE SECOND FORM's CARD OF 'laws.FnExactEpisFor'. -/
def fnExactEpisForUptoCard : Claim7 := { stood := { row := fnExactEpisForUptoRow, standIns := [], harness := (true, "9355ae3af50816d1ad6bac6dbe6214d4cfa1a13ea99cce2966f5b76767002f54"), looks := true }, kinds := [], alts := [], laidByText := true, laidKinds := [.data], laidTests := true, laidLooks := .later }
def FnExactEpisForUptoCardSaid : Prop := Claim7.holds Tryd.pinned (.plain (OpenSpec.upto fnExactEpisForSpec)) fnExactEpisForUptoCard

/-- THE SECOND FORM's CARD OF 'laws.FnExactCageOf'. -/
def fnExactCageOfUptoCard : Claim7 := { stood := { row := fnExactCageOfUptoRow, standIns := [], harness := (true, "9355ae3af50816d1ad6bac6dbe6214d4cfa1a13ea99cce2966f5b76767002f54"), looks := true }, kinds := [], alts := [], laidByText := true, laidKinds := [.sentinel, .sentinel], laidTests := true, laidLooks := .later }
def FnExactCageOfUptoCardSaid : Prop := Claim7.holds Tryd.pinned (.plain (OpenSpec.upto fnExactCageOfSpec)) fnExactCageOfUptoCard

/-- THE SECOND FORM's CARD OF 'laws.FnExactSideOf'. -/
def fnExactSideOfUptoCard : Claim7 := { stood := { row := fnExactSideOfUptoRow, standIns := [], harness := (true, "9355ae3af50816d1ad6bac6dbe6214d4cfa1a13ea99cce2966f5b76767002f54"), looks := true }, kinds := [], alts := [], laidByText := true, laidKinds := [.sentinel, .sentinel], laidTests := true, laidLooks := .later }
def FnExactSideOfUptoCardSaid : Prop := Claim7.holds Tryd.pinned (.plain (OpenSpec.upto fnExactSideOfSpec)) fnExactSideOfUptoCard

/-- THE SECOND FORM's CARD OF 'laws.FnExactEpiText'. -/
def fnExactEpiTextUptoCard : Claim7 := { stood := { row := fnExactEpiTextUptoRow, standIns := [], harness := (true, "9355ae3af50816d1ad6bac6dbe6214d4cfa1a13ea99cce2966f5b76767002f54"), looks := true }, kinds := [], alts := [], laidByText := true, laidKinds := [.data, .data, .data, .data], laidTests := true, laidLooks := .later }
def FnExactEpiTextUptoCardSaid : Prop := Claim7.holds Tryd.pinned (.plain (OpenSpec.upto fnExactEpiTextSpec)) fnExactEpiTextUptoCard

/-- THE SECOND FORM's CARD OF 'laws.FnExactReadEpi'. -/
def fnExactReadEpiUptoCard : Claim7 := { stood := { row := fnExactReadEpiUptoRow, standIns := [], harness := (true, "9355ae3af50816d1ad6bac6dbe6214d4cfa1a13ea99cce2966f5b76767002f54"), looks := true }, kinds := [], alts := [], laidByText := true, laidKinds := [.data, .data, .data, .sentinel, .sentinel, .data], laidTests := true, laidLooks := .later }
def FnExactReadEpiUptoCardSaid : Prop := Claim7.holds Tryd.pinned (.plain (OpenSpec.upto fnExactReadEpiSpec)) fnExactReadEpiUptoCard
end Rows
end Go.Proofs.YtcklcledchboiaaDoor

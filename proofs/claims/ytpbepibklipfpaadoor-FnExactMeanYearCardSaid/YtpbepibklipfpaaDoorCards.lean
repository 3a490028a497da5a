/-
  DERIVED. GIVEN WITH THE SEED: THE CARDS: each row of YtpbepibklipfpaaDoorRows.lean that lists a variable, with what it lists TIED to the program's text (the seventh form; the later family's looks); each row that meets fmt, with fmt's text TOLD by the authors' own Lean function (tested against real Go, not proved from fmt's source: count such statements apart). THE CARD IS WHAT COUNTS. Prove the row's statement (the work); the ties are given (YtpbepibklipfpaaDoorTie.lean); close each card by the builder's one call (the guide's Derived/Test/ToyasCard.lean, 'card_holds'). Laid BY PROGRAM, IN A SANDBOX (cutbox-door.mjs). By AI agents, Wed Nov 11 2026. No macro, syntax, notation, axiom, sorry.
-/
import Derived.Test.YtpbepibklipfpaaDoorRows
import GoSem.ClaimSeven
namespace Go.Proofs.YtpbepibklipfpaaDoor
namespace Rows

/-- THE TIED CARD OF 'laws.FnExactMeanYear'. -/
def fnExactMeanYearCard : Claim7 := { stood := { row := fnExactMeanYearRow, standIns := [], harness := (true, "698dc548015e1c28fe0d8b336a72e020a023067c7ceee4fe52e6777375198530"), looks := true }, kinds := [], alts := [], laidByText := true, laidKinds := [.sentinel, .sentinel], laidTests := true, laidLooks := .later }
def FnExactMeanYearCardSaid : Prop := Claim7.holds Tryd.pinned (.plain (OpenSpec.ofChange fnExactMeanYearSpec)) fnExactMeanYearCard

/-- THE TIED CARD OF 'laws.FnExactCalendarNames'. -/
def fnExactCalendarNamesCard : Claim7 := { stood := { row := fnExactCalendarNamesRow, standIns := [], harness := (true, "698dc548015e1c28fe0d8b336a72e020a023067c7ceee4fe52e6777375198530"), looks := true }, kinds := [], alts := [], laidByText := true, laidKinds := [.data, .data, .data], laidTests := true, laidLooks := .later }
def FnExactCalendarNamesCardSaid : Prop := Claim7.holds Tryd.pinned (.plain (OpenSpec.ofChange fnExactCalendarNamesSpec)) fnExactCalendarNamesCard

/-- THE TIED CARD OF 'laws.FnExactCalendarNamed'. -/
def fnExactCalendarNamedCard : Claim7 := { stood := { row := fnExactCalendarNamedRow, standIns := [], harness := (true, "698dc548015e1c28fe0d8b336a72e020a023067c7ceee4fe52e6777375198530"), looks := true }, kinds := [], alts := [], laidByText := true, laidKinds := [.data, .data, .data], laidTests := true, laidLooks := .later }
def FnExactCalendarNamedCardSaid : Prop := Claim7.holds Tryd.pinned (.plain (OpenSpec.ofChange fnExactCalendarNamedSpec)) fnExactCalendarNamedCard

/-- THE TIED CARD OF 'laws.FnExactDateText'. -/
def fnExactDateTextCard : Claim7 := { stood := { row := fnExactDateTextRow, standIns := [], harness := (true, "698dc548015e1c28fe0d8b336a72e020a023067c7ceee4fe52e6777375198530"), looks := true }, kinds := [], alts := [], laidByText := true, laidKinds := [.data, .data, .data], laidTests := true, laidLooks := .later }
def FnExactDateTextCardSaid : Prop := Claim7.holds Tryd.pinned (.plain (OpenSpec.ofChange fnExactDateTextSpec)) fnExactDateTextCard

/-- THE TIED CARD OF 'laws.FnExactReadDate'. -/
def fnExactReadDateCard : Claim7 := { stood := { row := fnExactReadDateRow, standIns := [], harness := (true, "698dc548015e1c28fe0d8b336a72e020a023067c7ceee4fe52e6777375198530"), looks := true }, kinds := [], alts := [], laidByText := true, laidKinds := [.data, .data, .data, .data, .sentinel, .sentinel, .pinned], laidTests := true, laidLooks := .later }
def FnExactReadDateCardSaid : Prop := Claim7.holds Tryd.pinned (.plain (OpenSpec.ofChange fnExactReadDateSpec)) fnExactReadDateCard

/-- THE TIED CARD OF 'laws.FnExactCalendarText'. -/
def fnExactCalendarTextCard : Claim7 := { stood := { row := fnExactCalendarTextRow, standIns := [], harness := (true, "698dc548015e1c28fe0d8b336a72e020a023067c7ceee4fe52e6777375198530"), looks := true }, kinds := [], alts := [], laidByText := true, laidKinds := [.data, .data, .data], laidTests := true, laidLooks := .later }
def FnExactCalendarTextCardSaid : Prop := Claim7.holds Tryd.pinned (.plain (OpenSpec.ofChange fnExactCalendarTextSpec)) fnExactCalendarTextCard

/-- THE SECOND FORM's CARD OF 'laws.FnExactMeanYear'. -/
def fnExactMeanYearUptoCard : Claim7 := { stood := { row := fnExactMeanYearUptoRow, standIns := [], harness := (true, "698dc548015e1c28fe0d8b336a72e020a023067c7ceee4fe52e6777375198530"), looks := true }, kinds := [], alts := [], laidByText := true, laidKinds := [.sentinel, .sentinel], laidTests := true, laidLooks := .later }
def FnExactMeanYearUptoCardSaid : Prop := Claim7.holds Tryd.pinned (.plain (OpenSpec.upto fnExactMeanYearSpec)) fnExactMeanYearUptoCard

/-- THE SECOND FORM's CARD OF 'laws.FnExactCalendarNames'. -/
def fnExactCalendarNamesUptoCard : Claim7 := { stood := { row := fnExactCalendarNamesUptoRow, standIns := [], harness := (true, "698dc548015e1c28fe0d8b336a72e020a023067c7ceee4fe52e6777375198530"), looks := true }, kinds := [], alts := [], laidByText := true, laidKinds := [.data, .data, .data], laidTests := true, laidLooks := .later }
def FnExactCalendarNamesUptoCardSaid : Prop := Claim7.holds Tryd.pinned (.plain (OpenSpec.upto fnExactCalendarNamesSpec)) fnExactCalendarNamesUptoCard

/-- THE SECOND FORM's CARD OF 'laws.FnExactCalendarNamed'. -/
def fnExactCalendarNamedUptoCard : Claim7 := { stood := { row := fnExactCalendarNamedUptoRow, standIns := [], harness := (true, "698dc548015e1c28fe0d8b336a72e020a023067c7ceee4fe52e6777375198530"), looks := true }, kinds := [], alts := [], laidByText := true, laidKinds := [.data, .data, .data], laidTests := true, laidLooks := .later }
def FnExactCalendarNamedUptoCardSaid : Prop := Claim7.holds Tryd.pinned (.plain (OpenSpec.upto fnExactCalendarNamedSpec)) fnExactCalendarNamedUptoCard

/-- THE SECOND FORM's CARD OF 'laws.FnExactDateText'. -/
def fnExactDateTextUptoCard : Claim7 := { stood := { row := fnExactDateTextUptoRow, standIns := [], harness := (true, "698dc548015e1c28fe0d8b336a72e020a023067c7ceee4fe52e6777375198530"), looks := true }, kinds := [], alts := [], laidByText := true, laidKinds := [.data, .data, .data], laidTests := true, laidLooks := .later }
def FnExactDateTextUptoCardSaid : Prop := Claim7.holds Tryd.pinned (.plain (OpenSpec.upto fnExactDateTextSpec)) fnExactDateTextUptoCard

/-- THE SECOND FORM's CARD OF 'laws.FnExactReadDate'. -/
def fnExactReadDateUptoCard : Claim7 := { stood := { row := fnExactReadDateUptoRow, standIns := [], harness := (true, "698dc548015e1c28fe0d8b336a72e020a023067c7ceee4fe52e6777375198530"), looks := true }, kinds := [], alts := [], laidByText := true, laidKinds := [.data, .data, .data, .data, .sentinel, .sentinel, .pinned], laidTests := true, laidLooks := .later }
def FnExactReadDateUptoCardSaid : Prop := Claim7.holds Tryd.pinned (.plain (OpenSpec.upto fnExactReadDateSpec)) fnExactReadDateUptoCard

/-- THE SECOND FORM's CARD OF 'laws.FnExactCalendarText'. -/
def fnExactCalendarTextUptoCard : Claim7 := { stood := { row := fnExactCalendarTextUptoRow, standIns := [], harness := (true, "698dc548015e1c28fe0d8b336a72e020a023067c7ceee4fe52e6777375198530"), looks := true }, kinds := [], alts := [], laidByText := true, laidKinds := [.data, .data, .data], laidTests := true, laidLooks := .later }
def FnExactCalendarTextUptoCardSaid : Prop := Claim7.holds Tryd.pinned (.plain (OpenSpec.upto fnExactCalendarTextSpec)) fnExactCalendarTextUptoCard
end Rows
end Go.Proofs.YtpbepibklipfpaaDoor

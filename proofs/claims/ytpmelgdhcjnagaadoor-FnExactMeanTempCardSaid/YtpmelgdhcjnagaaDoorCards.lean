/-
  DERIVED. GIVEN WITH THE SEED: THE CARDS: each row of YtpmelgdhcjnagaaDoorRows.lean that lists a variable, with what it lists TIED to the program's text (the seventh form; the later family's looks); each row that meets fmt, with fmt's text TOLD by the authors' own Lean function (tested against real Go, not proved from fmt's source: count such statements apart). THE CARD IS WHAT COUNTS. Prove the row's statement (the work); the ties are given (YtpmelgdhcjnagaaDoorTie.lean); close each card by the builder's one call (the guide's Derived/Test/ToyasCard.lean, 'card_holds'). Laid BY PROGRAM, IN A SANDBOX (cutbox-door.mjs). By AI agents, Wed Nov 11 2026. No macro, syntax, notation, axiom, sorry.
-/
import Derived.Test.YtpmelgdhcjnagaaDoorRows
import GoSem.ClaimSeven
namespace Go.Proofs.YtpmelgdhcjnagaaDoor
namespace Rows

/-- THE TIED CARD OF 'laws.FnExactMeanTemp'. -/
def fnExactMeanTempCard : Claim7 := { stood := { row := fnExactMeanTempRow, standIns := [], harness := (true, "1cdcf7d9a2990121d056d8ba022669bef8c47af322031cc83c41460cf678cdaf"), looks := true }, kinds := [], alts := [], laidByText := true, laidKinds := [.sentinel, .sentinel], laidTests := true, laidLooks := .later }
def FnExactMeanTempCardSaid : Prop := Claim7.holds Tryd.pinned (.plain (OpenSpec.ofChange fnExactMeanTempSpec)) fnExactMeanTempCard

/-- THE TIED CARD OF 'laws.FnExactBalancePoint'. -/
def fnExactBalancePointCard : Claim7 := { stood := { row := fnExactBalancePointRow, standIns := [], harness := (true, "1cdcf7d9a2990121d056d8ba022669bef8c47af322031cc83c41460cf678cdaf"), looks := true }, kinds := [], alts := [], laidByText := true, laidKinds := [.sentinel, .sentinel], laidTests := true, laidLooks := .later }
def FnExactBalancePointCardSaid : Prop := Claim7.holds Tryd.pinned (.plain (OpenSpec.ofChange fnExactBalancePointSpec)) fnExactBalancePointCard

/-- THE TIED CARD OF 'laws.FnMergedSegments'. -/
def fnMergedSegmentsCard : Claim7 := { stood := { row := fnMergedSegmentsRow, standIns := [], harness := (true, "1cdcf7d9a2990121d056d8ba022669bef8c47af322031cc83c41460cf678cdaf"), looks := true }, kinds := [], alts := [], laidByText := true, laidKinds := [.sentinel, .sentinel], laidTests := true, laidLooks := .later }
def FnMergedSegmentsCardSaid : Prop := Claim7.holds Tryd.pinned (.plain (OpenSpec.ofChange fnMergedSegmentsSpec)) fnMergedSegmentsCard

/-- THE TIED CARD OF 'laws.FnBalance'. -/
def fnBalanceCard : Claim7 := { stood := { row := fnBalanceRow, standIns := [], harness := (true, "1cdcf7d9a2990121d056d8ba022669bef8c47af322031cc83c41460cf678cdaf"), looks := true }, kinds := [], alts := [], laidByText := true, laidKinds := [.sentinel, .sentinel], laidTests := true, laidLooks := .later }
def FnBalanceCardSaid : Prop := Claim7.holds Tryd.pinned (.plain (OpenSpec.ofChange fnBalanceSpec)) fnBalanceCard

/-- THE SECOND FORM's CARD OF 'laws.FnExactMeanTemp'. -/
def fnExactMeanTempUptoCard : Claim7 := { stood := { row := fnExactMeanTempUptoRow, standIns := [], harness := (true, "1cdcf7d9a2990121d056d8ba022669bef8c47af322031cc83c41460cf678cdaf"), looks := true }, kinds := [], alts := [], laidByText := true, laidKinds := [.sentinel, .sentinel], laidTests := true, laidLooks := .later }
def FnExactMeanTempUptoCardSaid : Prop := Claim7.holds Tryd.pinned (.plain (OpenSpec.upto fnExactMeanTempSpec)) fnExactMeanTempUptoCard

/-- THE SECOND FORM's CARD OF 'laws.FnExactBalancePoint'. -/
def fnExactBalancePointUptoCard : Claim7 := { stood := { row := fnExactBalancePointUptoRow, standIns := [], harness := (true, "1cdcf7d9a2990121d056d8ba022669bef8c47af322031cc83c41460cf678cdaf"), looks := true }, kinds := [], alts := [], laidByText := true, laidKinds := [.sentinel, .sentinel], laidTests := true, laidLooks := .later }
def FnExactBalancePointUptoCardSaid : Prop := Claim7.holds Tryd.pinned (.plain (OpenSpec.upto fnExactBalancePointSpec)) fnExactBalancePointUptoCard

/-- THE SECOND FORM's CARD OF 'laws.FnMergedSegments'. -/
def fnMergedSegmentsUptoCard : Claim7 := { stood := { row := fnMergedSegmentsUptoRow, standIns := [], harness := (true, "1cdcf7d9a2990121d056d8ba022669bef8c47af322031cc83c41460cf678cdaf"), looks := true }, kinds := [], alts := [], laidByText := true, laidKinds := [.sentinel, .sentinel], laidTests := true, laidLooks := .later }
def FnMergedSegmentsUptoCardSaid : Prop := Claim7.holds Tryd.pinned (.plain (OpenSpec.upto fnMergedSegmentsSpec)) fnMergedSegmentsUptoCard

/-- THE SECOND FORM's CARD OF 'laws.FnBalance'. -/
def fnBalanceUptoCard : Claim7 := { stood := { row := fnBalanceUptoRow, standIns := [], harness := (true, "1cdcf7d9a2990121d056d8ba022669bef8c47af322031cc83c41460cf678cdaf"), looks := true }, kinds := [], alts := [], laidByText := true, laidKinds := [.sentinel, .sentinel], laidTests := true, laidLooks := .later }
def FnBalanceUptoCardSaid : Prop := Claim7.holds Tryd.pinned (.plain (OpenSpec.upto fnBalanceSpec)) fnBalanceUptoCard
end Rows
end Go.Proofs.YtpmelgdhcjnagaaDoor

/-
  DERIVED. GIVEN WITH THE SEED: THE CARDS: each row of YtgmedfpklgjgoaaDoorRows.lean that lists a variable, with what it lists TIED to the program's text (the seventh form; the later family's looks); each row that meets fmt, with fmt's text TOLD by the authors' own Lean function (tested against real Go, not proved from fmt's source: count such statements apart). THE CARD IS WHAT COUNTS. Prove the row's statement (the work); the ties are given (YtgmedfpklgjgoaaDoorTie.lean); close each card by the builder's one call (the guide's Derived/Test/ToyasCard.lean, 'card_holds'). Laid BY PROGRAM, IN A SANDBOX (cutbox-door.mjs). By AI agents, Wed Nov 11 2026. No macro, syntax, notation, axiom, sorry.
-/
import Derived.Test.YtgmedfpklgjgoaaDoorRows
import GoSem.ClaimSeven
namespace Go.Proofs.YtgmedfpklgjgoaaDoor
namespace Rows

/-- THE TIED CARD OF 'laws.FnPaths'. -/
def fnPathsCard : Claim7 := { stood := { row := fnPathsRow, standIns := [], harness := (true, "f2ff4502b5db705e12054582a887238947f527fe2928cbe337a66f8180e24599"), looks := false }, kinds := [], alts := [], laidByText := true, laidKinds := [.data, .pinned], laidTests := true, laidLooks := .later }
def FnPathsCardSaid : Prop := Claim7.holds Tryd.pinned (.plain (OpenSpec.ofChange fnPathsSpec)) fnPathsCard

/-- THE TIED CARD OF 'laws.FnExactRatioOfPath'. -/
def fnExactRatioOfPathCard : Claim7 := { stood := { row := fnExactRatioOfPathRow, standIns := [], harness := (true, "f2ff4502b5db705e12054582a887238947f527fe2928cbe337a66f8180e24599"), looks := false }, kinds := [], alts := [], laidByText := true, laidKinds := [.data, .pinned], laidTests := true, laidLooks := .later }
def FnExactRatioOfPathCardSaid : Prop := Claim7.holds Tryd.pinned (.plain (OpenSpec.ofChange fnExactRatioOfPathSpec)) fnExactRatioOfPathCard

/-- THE SECOND FORM's CARD OF 'laws.FnPaths'. -/
def fnPathsUptoCard : Claim7 := { stood := { row := fnPathsUptoRow, standIns := [], harness := (true, "f2ff4502b5db705e12054582a887238947f527fe2928cbe337a66f8180e24599"), looks := false }, kinds := [], alts := [], laidByText := true, laidKinds := [.data, .pinned], laidTests := true, laidLooks := .later }
def FnPathsUptoCardSaid : Prop := Claim7.holds Tryd.pinned (.plain (OpenSpec.upto fnPathsSpec)) fnPathsUptoCard

/-- THE SECOND FORM's CARD OF 'laws.FnExactRatioOfPath'. -/
def fnExactRatioOfPathUptoCard : Claim7 := { stood := { row := fnExactRatioOfPathUptoRow, standIns := [], harness := (true, "f2ff4502b5db705e12054582a887238947f527fe2928cbe337a66f8180e24599"), looks := false }, kinds := [], alts := [], laidByText := true, laidKinds := [.data, .pinned], laidTests := true, laidLooks := .later }
def FnExactRatioOfPathUptoCardSaid : Prop := Claim7.holds Tryd.pinned (.plain (OpenSpec.upto fnExactRatioOfPathSpec)) fnExactRatioOfPathUptoCard
end Rows
end Go.Proofs.YtgmedfpklgjgoaaDoor

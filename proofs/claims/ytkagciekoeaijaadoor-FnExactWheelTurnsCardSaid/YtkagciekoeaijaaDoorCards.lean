/-
  DERIVED. GIVEN WITH THE SEED: THE CARDS: each row of YtkagciekoeaijaaDoorRows.lean that lists a variable, with what it lists TIED to the program's text (the seventh form; the later family's looks); each row that meets fmt, with fmt's text TOLD by the authors' own Lean function (tested against real Go, not proved from fmt's source: count such statements apart). THE CARD IS WHAT COUNTS. Prove the row's statement (the work); the ties are given (YtkagciekoeaijaaDoorTie.lean); close each card by the builder's one call (the guide's Derived/Test/ToyasCard.lean, 'card_holds'). Laid BY PROGRAM, IN A SANDBOX (cutbox-door.mjs). By AI agents, Wed Nov 11 2026. No macro, syntax, notation, axiom, sorry.
-/
import Derived.Test.YtkagciekoeaijaaDoorRows
import GoSem.ClaimSeven
namespace Go.Proofs.YtkagciekoeaijaaDoor
namespace Rows

/-- THE TIED CARD OF 'laws.FnSwings'. -/
def fnSwingsCard : Claim7 := { stood := { row := fnSwingsRow, standIns := [], harness := (true, "7fb627d08eba4f412f633776ab9f269df9169b0f564f0767e009edb67610469a"), looks := true }, kinds := [], alts := [], laidByText := true, laidKinds := [.sentinel, .sentinel], laidTests := true, laidLooks := .later }
def FnSwingsCardSaid : Prop := Claim7.holds Tryd.pinned (.plain (OpenSpec.ofChange fnSwingsSpec)) fnSwingsCard

/-- THE TIED CARD OF 'laws.FnExactWheelTurns'. -/
def fnExactWheelTurnsCard : Claim7 := { stood := { row := fnExactWheelTurnsRow, standIns := [], harness := (true, "7fb627d08eba4f412f633776ab9f269df9169b0f564f0767e009edb67610469a"), looks := true }, kinds := [], alts := [], laidByText := true, laidKinds := [.sentinel, .sentinel], laidTests := true, laidLooks := .later }
def FnExactWheelTurnsCardSaid : Prop := Claim7.holds Tryd.pinned (.plain (OpenSpec.ofChange fnExactWheelTurnsSpec)) fnExactWheelTurnsCard

/-- THE SECOND FORM's CARD OF 'laws.FnSwings'. -/
def fnSwingsUptoCard : Claim7 := { stood := { row := fnSwingsUptoRow, standIns := [], harness := (true, "7fb627d08eba4f412f633776ab9f269df9169b0f564f0767e009edb67610469a"), looks := true }, kinds := [], alts := [], laidByText := true, laidKinds := [.sentinel, .sentinel], laidTests := true, laidLooks := .later }
def FnSwingsUptoCardSaid : Prop := Claim7.holds Tryd.pinned (.plain (OpenSpec.upto fnSwingsSpec)) fnSwingsUptoCard

/-- THE SECOND FORM's CARD OF 'laws.FnExactWheelTurns'. -/
def fnExactWheelTurnsUptoCard : Claim7 := { stood := { row := fnExactWheelTurnsUptoRow, standIns := [], harness := (true, "7fb627d08eba4f412f633776ab9f269df9169b0f564f0767e009edb67610469a"), looks := true }, kinds := [], alts := [], laidByText := true, laidKinds := [.sentinel, .sentinel], laidTests := true, laidLooks := .later }
def FnExactWheelTurnsUptoCardSaid : Prop := Claim7.holds Tryd.pinned (.plain (OpenSpec.upto fnExactWheelTurnsSpec)) fnExactWheelTurnsUptoCard
end Rows
end Go.Proofs.YtkagciekoeaijaaDoor

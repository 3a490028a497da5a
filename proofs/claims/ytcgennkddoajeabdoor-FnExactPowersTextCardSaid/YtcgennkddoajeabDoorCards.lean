/-
  DERIVED. GIVEN WITH THE SEED: THE CARDS: each row of YtcgennkddoajeabDoorRows.lean that lists a variable, with what it lists TIED to the program's text (the seventh form; the later family's looks); each row that meets fmt, with fmt's text TOLD by the authors' own Lean function (tested against real Go, not proved from fmt's source: count such statements apart). THE CARD IS WHAT COUNTS. Prove the row's statement (the work); the ties are given (YtcgennkddoajeabDoorTie.lean); close each card by the builder's one call (the guide's Derived/Test/ToyasCard.lean, 'card_holds'). Laid BY PROGRAM, IN A SANDBOX (cutbox-door.mjs). By AI agents, Wed Nov 11 2026. No macro, syntax, notation, axiom, sorry.
-/
import Derived.Test.YtcgennkddoajeabDoorRows
import GoSem.ClaimSeven
namespace Go.Proofs.YtcgennkddoajeabDoor
namespace Rows

/-- THE TIED CARD OF 'laws.FnExactPowersText'. -/
def fnExactPowersTextCard : Claim7 := { stood := { row := fnExactPowersTextRow, standIns := [], harness := (true, "1c24a72eb84f469690bdff3c50250312a097f7f30f07d0ad46bcfc96222fbd9c"), looks := false }, kinds := [], alts := [], laidByText := true, laidKinds := [.data, .data, .data], laidTests := true, laidLooks := .later }
def FnExactPowersTextCardSaid : Prop := Claim7.holds Tryd.pinned (.plain (OpenSpec.ofChange fnExactPowersTextSpec)) fnExactPowersTextCard

/-- THE SECOND FORM's CARD OF 'laws.FnExactPowersText'. -/
def fnExactPowersTextUptoCard : Claim7 := { stood := { row := fnExactPowersTextUptoRow, standIns := [], harness := (true, "1c24a72eb84f469690bdff3c50250312a097f7f30f07d0ad46bcfc96222fbd9c"), looks := false }, kinds := [], alts := [], laidByText := true, laidKinds := [.data, .data, .data], laidTests := true, laidLooks := .later }
def FnExactPowersTextUptoCardSaid : Prop := Claim7.holds Tryd.pinned (.plain (OpenSpec.upto fnExactPowersTextSpec)) fnExactPowersTextUptoCard
end Rows
end Go.Proofs.YtcgennkddoajeabDoor

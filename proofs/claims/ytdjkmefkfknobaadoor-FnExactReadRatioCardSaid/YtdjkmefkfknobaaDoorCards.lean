/-
  DERIVED. GIVEN WITH THE SEED: THE CARDS: each row of YtdjkmefkfknobaaDoorRows.lean that lists a variable, with what it lists TIED to the program's text (the seventh form; the later family's looks); each row that meets fmt, with fmt's text TOLD by the authors' own Lean function (tested against real Go, not proved from fmt's source: count such statements apart). THE CARD IS WHAT COUNTS. Prove the row's statement (the work); the ties are given (YtdjkmefkfknobaaDoorTie.lean); close each card by the builder's one call (the guide's Derived/Test/ToyasCard.lean, 'card_holds'). Laid BY PROGRAM, IN A SANDBOX (cutbox-door.mjs). By AI agents, Wed Nov 11 2026. No macro, syntax, notation, axiom, sorry.
-/
import Derived.Test.YtdjkmefkfknobaaDoorRows
import GoSem.ClaimSeven
namespace Go.Proofs.YtdjkmefkfknobaaDoor
namespace Rows

/-- THE TIED CARD OF 'laws.FnRatios'. -/
def fnRatiosCard : Claim7 := { stood := { row := fnRatiosRow, standIns := [], harness := (true, "3b011fcba1dc2342271e2ee14f4215e3915ffe9f9e068af32cbac8c4f5201e3c"), looks := true }, kinds := [], alts := [], laidByText := true, laidKinds := [.data, .data, .data, .sentinel, .sentinel, .sentinel, .sentinel], laidTests := true, laidLooks := .later }
def FnRatiosCardSaid : Prop := Claim7.holds Tryd.pinned (.plain (OpenSpec.ofChange fnRatiosSpec)) fnRatiosCard

/-- THE TIED CARD OF 'laws.FnExactCodeName'. -/
def fnExactCodeNameCard : Claim7 := { stood := { row := fnExactCodeNameRow, standIns := [], harness := (true, "3b011fcba1dc2342271e2ee14f4215e3915ffe9f9e068af32cbac8c4f5201e3c"), looks := true }, kinds := [], alts := [], laidByText := true, laidKinds := [.data], laidTests := true, laidLooks := .later }
def FnExactCodeNameCardSaid : Prop := Claim7.holds Tryd.pinned (.plain (OpenSpec.ofChange fnExactCodeNameSpec)) fnExactCodeNameCard

/-- THE TIED CARD OF 'laws.FnExactDecimal'. -/
def fnExactDecimalCard : Claim7 := { stood := { row := fnExactDecimalRow, standIns := [], harness := (true, "3b011fcba1dc2342271e2ee14f4215e3915ffe9f9e068af32cbac8c4f5201e3c"), looks := true }, kinds := [], alts := [], laidByText := true, laidKinds := [.data, .data, .data], laidTests := true, laidLooks := .later }
def FnExactDecimalCardSaid : Prop := Claim7.holds Tryd.pinned (.plain (OpenSpec.ofChange fnExactDecimalSpec)) fnExactDecimalCard

/-- THE TIED CARD OF 'laws.FnExactReadDecimal'. -/
def fnExactReadDecimalCard : Claim7 := { stood := { row := fnExactReadDecimalRow, standIns := [], harness := (true, "3b011fcba1dc2342271e2ee14f4215e3915ffe9f9e068af32cbac8c4f5201e3c"), looks := true }, kinds := [], alts := [], laidByText := true, laidKinds := [.data, .data, .data, .sentinel, .sentinel], laidTests := true, laidLooks := .later }
def FnExactReadDecimalCardSaid : Prop := Claim7.holds Tryd.pinned (.plain (OpenSpec.ofChange fnExactReadDecimalSpec)) fnExactReadDecimalCard

/-- THE TIED CARD OF 'laws.FnExactMakeRatio'. -/
def fnExactMakeRatioCard : Claim7 := { stood := { row := fnExactMakeRatioRow, standIns := [], harness := (true, "3b011fcba1dc2342271e2ee14f4215e3915ffe9f9e068af32cbac8c4f5201e3c"), looks := true }, kinds := [], alts := [], laidByText := true, laidKinds := [.sentinel, .sentinel], laidTests := true, laidLooks := .later }
def FnExactMakeRatioCardSaid : Prop := Claim7.holds Tryd.pinned (.plain (OpenSpec.ofChange fnExactMakeRatioSpec)) fnExactMakeRatioCard

/-- THE TIED CARD OF 'laws.FnExactAddRatio'. -/
def fnExactAddRatioCard : Claim7 := { stood := { row := fnExactAddRatioRow, standIns := [], harness := (true, "3b011fcba1dc2342271e2ee14f4215e3915ffe9f9e068af32cbac8c4f5201e3c"), looks := true }, kinds := [], alts := [], laidByText := true, laidKinds := [.sentinel, .sentinel], laidTests := true, laidLooks := .later }
def FnExactAddRatioCardSaid : Prop := Claim7.holds Tryd.pinned (.plain (OpenSpec.ofChange fnExactAddRatioSpec)) fnExactAddRatioCard

/-- THE TIED CARD OF 'laws.FnExactSubRatio'. -/
def fnExactSubRatioCard : Claim7 := { stood := { row := fnExactSubRatioRow, standIns := [], harness := (true, "3b011fcba1dc2342271e2ee14f4215e3915ffe9f9e068af32cbac8c4f5201e3c"), looks := true }, kinds := [], alts := [], laidByText := true, laidKinds := [.sentinel, .sentinel], laidTests := true, laidLooks := .later }
def FnExactSubRatioCardSaid : Prop := Claim7.holds Tryd.pinned (.plain (OpenSpec.ofChange fnExactSubRatioSpec)) fnExactSubRatioCard

/-- THE TIED CARD OF 'laws.FnExactMulRatio'. -/
def fnExactMulRatioCard : Claim7 := { stood := { row := fnExactMulRatioRow, standIns := [], harness := (true, "3b011fcba1dc2342271e2ee14f4215e3915ffe9f9e068af32cbac8c4f5201e3c"), looks := true }, kinds := [], alts := [], laidByText := true, laidKinds := [.sentinel, .sentinel], laidTests := true, laidLooks := .later }
def FnExactMulRatioCardSaid : Prop := Claim7.holds Tryd.pinned (.plain (OpenSpec.ofChange fnExactMulRatioSpec)) fnExactMulRatioCard

/-- THE TIED CARD OF 'laws.FnExactDivRatio'. -/
def fnExactDivRatioCard : Claim7 := { stood := { row := fnExactDivRatioRow, standIns := [], harness := (true, "3b011fcba1dc2342271e2ee14f4215e3915ffe9f9e068af32cbac8c4f5201e3c"), looks := true }, kinds := [], alts := [], laidByText := true, laidKinds := [.sentinel, .sentinel], laidTests := true, laidLooks := .later }
def FnExactDivRatioCardSaid : Prop := Claim7.holds Tryd.pinned (.plain (OpenSpec.ofChange fnExactDivRatioSpec)) fnExactDivRatioCard

/-- THE TIED CARD OF 'laws.FnExactRatioText'. -/
def fnExactRatioTextCard : Claim7 := { stood := { row := fnExactRatioTextRow, standIns := [], harness := (true, "3b011fcba1dc2342271e2ee14f4215e3915ffe9f9e068af32cbac8c4f5201e3c"), looks := true }, kinds := [], alts := [], laidByText := true, laidKinds := [.data, .data, .data], laidTests := true, laidLooks := .later }
def FnExactRatioTextCardSaid : Prop := Claim7.holds Tryd.pinned (.plain (OpenSpec.ofChange fnExactRatioTextSpec)) fnExactRatioTextCard

/-- THE TIED CARD OF 'laws.FnExactReadRatio'. -/
def fnExactReadRatioCard : Claim7 := { stood := { row := fnExactReadRatioRow, standIns := [], harness := (true, "3b011fcba1dc2342271e2ee14f4215e3915ffe9f9e068af32cbac8c4f5201e3c"), looks := true }, kinds := [], alts := [], laidByText := true, laidKinds := [.data, .data, .data, .sentinel, .sentinel], laidTests := true, laidLooks := .later }
def FnExactReadRatioCardSaid : Prop := Claim7.holds Tryd.pinned (.plain (OpenSpec.ofChange fnExactReadRatioSpec)) fnExactReadRatioCard

/-- THE SECOND FORM's CARD OF 'laws.FnRatios'. -/
def fnRatiosUptoCard : Claim7 := { stood := { row := fnRatiosUptoRow, standIns := [], harness := (true, "3b011fcba1dc2342271e2ee14f4215e3915ffe9f9e068af32cbac8c4f5201e3c"), looks := true }, kinds := [], alts := [], laidByText := true, laidKinds := [.data, .data, .data, .sentinel, .sentinel, .sentinel, .sentinel], laidTests := true, laidLooks := .later }
def FnRatiosUptoCardSaid : Prop := Claim7.holds Tryd.pinned (.plain (OpenSpec.upto fnRatiosSpec)) fnRatiosUptoCard

/-- THE SECOND FORM's CARD OF 'laws.FnExactCodeName'. -/
def fnExactCodeNameUptoCard : Claim7 := { stood := { row := fnExactCodeNameUptoRow, standIns := [], harness := (true, "3b011fcba1dc2342271e2ee14f4215e3915ffe9f9e068af32cbac8c4f5201e3c"), looks := true }, kinds := [], alts := [], laidByText := true, laidKinds := [.data], laidTests := true, laidLooks := .later }
def FnExactCodeNameUptoCardSaid : Prop := Claim7.holds Tryd.pinned (.plain (OpenSpec.upto fnExactCodeNameSpec)) fnExactCodeNameUptoCard

/-- THE SECOND FORM's CARD OF 'laws.FnExactDecimal'. -/
def fnExactDecimalUptoCard : Claim7 := { stood := { row := fnExactDecimalUptoRow, standIns := [], harness := (true, "3b011fcba1dc2342271e2ee14f4215e3915ffe9f9e068af32cbac8c4f5201e3c"), looks := true }, kinds := [], alts := [], laidByText := true, laidKinds := [.data, .data, .data], laidTests := true, laidLooks := .later }
def FnExactDecimalUptoCardSaid : Prop := Claim7.holds Tryd.pinned (.plain (OpenSpec.upto fnExactDecimalSpec)) fnExactDecimalUptoCard

/-- THE SECOND FORM's CARD OF 'laws.FnExactReadDecimal'. -/
def fnExactReadDecimalUptoCard : Claim7 := { stood := { row := fnExactReadDecimalUptoRow, standIns := [], harness := (true, "3b011fcba1dc2342271e2ee14f4215e3915ffe9f9e068af32cbac8c4f5201e3c"), looks := true }, kinds := [], alts := [], laidByText := true, laidKinds := [.data, .data, .data, .sentinel, .sentinel], laidTests := true, laidLooks := .later }
def FnExactReadDecimalUptoCardSaid : Prop := Claim7.holds Tryd.pinned (.plain (OpenSpec.upto fnExactReadDecimalSpec)) fnExactReadDecimalUptoCard

/-- THE SECOND FORM's CARD OF 'laws.FnExactMakeRatio'. -/
def fnExactMakeRatioUptoCard : Claim7 := { stood := { row := fnExactMakeRatioUptoRow, standIns := [], harness := (true, "3b011fcba1dc2342271e2ee14f4215e3915ffe9f9e068af32cbac8c4f5201e3c"), looks := true }, kinds := [], alts := [], laidByText := true, laidKinds := [.sentinel, .sentinel], laidTests := true, laidLooks := .later }
def FnExactMakeRatioUptoCardSaid : Prop := Claim7.holds Tryd.pinned (.plain (OpenSpec.upto fnExactMakeRatioSpec)) fnExactMakeRatioUptoCard

/-- THE SECOND FORM's CARD OF 'laws.FnExactAddRatio'. -/
def fnExactAddRatioUptoCard : Claim7 := { stood := { row := fnExactAddRatioUptoRow, standIns := [], harness := (true, "3b011fcba1dc2342271e2ee14f4215e3915ffe9f9e068af32cbac8c4f5201e3c"), looks := true }, kinds := [], alts := [], laidByText := true, laidKinds := [.sentinel, .sentinel], laidTests := true, laidLooks := .later }
def FnExactAddRatioUptoCardSaid : Prop := Claim7.holds Tryd.pinned (.plain (OpenSpec.upto fnExactAddRatioSpec)) fnExactAddRatioUptoCard

/-- THE SECOND FORM's CARD OF 'laws.FnExactSubRatio'. -/
def fnExactSubRatioUptoCard : Claim7 := { stood := { row := fnExactSubRatioUptoRow, standIns := [], harness := (true, "3b011fcba1dc2342271e2ee14f4215e3915ffe9f9e068af32cbac8c4f5201e3c"), looks := true }, kinds := [], alts := [], laidByText := true, laidKinds := [.sentinel, .sentinel], laidTests := true, laidLooks := .later }
def FnExactSubRatioUptoCardSaid : Prop := Claim7.holds Tryd.pinned (.plain (OpenSpec.upto fnExactSubRatioSpec)) fnExactSubRatioUptoCard

/-- THE SECOND FORM's CARD OF 'laws.FnExactMulRatio'. -/
def fnExactMulRatioUptoCard : Claim7 := { stood := { row := fnExactMulRatioUptoRow, standIns := [], harness := (true, "3b011fcba1dc2342271e2ee14f4215e3915ffe9f9e068af32cbac8c4f5201e3c"), looks := true }, kinds := [], alts := [], laidByText := true, laidKinds := [.sentinel, .sentinel], laidTests := true, laidLooks := .later }
def FnExactMulRatioUptoCardSaid : Prop := Claim7.holds Tryd.pinned (.plain (OpenSpec.upto fnExactMulRatioSpec)) fnExactMulRatioUptoCard

/-- THE SECOND FORM's CARD OF 'laws.FnExactDivRatio'. -/
def fnExactDivRatioUptoCard : Claim7 := { stood := { row := fnExactDivRatioUptoRow, standIns := [], harness := (true, "3b011fcba1dc2342271e2ee14f4215e3915ffe9f9e068af32cbac8c4f5201e3c"), looks := true }, kinds := [], alts := [], laidByText := true, laidKinds := [.sentinel, .sentinel], laidTests := true, laidLooks := .later }
def FnExactDivRatioUptoCardSaid : Prop := Claim7.holds Tryd.pinned (.plain (OpenSpec.upto fnExactDivRatioSpec)) fnExactDivRatioUptoCard

/-- THE SECOND FORM's CARD OF 'laws.FnExactRatioText'. -/
def fnExactRatioTextUptoCard : Claim7 := { stood := { row := fnExactRatioTextUptoRow, standIns := [], harness := (true, "3b011fcba1dc2342271e2ee14f4215e3915ffe9f9e068af32cbac8c4f5201e3c"), looks := true }, kinds := [], alts := [], laidByText := true, laidKinds := [.data, .data, .data], laidTests := true, laidLooks := .later }
def FnExactRatioTextUptoCardSaid : Prop := Claim7.holds Tryd.pinned (.plain (OpenSpec.upto fnExactRatioTextSpec)) fnExactRatioTextUptoCard

/-- THE SECOND FORM's CARD OF 'laws.FnExactReadRatio'. -/
def fnExactReadRatioUptoCard : Claim7 := { stood := { row := fnExactReadRatioUptoRow, standIns := [], harness := (true, "3b011fcba1dc2342271e2ee14f4215e3915ffe9f9e068af32cbac8c4f5201e3c"), looks := true }, kinds := [], alts := [], laidByText := true, laidKinds := [.data, .data, .data, .sentinel, .sentinel], laidTests := true, laidLooks := .later }
def FnExactReadRatioUptoCardSaid : Prop := Claim7.holds Tryd.pinned (.plain (OpenSpec.upto fnExactReadRatioSpec)) fnExactReadRatioUptoCard
end Rows
end Go.Proofs.YtdjkmefkfknobaaDoor

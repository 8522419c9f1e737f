/-
  DERIVED. GIVEN WITH THE SEED: THE CARDS: each row of YtdgfpiekjigfnaaGreatDoorRows.lean that lists a variable, with what it lists TIED to the program's text (the seventh form; the later family's looks); each row that meets fmt, with fmt's text TOLD by the authors' own Lean function (tested against real Go, not proved from fmt's source: count such statements apart). THE CARD IS WHAT COUNTS. Prove the row's statement (the work); the ties are given (YtdgfpiekjigfnaaGreatDoorTie.lean); close each card by the builder's one call (the guide's Derived/Test/ToyasCard.lean, 'card_holds'). Laid BY PROGRAM, IN A SANDBOX (cutbox-door.mjs). By AI agents, Wed Nov 11 2026. No macro, syntax, notation, axiom, sorry.
-/
import Derived.Test.YtdgfpiekjigfnaaGreatDoorRows
import GoSem.ClaimSeven
namespace Go.Proofs.YtdgfpiekjigfnaaGreatDoor
namespace Rows

/-- THE TIED CARD OF 'dredgelaw11.MeasureHolds'. -/
def measureHoldsCard : Claim7 := { stood := { row := measureHoldsRow, standIns := [], harness := (true, "0ce464788c7d1a63319a7c97876e7b21b72938d5c0cf8336604960401c654e14"), looks := false }, kinds := [], alts := [], laidByText := true, laidKinds := [.data], laidTests := true, laidLooks := .later }
def MeasureHoldsCardSaid : Prop := Claim7.holds Tryz.pinned (.plain (OpenSpec.ofChange measureHoldsSpec)) measureHoldsCard

/-- THE TIED CARD OF 'dredgelaw11.MeasureLiteral'. -/
def measureLiteralCard : Claim7 := { stood := { row := measureLiteralRow, standIns := [], harness := (true, "0ce464788c7d1a63319a7c97876e7b21b72938d5c0cf8336604960401c654e14"), looks := false }, kinds := [], alts := [], laidByText := true, laidKinds := [.data], laidTests := true, laidLooks := .later }
def MeasureLiteralCardSaid : Prop := Claim7.holds Tryz.pinned (.plain (OpenSpec.ofChange measureLiteralSpec)) measureLiteralCard

/-- THE SECOND FORM's CARD OF 'dredgelaw11.MeasureHolds'. -/
def measureHoldsUptoCard : Claim7 := { stood := { row := measureHoldsUptoRow, standIns := [], harness := (true, "0ce464788c7d1a63319a7c97876e7b21b72938d5c0cf8336604960401c654e14"), looks := false }, kinds := [], alts := [], laidByText := true, laidKinds := [.data], laidTests := true, laidLooks := .later }
def MeasureHoldsUptoCardSaid : Prop := Claim7.holds Tryz.pinned (.plain (OpenSpec.upto measureHoldsSpec)) measureHoldsUptoCard

/-- THE SECOND FORM's CARD OF 'dredgelaw11.MeasureLiteral'. -/
def measureLiteralUptoCard : Claim7 := { stood := { row := measureLiteralUptoRow, standIns := [], harness := (true, "0ce464788c7d1a63319a7c97876e7b21b72938d5c0cf8336604960401c654e14"), looks := false }, kinds := [], alts := [], laidByText := true, laidKinds := [.data], laidTests := true, laidLooks := .later }
def MeasureLiteralUptoCardSaid : Prop := Claim7.holds Tryz.pinned (.plain (OpenSpec.upto measureLiteralSpec)) measureLiteralUptoCard
end Rows
end Go.Proofs.YtdgfpiekjigfnaaGreatDoor

/-
  DERIVED. GIVEN WITH THE SEED: THE CARDS: each row of YtlaimbkenbijeaaGreatDoorRows.lean that lists a variable, with what it lists TIED to the program's text (the seventh form; the later family's looks); each row that meets fmt, with fmt's text TOLD by the authors' own Lean function (tested against real Go, not proved from fmt's source: count such statements apart). THE CARD IS WHAT COUNTS. Prove the row's statement (the work); the ties are given (YtlaimbkenbijeaaGreatDoorTie.lean); close each card by the builder's one call (the guide's Derived/Test/ToyasCard.lean, 'card_holds'). Laid BY PROGRAM, IN A SANDBOX (cutbox-door.mjs). By AI agents, Wed Nov 11 2026. No macro, syntax, notation, axiom, sorry.
-/
import Derived.Test.YtlaimbkenbijeaaGreatDoorRows
import GoSem.ClaimSeven
namespace Go.Proofs.YtlaimbkenbijeaaGreatDoor
namespace Rows

/-- THE TIED CARD OF 'dredgelaw11.MeasureHolds'. -/
def measureHoldsCard : Claim7 := { stood := { row := measureHoldsRow, standIns := [], harness := (true, "2b821f6cb7fb2e1bf04da025a1aa9c083404a7f75c38a45f7b44eaea92f63e01"), looks := false }, kinds := [], alts := [], laidByText := true, laidKinds := [.data], laidTests := true, laidLooks := .later }
def MeasureHoldsCardSaid : Prop := Claim7.holds Tryz.pinned (.plain (OpenSpec.ofChange measureHoldsSpec)) measureHoldsCard

/-- THE TIED CARD OF 'dredgelaw11.MeasureLiteral'. -/
def measureLiteralCard : Claim7 := { stood := { row := measureLiteralRow, standIns := [], harness := (true, "2b821f6cb7fb2e1bf04da025a1aa9c083404a7f75c38a45f7b44eaea92f63e01"), looks := false }, kinds := [], alts := [], laidByText := true, laidKinds := [.data], laidTests := true, laidLooks := .later }
def MeasureLiteralCardSaid : Prop := Claim7.holds Tryz.pinned (.plain (OpenSpec.ofChange measureLiteralSpec)) measureLiteralCard

/-- THE TIED CARD OF 'dredgelaw11.MeasureParts'. -/
def measurePartsCard : Claim7 := { stood := { row := measurePartsRow, standIns := [], harness := (true, "2b821f6cb7fb2e1bf04da025a1aa9c083404a7f75c38a45f7b44eaea92f63e01"), looks := false }, kinds := [], alts := [], laidByText := true, laidKinds := [.data], laidTests := true, laidLooks := .later }
def MeasurePartsCardSaid : Prop := Claim7.holds Tryz.pinned (.plain (OpenSpec.ofChange measurePartsSpec)) measurePartsCard

/-- THE TIED CARD OF 'dredgelaw11.MeasureRefs'. -/
def measureRefsCard : Claim7 := { stood := { row := measureRefsRow, standIns := [], harness := (true, "2b821f6cb7fb2e1bf04da025a1aa9c083404a7f75c38a45f7b44eaea92f63e01"), looks := false }, kinds := [], alts := [], laidByText := true, laidKinds := [.data], laidTests := true, laidLooks := .later }
def MeasureRefsCardSaid : Prop := Claim7.holds Tryz.pinned (.plain (OpenSpec.ofChange measureRefsSpec)) measureRefsCard

/-- THE TIED CARD OF 'dredgelaw11.MeasureWidths'. -/
def measureWidthsCard : Claim7 := { stood := { row := measureWidthsRow, standIns := [], harness := (true, "2b821f6cb7fb2e1bf04da025a1aa9c083404a7f75c38a45f7b44eaea92f63e01"), looks := false }, kinds := [], alts := [], laidByText := true, laidKinds := [.data], laidTests := true, laidLooks := .later }
def MeasureWidthsCardSaid : Prop := Claim7.holds Tryz.pinned (.plain (OpenSpec.ofChange measureWidthsSpec)) measureWidthsCard

/-- THE TIED CARD OF 'dredgelaw11.MeasureTexts'. -/
def measureTextsCard : Claim7 := { stood := { row := measureTextsRow, standIns := [], harness := (true, "2b821f6cb7fb2e1bf04da025a1aa9c083404a7f75c38a45f7b44eaea92f63e01"), looks := false }, kinds := [], alts := [], laidByText := true, laidKinds := [.data], laidTests := true, laidLooks := .later }
def MeasureTextsCardSaid : Prop := Claim7.holds Tryz.pinned (.plain (OpenSpec.ofChange measureTextsSpec)) measureTextsCard

/-- THE SECOND FORM's CARD OF 'dredgelaw11.MeasureHolds'. -/
def measureHoldsUptoCard : Claim7 := { stood := { row := measureHoldsUptoRow, standIns := [], harness := (true, "2b821f6cb7fb2e1bf04da025a1aa9c083404a7f75c38a45f7b44eaea92f63e01"), looks := false }, kinds := [], alts := [], laidByText := true, laidKinds := [.data], laidTests := true, laidLooks := .later }
def MeasureHoldsUptoCardSaid : Prop := Claim7.holds Tryz.pinned (.plain (OpenSpec.upto measureHoldsSpec)) measureHoldsUptoCard

/-- THE SECOND FORM's CARD OF 'dredgelaw11.MeasureLiteral'. -/
def measureLiteralUptoCard : Claim7 := { stood := { row := measureLiteralUptoRow, standIns := [], harness := (true, "2b821f6cb7fb2e1bf04da025a1aa9c083404a7f75c38a45f7b44eaea92f63e01"), looks := false }, kinds := [], alts := [], laidByText := true, laidKinds := [.data], laidTests := true, laidLooks := .later }
def MeasureLiteralUptoCardSaid : Prop := Claim7.holds Tryz.pinned (.plain (OpenSpec.upto measureLiteralSpec)) measureLiteralUptoCard

/-- THE SECOND FORM's CARD OF 'dredgelaw11.MeasureParts'. -/
def measurePartsUptoCard : Claim7 := { stood := { row := measurePartsUptoRow, standIns := [], harness := (true, "2b821f6cb7fb2e1bf04da025a1aa9c083404a7f75c38a45f7b44eaea92f63e01"), looks := false }, kinds := [], alts := [], laidByText := true, laidKinds := [.data], laidTests := true, laidLooks := .later }
def MeasurePartsUptoCardSaid : Prop := Claim7.holds Tryz.pinned (.plain (OpenSpec.upto measurePartsSpec)) measurePartsUptoCard

/-- THE SECOND FORM's CARD OF 'dredgelaw11.MeasureRefs'. -/
def measureRefsUptoCard : Claim7 := { stood := { row := measureRefsUptoRow, standIns := [], harness := (true, "2b821f6cb7fb2e1bf04da025a1aa9c083404a7f75c38a45f7b44eaea92f63e01"), looks := false }, kinds := [], alts := [], laidByText := true, laidKinds := [.data], laidTests := true, laidLooks := .later }
def MeasureRefsUptoCardSaid : Prop := Claim7.holds Tryz.pinned (.plain (OpenSpec.upto measureRefsSpec)) measureRefsUptoCard

/-- THE SECOND FORM's CARD OF 'dredgelaw11.MeasureWidths'. -/
def measureWidthsUptoCard : Claim7 := { stood := { row := measureWidthsUptoRow, standIns := [], harness := (true, "2b821f6cb7fb2e1bf04da025a1aa9c083404a7f75c38a45f7b44eaea92f63e01"), looks := false }, kinds := [], alts := [], laidByText := true, laidKinds := [.data], laidTests := true, laidLooks := .later }
def MeasureWidthsUptoCardSaid : Prop := Claim7.holds Tryz.pinned (.plain (OpenSpec.upto measureWidthsSpec)) measureWidthsUptoCard

/-- THE SECOND FORM's CARD OF 'dredgelaw11.MeasureTexts'. -/
def measureTextsUptoCard : Claim7 := { stood := { row := measureTextsUptoRow, standIns := [], harness := (true, "2b821f6cb7fb2e1bf04da025a1aa9c083404a7f75c38a45f7b44eaea92f63e01"), looks := false }, kinds := [], alts := [], laidByText := true, laidKinds := [.data], laidTests := true, laidLooks := .later }
def MeasureTextsUptoCardSaid : Prop := Claim7.holds Tryz.pinned (.plain (OpenSpec.upto measureTextsSpec)) measureTextsUptoCard
end Rows
end Go.Proofs.YtlaimbkenbijeaaGreatDoor

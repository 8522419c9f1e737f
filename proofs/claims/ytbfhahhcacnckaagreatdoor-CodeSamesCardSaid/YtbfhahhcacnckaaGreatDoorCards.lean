/-
  DERIVED. GIVEN WITH THE SEED: THE CARDS: each row of YtbfhahhcacnckaaGreatDoorRows.lean that lists a variable, with what it lists TIED to the program's text (the seventh form; the later family's looks); each row that meets fmt, with fmt's text TOLD by the authors' own Lean function (tested against real Go, not proved from fmt's source: count such statements apart). THE CARD IS WHAT COUNTS. Prove the row's statement (the work); the ties are given (YtbfhahhcacnckaaGreatDoorTie.lean); close each card by the builder's one call (the guide's Derived/Test/ToyasCard.lean, 'card_holds'). Laid BY PROGRAM, IN A SANDBOX (cutbox-door.mjs). By AI agents, Wed Nov 11 2026. No macro, syntax, notation, axiom, sorry.
-/
import Derived.Test.YtbfhahhcacnckaaGreatDoorRows
import GoSem.ClaimSeven
namespace Go.Proofs.YtbfhahhcacnckaaGreatDoor
namespace Rows

/-- THE TIED CARD OF 'dredgelaw14.CodeSames'. -/
def codeSamesCard : Claim7 := { stood := { row := codeSamesRow, standIns := [], harness := (true, "02fc517bfcfa79cced4c954309e8e6de9da3bd875c6242513716dbea5b792485"), looks := true }, kinds := [], alts := [], laidByText := true, laidKinds := [.data, .data, .data, .sentinel, .sentinel], laidTests := true, laidLooks := .later }
def CodeSamesCardSaid : Prop := Claim7.holds Tryz.pinned (.plain (OpenSpec.ofChange codeSamesSpec)) codeSamesCard

/-- THE TIED CARD OF 'dredgelaw14.CodeIdle'. -/
def codeIdleCard : Claim7 := { stood := { row := codeIdleRow, standIns := [], harness := (true, "02fc517bfcfa79cced4c954309e8e6de9da3bd875c6242513716dbea5b792485"), looks := true }, kinds := [], alts := [], laidByText := true, laidKinds := [.data, .data, .data, .sentinel, .sentinel], laidTests := true, laidLooks := .later }
def CodeIdleCardSaid : Prop := Claim7.holds Tryz.pinned (.plain (OpenSpec.ofChange codeIdleSpec)) codeIdleCard

/-- THE TIED CARD OF 'dredgelaw14.CodeUnreached'. -/
def codeUnreachedCard : Claim7 := { stood := { row := codeUnreachedRow, standIns := [], harness := (true, "02fc517bfcfa79cced4c954309e8e6de9da3bd875c6242513716dbea5b792485"), looks := true }, kinds := [], alts := [], laidByText := true, laidKinds := [.data, .data, .data, .sentinel, .sentinel], laidTests := true, laidLooks := .later }
def CodeUnreachedCardSaid : Prop := Claim7.holds Tryz.pinned (.plain (OpenSpec.ofChange codeUnreachedSpec)) codeUnreachedCard

/-- THE TIED CARD OF 'dredgelaw14.CodeFree'. -/
def codeFreeCard : Claim7 := { stood := { row := codeFreeRow, standIns := [], harness := (true, "02fc517bfcfa79cced4c954309e8e6de9da3bd875c6242513716dbea5b792485"), looks := true }, kinds := [], alts := [], laidByText := true, laidKinds := [.data, .data, .data, .sentinel, .sentinel], laidTests := true, laidLooks := .later }
def CodeFreeCardSaid : Prop := Claim7.holds Tryz.pinned (.plain (OpenSpec.ofChange codeFreeSpec)) codeFreeCard

/-- THE SECOND FORM's CARD OF 'dredgelaw14.CodeSames'. -/
def codeSamesUptoCard : Claim7 := { stood := { row := codeSamesUptoRow, standIns := [], harness := (true, "02fc517bfcfa79cced4c954309e8e6de9da3bd875c6242513716dbea5b792485"), looks := true }, kinds := [], alts := [], laidByText := true, laidKinds := [.data, .data, .data, .sentinel, .sentinel], laidTests := true, laidLooks := .later }
def CodeSamesUptoCardSaid : Prop := Claim7.holds Tryz.pinned (.plain (OpenSpec.upto codeSamesSpec)) codeSamesUptoCard

/-- THE SECOND FORM's CARD OF 'dredgelaw14.CodeIdle'. -/
def codeIdleUptoCard : Claim7 := { stood := { row := codeIdleUptoRow, standIns := [], harness := (true, "02fc517bfcfa79cced4c954309e8e6de9da3bd875c6242513716dbea5b792485"), looks := true }, kinds := [], alts := [], laidByText := true, laidKinds := [.data, .data, .data, .sentinel, .sentinel], laidTests := true, laidLooks := .later }
def CodeIdleUptoCardSaid : Prop := Claim7.holds Tryz.pinned (.plain (OpenSpec.upto codeIdleSpec)) codeIdleUptoCard

/-- THE SECOND FORM's CARD OF 'dredgelaw14.CodeUnreached'. -/
def codeUnreachedUptoCard : Claim7 := { stood := { row := codeUnreachedUptoRow, standIns := [], harness := (true, "02fc517bfcfa79cced4c954309e8e6de9da3bd875c6242513716dbea5b792485"), looks := true }, kinds := [], alts := [], laidByText := true, laidKinds := [.data, .data, .data, .sentinel, .sentinel], laidTests := true, laidLooks := .later }
def CodeUnreachedUptoCardSaid : Prop := Claim7.holds Tryz.pinned (.plain (OpenSpec.upto codeUnreachedSpec)) codeUnreachedUptoCard

/-- THE SECOND FORM's CARD OF 'dredgelaw14.CodeFree'. -/
def codeFreeUptoCard : Claim7 := { stood := { row := codeFreeUptoRow, standIns := [], harness := (true, "02fc517bfcfa79cced4c954309e8e6de9da3bd875c6242513716dbea5b792485"), looks := true }, kinds := [], alts := [], laidByText := true, laidKinds := [.data, .data, .data, .sentinel, .sentinel], laidTests := true, laidLooks := .later }
def CodeFreeUptoCardSaid : Prop := Claim7.holds Tryz.pinned (.plain (OpenSpec.upto codeFreeSpec)) codeFreeUptoCard
end Rows
end Go.Proofs.YtbfhahhcacnckaaGreatDoor

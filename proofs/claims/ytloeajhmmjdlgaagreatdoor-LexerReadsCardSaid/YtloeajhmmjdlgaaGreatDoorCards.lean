/-
  DERIVED. GIVEN WITH THE SEED: THE CARDS: each row of YtloeajhmmjdlgaaGreatDoorRows.lean that lists a variable, with what it lists TIED to the program's text (the seventh form; the later family's looks); each row that meets fmt, with fmt's text TOLD by the authors' own Lean function (tested against real Go, not proved from fmt's source: count such statements apart). THE CARD IS WHAT COUNTS. Prove the row's statement (the work); the ties are given (YtloeajhmmjdlgaaGreatDoorTie.lean); close each card by the builder's one call (the guide's Derived/Test/ToyasCard.lean, 'card_holds'). Laid BY PROGRAM, IN A SANDBOX (cutbox-door.mjs). By AI agents, Wed Nov 11 2026. No macro, syntax, notation, axiom, sorry.
-/
import Derived.Test.YtloeajhmmjdlgaaGreatDoorRows
import GoSem.ClaimSeven
namespace Go.Proofs.YtloeajhmmjdlgaaGreatDoor
namespace Rows

/-- THE TIED CARD OF 'dredgelaw07.LexerReads'. -/
def lexerReadsCard : Claim7 := { stood := { row := lexerReadsRow, standIns := [], harness := (true, "d537e92ac5bada2ab0c77100ca5e4aecbffb6456197bb390ff8342d26f0bb9e7"), looks := true }, kinds := [], alts := [], laidByText := true, laidKinds := [.data, .pinned], laidTests := true, laidLooks := .later }
def LexerReadsCardSaid : Prop := Claim7.holds Tryz.pinned (.plain (OpenSpec.ofChange lexerReadsSpec)) lexerReadsCard

/-- THE SECOND FORM's CARD OF 'dredgelaw07.LexerReads'. -/
def lexerReadsUptoCard : Claim7 := { stood := { row := lexerReadsUptoRow, standIns := [], harness := (true, "d537e92ac5bada2ab0c77100ca5e4aecbffb6456197bb390ff8342d26f0bb9e7"), looks := true }, kinds := [], alts := [], laidByText := true, laidKinds := [.data, .pinned], laidTests := true, laidLooks := .later }
def LexerReadsUptoCardSaid : Prop := Claim7.holds Tryz.pinned (.plain (OpenSpec.upto lexerReadsSpec)) lexerReadsUptoCard
end Rows
end Go.Proofs.YtloeajhmmjdlgaaGreatDoor

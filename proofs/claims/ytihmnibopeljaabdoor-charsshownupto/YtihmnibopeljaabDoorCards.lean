/-
  DERIVED. GIVEN WITH THE SEED: THE CARDS: each row of YtihmnibopeljaabDoorRows.lean that lists a variable, with what it lists TIED to the program's text (the seventh form; the later family's looks); each row that meets fmt, with fmt's text TOLD by the authors' own Lean function (tested against real Go, not proved from fmt's source: count such statements apart). THE CARD IS WHAT COUNTS. Prove the row's statement (the work); the ties are given (YtihmnibopeljaabDoorTie.lean); close each card by the builder's one call (the guide's Derived/Test/ToyasCard.lean, 'card_holds'). Laid BY PROGRAM, IN A SANDBOX (cutbox-door.mjs). By AI agents, Wed Nov 11 2026. No macro, syntax, notation, axiom, sorry.
-/
import Derived.Test.YtihmnibopeljaabDoorRows
import GoSem.ClaimSeven
namespace Go.Proofs.YtihmnibopeljaabDoor
namespace Rows

/-- THE TIED CARD OF 'dredgelaw05.CharsShown'. -/
def charsShownCard : Claim7 := { stood := { row := charsShownRow, standIns := [], harness := (true, "e2e13c738d9885ef25047e136cca6d4922fdb71a7554f2f7a2746a61e7f3403e"), looks := false }, kinds := [], alts := [], laidByText := true, laidKinds := [.data, .data, .pinned], laidTests := true, laidLooks := .later }
def CharsShownCardSaid : Prop := Claim7.holds Tryd.pinned (.plain (OpenSpec.ofChange charsShownSpec)) charsShownCard

/-- THE SECOND FORM's CARD OF 'dredgelaw05.CharsShown'. -/
def charsShownUptoCard : Claim7 := { stood := { row := charsShownUptoRow, standIns := [], harness := (true, "e2e13c738d9885ef25047e136cca6d4922fdb71a7554f2f7a2746a61e7f3403e"), looks := false }, kinds := [], alts := [], laidByText := true, laidKinds := [.data, .data, .pinned], laidTests := true, laidLooks := .later }
def CharsShownUptoCardSaid : Prop := Claim7.holds Tryd.pinned (.plain (OpenSpec.upto charsShownSpec)) charsShownUptoCard
end Rows
end Go.Proofs.YtihmnibopeljaabDoor

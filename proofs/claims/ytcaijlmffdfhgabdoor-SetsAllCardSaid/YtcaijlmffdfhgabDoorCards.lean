/-
  DERIVED. GIVEN WITH THE SEED: THE CARDS: each row of YtcaijlmffdfhgabDoorRows.lean that lists a variable, with what it lists TIED to the program's text (the seventh form; the later family's looks); each row that meets fmt, with fmt's text TOLD by the authors' own Lean function (tested against real Go, not proved from fmt's source: count such statements apart). THE CARD IS WHAT COUNTS. Prove the row's statement (the work); the ties are given (YtcaijlmffdfhgabDoorTie.lean); close each card by the builder's one call (the guide's Derived/Test/ToyasCard.lean, 'card_holds'). Laid BY PROGRAM, IN A SANDBOX (cutbox-door.mjs). By AI agents, Wed Nov 11 2026. No macro, syntax, notation, axiom, sorry.
-/
import Derived.Test.YtcaijlmffdfhgabDoorRows
import GoSem.ClaimSeven
namespace Go.Proofs.YtcaijlmffdfhgabDoor
namespace Rows

/-- THE TIED CARD OF 'dredgelaw01.SetsAll'. -/
def setsAllCard : Claim7 := { stood := { row := setsAllRow, standIns := [], harness := (true, "6e9a96c2c21bdc2af1f364ca9202724a0f9769200be2be42289f4b9da669e999"), looks := false }, kinds := [], alts := [], laidByText := true, laidKinds := [.data], laidTests := true, laidLooks := .later }
def SetsAllCardSaid : Prop := Claim7.holds Tryd.pinned (.plain (OpenSpec.ofChange setsAllSpec)) setsAllCard

/-- THE SECOND FORM's CARD OF 'dredgelaw01.SetsAll'. -/
def setsAllUptoCard : Claim7 := { stood := { row := setsAllUptoRow, standIns := [], harness := (true, "6e9a96c2c21bdc2af1f364ca9202724a0f9769200be2be42289f4b9da669e999"), looks := false }, kinds := [], alts := [], laidByText := true, laidKinds := [.data], laidTests := true, laidLooks := .later }
def SetsAllUptoCardSaid : Prop := Claim7.holds Tryd.pinned (.plain (OpenSpec.upto setsAllSpec)) setsAllUptoCard
end Rows
end Go.Proofs.YtcaijlmffdfhgabDoor

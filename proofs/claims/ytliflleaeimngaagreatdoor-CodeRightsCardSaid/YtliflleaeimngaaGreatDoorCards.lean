/-
  DERIVED. GIVEN WITH THE SEED: THE CARDS: each row of YtliflleaeimngaaGreatDoorRows.lean that lists a variable, with what it lists TIED to the program's text (the seventh form; the later family's looks); each row that meets fmt, with fmt's text TOLD by the authors' own Lean function (tested against real Go, not proved from fmt's source: count such statements apart). THE CARD IS WHAT COUNTS. Prove the row's statement (the work); the ties are given (YtliflleaeimngaaGreatDoorTie.lean); close each card by the builder's one call (the guide's Derived/Test/ToyasCard.lean, 'card_holds'). Laid BY PROGRAM, IN A SANDBOX (cutbox-door.mjs). By AI agents, Wed Nov 11 2026. No macro, syntax, notation, axiom, sorry.
-/
import Derived.Test.YtliflleaeimngaaGreatDoorRows
import GoSem.ClaimSeven
namespace Go.Proofs.YtliflleaeimngaaGreatDoor
namespace Rows

/-- THE TIED CARD OF 'dredgelaw14.CodeRights'. -/
def codeRightsCard : Claim7 := { stood := { row := codeRightsRow, standIns := [], harness := (true, "7028257f5bbfa170f0400b5bb5fae5a67e6d749feb73a2d8bb993fbbb2443aa4"), looks := true }, kinds := [], alts := [], laidByText := true, laidKinds := [.data, .data, .data, .sentinel, .sentinel], laidTests := true, laidLooks := .later }
def CodeRightsCardSaid : Prop := Claim7.holds Tryz.pinned (.plain (OpenSpec.ofChange codeRightsSpec)) codeRightsCard

/-- THE SECOND FORM's CARD OF 'dredgelaw14.CodeRights'. -/
def codeRightsUptoCard : Claim7 := { stood := { row := codeRightsUptoRow, standIns := [], harness := (true, "7028257f5bbfa170f0400b5bb5fae5a67e6d749feb73a2d8bb993fbbb2443aa4"), looks := true }, kinds := [], alts := [], laidByText := true, laidKinds := [.data, .data, .data, .sentinel, .sentinel], laidTests := true, laidLooks := .later }
def CodeRightsUptoCardSaid : Prop := Claim7.holds Tryz.pinned (.plain (OpenSpec.upto codeRightsSpec)) codeRightsUptoCard
end Rows
end Go.Proofs.YtliflleaeimngaaGreatDoor

/-
  DERIVED. GIVEN WITH THE SEED: THE CARDS: each row of YtpfdapnfkghgkaaGreatDoorRows.lean that lists a variable, with what it lists TIED to the program's text (the seventh form; the later family's looks); each row that meets fmt, with fmt's text TOLD by the authors' own Lean function (tested against real Go, not proved from fmt's source: count such statements apart). THE CARD IS WHAT COUNTS. Prove the row's statement (the work); the ties are given (YtpfdapnfkghgkaaGreatDoorTie.lean); close each card by the builder's one call (the guide's Derived/Test/ToyasCard.lean, 'card_holds'). Laid BY PROGRAM, IN A SANDBOX (cutbox-door.mjs). By AI agents, Wed Nov 11 2026. No macro, syntax, notation, axiom, sorry.
-/
import Derived.Test.YtpfdapnfkghgkaaGreatDoorRows
import GoSem.ClaimSeven
namespace Go.Proofs.YtpfdapnfkghgkaaGreatDoor
namespace Rows

/-- THE TIED CARD OF 'dredgelaw09.ParseSound'. -/
def parseSoundCard : Claim7 := { stood := { row := parseSoundRow, standIns := [], harness := (true, "8cf0740d5a5de4ce32153b39c820da56e37d9ae8fa6bc8e761faa7b5f832459e"), looks := true }, kinds := [], alts := [], laidByText := true, laidKinds := [.data, .pinned], laidTests := true, laidLooks := .later }
def ParseSoundCardSaid : Prop := Claim7.holds Tryz.pinned (.plain (OpenSpec.ofChange parseSoundSpec)) parseSoundCard

/-- THE TIED CARD OF 'dredgelaw09.ParseGroup'. -/
def parseGroupCard : Claim7 := { stood := { row := parseGroupRow, standIns := [], harness := (true, "8cf0740d5a5de4ce32153b39c820da56e37d9ae8fa6bc8e761faa7b5f832459e"), looks := true }, kinds := [], alts := [], laidByText := true, laidKinds := [.data, .pinned], laidTests := true, laidLooks := .later }
def ParseGroupCardSaid : Prop := Claim7.holds Tryz.pinned (.plain (OpenSpec.ofChange parseGroupSpec)) parseGroupCard

/-- THE TIED CARD OF 'dredgelaw09.ParseOften'. -/
def parseOftenCard : Claim7 := { stood := { row := parseOftenRow, standIns := [], harness := (true, "8cf0740d5a5de4ce32153b39c820da56e37d9ae8fa6bc8e761faa7b5f832459e"), looks := true }, kinds := [], alts := [], laidByText := true, laidKinds := [.data, .pinned], laidTests := true, laidLooks := .later }
def ParseOftenCardSaid : Prop := Claim7.holds Tryz.pinned (.plain (OpenSpec.ofChange parseOftenSpec)) parseOftenCard

/-- THE TIED CARD OF 'dredgelaw09.ParseLiteral'. -/
def parseLiteralCard : Claim7 := { stood := { row := parseLiteralRow, standIns := [], harness := (true, "8cf0740d5a5de4ce32153b39c820da56e37d9ae8fa6bc8e761faa7b5f832459e"), looks := true }, kinds := [], alts := [], laidByText := true, laidKinds := [.data, .pinned], laidTests := true, laidLooks := .later }
def ParseLiteralCardSaid : Prop := Claim7.holds Tryz.pinned (.plain (OpenSpec.ofChange parseLiteralSpec)) parseLiteralCard

/-- THE TIED CARD OF 'dredgelaw09.ParseReads'. -/
def parseReadsCard : Claim7 := { stood := { row := parseReadsRow, standIns := [], harness := (true, "8cf0740d5a5de4ce32153b39c820da56e37d9ae8fa6bc8e761faa7b5f832459e"), looks := true }, kinds := [], alts := [], laidByText := true, laidKinds := [.data, .pinned], laidTests := true, laidLooks := .later }
def ParseReadsCardSaid : Prop := Claim7.holds Tryz.pinned (.plain (OpenSpec.ofChange parseReadsSpec)) parseReadsCard

/-- THE SECOND FORM's CARD OF 'dredgelaw09.ParseSound'. -/
def parseSoundUptoCard : Claim7 := { stood := { row := parseSoundUptoRow, standIns := [], harness := (true, "8cf0740d5a5de4ce32153b39c820da56e37d9ae8fa6bc8e761faa7b5f832459e"), looks := true }, kinds := [], alts := [], laidByText := true, laidKinds := [.data, .pinned], laidTests := true, laidLooks := .later }
def ParseSoundUptoCardSaid : Prop := Claim7.holds Tryz.pinned (.plain (OpenSpec.upto parseSoundSpec)) parseSoundUptoCard

/-- THE SECOND FORM's CARD OF 'dredgelaw09.ParseGroup'. -/
def parseGroupUptoCard : Claim7 := { stood := { row := parseGroupUptoRow, standIns := [], harness := (true, "8cf0740d5a5de4ce32153b39c820da56e37d9ae8fa6bc8e761faa7b5f832459e"), looks := true }, kinds := [], alts := [], laidByText := true, laidKinds := [.data, .pinned], laidTests := true, laidLooks := .later }
def ParseGroupUptoCardSaid : Prop := Claim7.holds Tryz.pinned (.plain (OpenSpec.upto parseGroupSpec)) parseGroupUptoCard

/-- THE SECOND FORM's CARD OF 'dredgelaw09.ParseOften'. -/
def parseOftenUptoCard : Claim7 := { stood := { row := parseOftenUptoRow, standIns := [], harness := (true, "8cf0740d5a5de4ce32153b39c820da56e37d9ae8fa6bc8e761faa7b5f832459e"), looks := true }, kinds := [], alts := [], laidByText := true, laidKinds := [.data, .pinned], laidTests := true, laidLooks := .later }
def ParseOftenUptoCardSaid : Prop := Claim7.holds Tryz.pinned (.plain (OpenSpec.upto parseOftenSpec)) parseOftenUptoCard

/-- THE SECOND FORM's CARD OF 'dredgelaw09.ParseLiteral'. -/
def parseLiteralUptoCard : Claim7 := { stood := { row := parseLiteralUptoRow, standIns := [], harness := (true, "8cf0740d5a5de4ce32153b39c820da56e37d9ae8fa6bc8e761faa7b5f832459e"), looks := true }, kinds := [], alts := [], laidByText := true, laidKinds := [.data, .pinned], laidTests := true, laidLooks := .later }
def ParseLiteralUptoCardSaid : Prop := Claim7.holds Tryz.pinned (.plain (OpenSpec.upto parseLiteralSpec)) parseLiteralUptoCard

/-- THE SECOND FORM's CARD OF 'dredgelaw09.ParseReads'. -/
def parseReadsUptoCard : Claim7 := { stood := { row := parseReadsUptoRow, standIns := [], harness := (true, "8cf0740d5a5de4ce32153b39c820da56e37d9ae8fa6bc8e761faa7b5f832459e"), looks := true }, kinds := [], alts := [], laidByText := true, laidKinds := [.data, .pinned], laidTests := true, laidLooks := .later }
def ParseReadsUptoCardSaid : Prop := Claim7.holds Tryz.pinned (.plain (OpenSpec.upto parseReadsSpec)) parseReadsUptoCard
end Rows
end Go.Proofs.YtpfdapnfkghgkaaGreatDoor

/-
  DERIVED. GIVEN WITH THE SEED: THE CARDS: each row of YtaikcnoiaaiopaaDoorRows.lean that lists a variable, with what it lists TIED to the program's text (the seventh form; the later family's looks); each row that meets fmt, with fmt's text TOLD by the authors' own Lean function (tested against real Go, not proved from fmt's source: count such statements apart). THE CARD IS WHAT COUNTS. Prove the row's statement (the work); the ties are given (YtaikcnoiaaiopaaDoorTie.lean); close each card by the builder's one call (the guide's Derived/Test/ToyasCard.lean, 'card_holds'). Laid BY PROGRAM, IN A SANDBOX (cutbox-door.mjs). By AI agents, Wed Nov 11 2026. No macro, syntax, notation, axiom, sorry.
-/
import Derived.Test.YtaikcnoiaaiopaaDoorRows
import GoSem.ClaimSeven
namespace Go.Proofs.YtaikcnoiaaiopaaDoor
namespace Rows

/-- THE TIED CARD OF 'dredgelaw19.HuntPlays'. -/
def huntPlaysCard : Claim7 := { stood := { row := huntPlaysRow, standIns := [], harness := (true, "64f719c2718dc2a50aa4064214d2f2f21e3ac4ade63a5f4d8aac18119b07b94e"), looks := false }, kinds := [], alts := [], laidByText := true, laidKinds := [.data], laidTests := true, laidLooks := .later }
def HuntPlaysCardSaid : Prop := Claim7.holds Tryd.pinned (.plain (OpenSpec.ofChange huntPlaysSpec)) huntPlaysCard

/-- THE TIED CARD OF 'dredgelaw19.HuntFollows'. -/
def huntFollowsCard : Claim7 := { stood := { row := huntFollowsRow, standIns := [], harness := (true, "64f719c2718dc2a50aa4064214d2f2f21e3ac4ade63a5f4d8aac18119b07b94e"), looks := false }, kinds := [], alts := [], laidByText := true, laidKinds := [.data], laidTests := true, laidLooks := .later }
def HuntFollowsCardSaid : Prop := Claim7.holds Tryd.pinned (.plain (OpenSpec.ofChange huntFollowsSpec)) huntFollowsCard

/-- THE TIED CARD OF 'dredgelaw19.HuntFolds'. -/
def huntFoldsCard : Claim7 := { stood := { row := huntFoldsRow, standIns := [], harness := (true, "64f719c2718dc2a50aa4064214d2f2f21e3ac4ade63a5f4d8aac18119b07b94e"), looks := false }, kinds := [], alts := [], laidByText := true, laidKinds := [.data], laidTests := true, laidLooks := .later }
def HuntFoldsCardSaid : Prop := Claim7.holds Tryd.pinned (.plain (OpenSpec.ofChange huntFoldsSpec)) huntFoldsCard

/-- THE TIED CARD OF 'dredgelaw19.HuntMore'. -/
def huntMoreCard : Claim7 := { stood := { row := huntMoreRow, standIns := [], harness := (true, "64f719c2718dc2a50aa4064214d2f2f21e3ac4ade63a5f4d8aac18119b07b94e"), looks := false }, kinds := [], alts := [], laidByText := true, laidKinds := [.data], laidTests := true, laidLooks := .later }
def HuntMoreCardSaid : Prop := Claim7.holds Tryd.pinned (.plain (OpenSpec.ofChange huntMoreSpec)) huntMoreCard

/-- THE TIED CARD OF 'dredgelaw19.HuntEvery'. -/
def huntEveryCard : Claim7 := { stood := { row := huntEveryRow, standIns := [], harness := (true, "64f719c2718dc2a50aa4064214d2f2f21e3ac4ade63a5f4d8aac18119b07b94e"), looks := false }, kinds := [], alts := [], laidByText := true, laidKinds := [.data], laidTests := true, laidLooks := .later }
def HuntEveryCardSaid : Prop := Claim7.holds Tryd.pinned (.plain (OpenSpec.ofChange huntEverySpec)) huntEveryCard

/-- THE TIED CARD OF 'dredgelaw19.HuntJoined'. -/
def huntJoinedCard : Claim7 := { stood := { row := huntJoinedRow, standIns := [], harness := (true, "64f719c2718dc2a50aa4064214d2f2f21e3ac4ade63a5f4d8aac18119b07b94e"), looks := false }, kinds := [], alts := [], laidByText := true, laidKinds := [.data], laidTests := true, laidLooks := .later }
def HuntJoinedCardSaid : Prop := Claim7.holds Tryd.pinned (.plain (OpenSpec.ofChange huntJoinedSpec)) huntJoinedCard

/-- THE SECOND FORM's CARD OF 'dredgelaw19.HuntPlays'. -/
def huntPlaysUptoCard : Claim7 := { stood := { row := huntPlaysUptoRow, standIns := [], harness := (true, "64f719c2718dc2a50aa4064214d2f2f21e3ac4ade63a5f4d8aac18119b07b94e"), looks := false }, kinds := [], alts := [], laidByText := true, laidKinds := [.data], laidTests := true, laidLooks := .later }
def HuntPlaysUptoCardSaid : Prop := Claim7.holds Tryd.pinned (.plain (OpenSpec.upto huntPlaysSpec)) huntPlaysUptoCard

/-- THE SECOND FORM's CARD OF 'dredgelaw19.HuntFollows'. -/
def huntFollowsUptoCard : Claim7 := { stood := { row := huntFollowsUptoRow, standIns := [], harness := (true, "64f719c2718dc2a50aa4064214d2f2f21e3ac4ade63a5f4d8aac18119b07b94e"), looks := false }, kinds := [], alts := [], laidByText := true, laidKinds := [.data], laidTests := true, laidLooks := .later }
def HuntFollowsUptoCardSaid : Prop := Claim7.holds Tryd.pinned (.plain (OpenSpec.upto huntFollowsSpec)) huntFollowsUptoCard

/-- THE SECOND FORM's CARD OF 'dredgelaw19.HuntFolds'. -/
def huntFoldsUptoCard : Claim7 := { stood := { row := huntFoldsUptoRow, standIns := [], harness := (true, "64f719c2718dc2a50aa4064214d2f2f21e3ac4ade63a5f4d8aac18119b07b94e"), looks := false }, kinds := [], alts := [], laidByText := true, laidKinds := [.data], laidTests := true, laidLooks := .later }
def HuntFoldsUptoCardSaid : Prop := Claim7.holds Tryd.pinned (.plain (OpenSpec.upto huntFoldsSpec)) huntFoldsUptoCard

/-- THE SECOND FORM's CARD OF 'dredgelaw19.HuntMore'. -/
def huntMoreUptoCard : Claim7 := { stood := { row := huntMoreUptoRow, standIns := [], harness := (true, "64f719c2718dc2a50aa4064214d2f2f21e3ac4ade63a5f4d8aac18119b07b94e"), looks := false }, kinds := [], alts := [], laidByText := true, laidKinds := [.data], laidTests := true, laidLooks := .later }
def HuntMoreUptoCardSaid : Prop := Claim7.holds Tryd.pinned (.plain (OpenSpec.upto huntMoreSpec)) huntMoreUptoCard

/-- THE SECOND FORM's CARD OF 'dredgelaw19.HuntEvery'. -/
def huntEveryUptoCard : Claim7 := { stood := { row := huntEveryUptoRow, standIns := [], harness := (true, "64f719c2718dc2a50aa4064214d2f2f21e3ac4ade63a5f4d8aac18119b07b94e"), looks := false }, kinds := [], alts := [], laidByText := true, laidKinds := [.data], laidTests := true, laidLooks := .later }
def HuntEveryUptoCardSaid : Prop := Claim7.holds Tryd.pinned (.plain (OpenSpec.upto huntEverySpec)) huntEveryUptoCard

/-- THE SECOND FORM's CARD OF 'dredgelaw19.HuntJoined'. -/
def huntJoinedUptoCard : Claim7 := { stood := { row := huntJoinedUptoRow, standIns := [], harness := (true, "64f719c2718dc2a50aa4064214d2f2f21e3ac4ade63a5f4d8aac18119b07b94e"), looks := false }, kinds := [], alts := [], laidByText := true, laidKinds := [.data], laidTests := true, laidLooks := .later }
def HuntJoinedUptoCardSaid : Prop := Claim7.holds Tryd.pinned (.plain (OpenSpec.upto huntJoinedSpec)) huntJoinedUptoCard
end Rows
end Go.Proofs.YtaikcnoiaaiopaaDoor

/-
  NARROWER THAN 'FOR EVERY INPUT', by the rows' own cells (each row's printed sentence says how): MeasureHolds: loops, laid · MeasureLiteral: loops, laid.
  DERIVED. THE GIVEN ROWS OF THIS SEAT. 2 by the template 'for every input the law returns true; each argument reads behind the call as it read before'; 0 by the template 'total and deterministic' (their statements: YtdgfpiekjigfnaaGreatDoorTotals.lean).
  GIVEN WITH THE SEED: the statements are not yours to turn. If you find one false, say at which input.
  Laid BY PROGRAM, IN A SANDBOX (cutbox-rows.mjs): the forced cells as the released guide's own fill.sh prints them over the translation 14d59dae8e62622f… (all of the seat's roots in one cut). By AI agents, Wed Nov 11 2026. No macro, syntax, notation, axiom, sorry.
-/
import Derived.Test.YtdgfpiekjigfnaaGreatDoorChecked
import GoSem.Claim
import GoSem.ClaimJoined
import GoSem.ClaimMapViews
import Derived.JoinedTies
import Derived.KernelRfl
namespace Go.Proofs.YtdgfpiekjigfnaaGreatDoor
/- THE CELL 'sum', in the pinned program and in every row, IS THE sha256 OF THE DUMP (.gsa) THAT YtdgfpiekjigfnaaGreatDoorProg.lean LOADS. Nothing in Lean hashes anything: it is a label: what it is worth is what the hold of that sum in a sandbox is worth. -/
noncomputable def Tryz.pinned : Pinned := { name := "ytdgfpiekjigfnaagreatdoor", sum := "14d59dae8e62622f19e1c5232e15aa2aa103981ab2110751452f804d2004da72", checked := Tryz.checked }
namespace Rows
def none {H : Type} : Left H := { results := [], args := [] }

/- WHAT THE LISTED PACKAGE-LEVEL VARIABLES READ AS WHEN THE CALL BEGINS. Each datum BY PROGRAM (the guide's laid-datum.mjs) off the statement by which the dump's own 'gosem.cut.vars' lays the variable. In a bare row this is a premise. The card (YtdgfpiekjigfnaaGreatDoorCards.lean) ties it to the program's text. -/
def laid_dredge_chars_spans {H : Type} : DataW H := .agg [.agg [.lit (.int .i64 0), .lit (.int .i64 127)], .agg [.lit (.int .i64 128), .lit (.int .i64 2047)], .agg [.lit (.int .i64 2048), .lit (.int .i64 55295)], .agg [.lit (.int .i64 57344), .lit (.int .i64 65535)], .agg [.lit (.int .i64 65536), .lit (.int .i64 1114111)]]

/-- 'dredgelaw11.MeasureHolds': WHATEVER THE INPUT: true; the input reads as it did. -/
def measureHoldsSpec : ChangeSpec := { name := "measureHolds", fn := fun _ => fun
  | [d1, d2, d3] => { results := [.lit (.bool true)], args := [d1, d2, d3] }
  | _ => none }
def measureHoldsRow : OpenClaim := { program := "ytdgfpiekjigfnaagreatdoor", sum := "14d59dae8e62622f19e1c5232e15aa2aa103981ab2110751452f804d2004da72", func := "dredge/dredgelaw11.MeasureHolds", spec := "measureHolds", inPlace := ["internal/abi.NoEscape", "internal/bytealg.MakeNoZero"], unfollowed := true, recurses := true, named := ["dredge/chars.spans"], loops := true, apart := false, laid := [("dredge/chars.spans", laid_dredge_chars_spans)] }
def MeasureHoldsSaid : Prop := measureHoldsRow.holds Tryz.pinned (OpenSpec.ofChange measureHoldsSpec)

/-- ITS FALSE NEIGHBOUR: 'it returns false'. Refute it at one input. -/
def measureHoldsWrong : ChangeSpec := { name := "measureHolds", fn := fun _ => fun
  | [d1, d2, d3] => { results := [.lit (.bool false)], args := [d1, d2, d3] }
  | _ => none }
def MeasureHoldsWrongFalsely : Prop := measureHoldsRow.holds Tryz.pinned (OpenSpec.ofChange measureHoldsWrong)

/-- 'dredgelaw11.MeasureLiteral': WHATEVER THE INPUT: true; the input reads as it did. -/
def measureLiteralSpec : ChangeSpec := { name := "measureLiteral", fn := fun _ => fun
  | [d1, d2, d3, d4] => { results := [.lit (.bool true)], args := [d1, d2, d3, d4] }
  | _ => none }
def measureLiteralRow : OpenClaim := { program := "ytdgfpiekjigfnaagreatdoor", sum := "14d59dae8e62622f19e1c5232e15aa2aa103981ab2110751452f804d2004da72", func := "dredge/dredgelaw11.MeasureLiteral", spec := "measureLiteral", inPlace := ["internal/abi.NoEscape", "internal/bytealg.MakeNoZero"], unfollowed := true, recurses := true, named := ["dredge/chars.spans"], loops := true, apart := false, laid := [("dredge/chars.spans", laid_dredge_chars_spans)] }
def MeasureLiteralSaid : Prop := measureLiteralRow.holds Tryz.pinned (OpenSpec.ofChange measureLiteralSpec)

/-- ITS FALSE NEIGHBOUR: 'it returns false'. Refute it at one input. -/
def measureLiteralWrong : ChangeSpec := { name := "measureLiteral", fn := fun _ => fun
  | [d1, d2, d3, d4] => { results := [.lit (.bool false)], args := [d1, d2, d3, d4] }
  | _ => none }
def MeasureLiteralWrongFalsely : Prop := measureLiteralRow.holds Tryz.pinned (OpenSpec.ofChange measureLiteralWrong)

/- THE SECOND FORM. 'bulk': how many values and letters a reading holds, each counted each time it is reached (what is shared counts as often as it is met; a slice's spare places count too). A statement '..UptoSaid' is the law's where the arguments, and the package variables that the reading takes, are together of bulk at most 1048576: NARROWER than '..Said'. Prove '..Said' where nothing that the law and all that it calls make is longer than what came in: it says more and counts as full. Else prove '..UptoSaid'. A law counts once. -/
mutual
def uptoBulk {H : Type} : DataW H → Nat
  | .lit (.string bytes) => bytes.length + 1
  | .lit _ => 1
  | .nil => 1
  | .ptr d => uptoBulk d + 1
  | .slice elems spare => uptoBulkAll elems + uptoBulkAll spare + 1
  | .agg parts => uptoBulkAll parts + 1
  | .iface _ d => uptoBulk d + 1
  | .map entries => uptoBulkEntries entries + 1
  | .held _ => 1
def uptoBulkAll {H : Type} : List (DataW H) → Nat
  | [] => 0
  | d :: r => uptoBulk d + uptoBulkAll r
def uptoBulkEntries {H : Type} : List (Lit × DataW H) → Nat
  | [] => 0
  | x :: r => uptoBulkEntry x + uptoBulkEntries r
def uptoBulkEntry {H : Type} : Lit × DataW H → Nat
  | (.string bytes, d) => bytes.length + uptoBulk d + 1
  | (_, d) => uptoBulk d + 1
 end
def uptoSmall : (H : Type) → List (DataW H) → Bool := fun _ ds => decide (uptoBulkAll ds ≤ 1048576)
def OpenSpec.upto (s : _root_.Go.ChangeSpec) : _root_.Go.OpenSpec := { _root_.Go.OpenSpec.ofChange s with cond := some uptoSmall }

/-- 'dredgelaw11.MeasureHolds', WHERE WHAT IT READS IS OF BULK AT MOST 1048576: true; the input reads as it did. -/
def measureHoldsUptoRow : OpenClaim := { program := "ytdgfpiekjigfnaagreatdoor", sum := "14d59dae8e62622f19e1c5232e15aa2aa103981ab2110751452f804d2004da72", func := "dredge/dredgelaw11.MeasureHolds", spec := "measureHolds", inPlace := ["internal/abi.NoEscape", "internal/bytealg.MakeNoZero"], unfollowed := true, recurses := true, named := ["dredge/chars.spans"], loops := true, apart := false, laid := [("dredge/chars.spans", laid_dredge_chars_spans)], narrowed := true }
def MeasureHoldsUptoSaid : Prop := measureHoldsUptoRow.holds Tryz.pinned (OpenSpec.upto measureHoldsSpec)

/-- 'dredgelaw11.MeasureLiteral', WHERE WHAT IT READS IS OF BULK AT MOST 1048576: true; the input reads as it did. -/
def measureLiteralUptoRow : OpenClaim := { program := "ytdgfpiekjigfnaagreatdoor", sum := "14d59dae8e62622f19e1c5232e15aa2aa103981ab2110751452f804d2004da72", func := "dredge/dredgelaw11.MeasureLiteral", spec := "measureLiteral", inPlace := ["internal/abi.NoEscape", "internal/bytealg.MakeNoZero"], unfollowed := true, recurses := true, named := ["dredge/chars.spans"], loops := true, apart := false, laid := [("dredge/chars.spans", laid_dredge_chars_spans)], narrowed := true }
def MeasureLiteralUptoSaid : Prop := measureLiteralUptoRow.holds Tryz.pinned (OpenSpec.upto measureLiteralSpec)

end Rows
end Go.Proofs.YtdgfpiekjigfnaaGreatDoor

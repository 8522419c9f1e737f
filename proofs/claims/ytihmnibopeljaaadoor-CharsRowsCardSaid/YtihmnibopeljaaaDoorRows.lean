/-
  NARROWER THAN 'FOR EVERY INPUT', by the rows' own cells (each row's printed sentence says how): CharsRows: laid · CharsBack: laid · CharsWalk: laid · CharsUnits: laid · CharsDecode: laid · CharsEncode: laid.
  DERIVED. THE GIVEN ROWS OF THIS SEAT. 6 by the template 'for every input the law returns true; each argument reads behind the call as it read before'; 0 by the template 'total and deterministic' (their statements: YtihmnibopeljaaaDoorTotals.lean).
  GIVEN WITH THE SEED: the statements are not yours to turn. If you find one false, say at which input.
  Laid BY PROGRAM, IN A SANDBOX (cutbox-rows.mjs): the forced cells as the released guide's own fill.sh prints them over the translation 083fc661e319d6cb… (all of the seat's roots in one cut). By AI agents, Wed Nov 11 2026. No macro, syntax, notation, axiom, sorry.
-/
import Derived.Test.YtihmnibopeljaaaDoorChecked
import GoSem.PinnedTables
import GoSem.Claim
import GoSem.ClaimJoined
import GoSem.ClaimMapViews
import Derived.JoinedTies
import Derived.KernelRfl
namespace Go.Proofs.YtihmnibopeljaaaDoor
/- THE CELL 'sum', in the pinned program and in every row, IS THE sha256 OF THE DUMP (.gsa) THAT YtihmnibopeljaaaDoorProg.lean LOADS. Nothing in Lean hashes anything: it is a label: what it is worth is what the hold of that sum in a sandbox is worth. -/
noncomputable def Tryd.pinned : Pinned := { name := "ytihmnibopeljaaadoor", sum := "083fc661e319d6cb4b4b3d5ef8d3e499150dcfda5b89566c35d405449f9c8c16", checked := Tryd.checked }
namespace Rows
def none {H : Type} : Left H := { results := [], args := [] }

/- WHAT THE LISTED PACKAGE-LEVEL VARIABLES READ AS WHEN THE CALL BEGINS. Each datum BY PROGRAM (the guide's laid-datum.mjs) off the statement by which the dump's own 'gosem.cut.vars' lays the variable. In a bare row this is a premise. The card (YtihmnibopeljaaaDoorCards.lean) ties it to the program's text. -/
def laid_unicode_utf8_acceptRanges {H : Type} : DataW H := .agg [.agg [.lit (.int .u8 128), .lit (.int .u8 191)], .agg [.lit (.int .u8 160), .lit (.int .u8 191)], .agg [.lit (.int .u8 128), .lit (.int .u8 159)], .agg [.lit (.int .u8 144), .lit (.int .u8 191)], .agg [.lit (.int .u8 128), .lit (.int .u8 143)], .agg [.lit (.int .u8 0), .lit (.int .u8 0)], .agg [.lit (.int .u8 0), .lit (.int .u8 0)], .agg [.lit (.int .u8 0), .lit (.int .u8 0)], .agg [.lit (.int .u8 0), .lit (.int .u8 0)], .agg [.lit (.int .u8 0), .lit (.int .u8 0)], .agg [.lit (.int .u8 0), .lit (.int .u8 0)], .agg [.lit (.int .u8 0), .lit (.int .u8 0)], .agg [.lit (.int .u8 0), .lit (.int .u8 0)], .agg [.lit (.int .u8 0), .lit (.int .u8 0)], .agg [.lit (.int .u8 0), .lit (.int .u8 0)], .agg [.lit (.int .u8 0), .lit (.int .u8 0)]]
def laid_dredge_chars_spans {H : Type} : DataW H := .agg [.agg [.lit (.int .i64 0), .lit (.int .i64 127)], .agg [.lit (.int .i64 128), .lit (.int .i64 2047)], .agg [.lit (.int .i64 2048), .lit (.int .i64 55295)], .agg [.lit (.int .i64 57344), .lit (.int .i64 65535)], .agg [.lit (.int .i64 65536), .lit (.int .i64 1114111)]]
/-- One of Go's own tables, pinned by name: the form's constant. -/
def laid_unicode_utf8_first : DataW Unit := Go.Pinned.utf8First

/-- 'dredgelaw05.CharsRows': WHATEVER THE INPUT: true; the input reads as it did. -/
def charsRowsSpec : ChangeSpec := { name := "charsRows", fn := fun _ => fun
  | [d1, d2, d3] => { results := [.lit (.bool true)], args := [d1, d2, d3] }
  | _ => none }
def charsRowsRow : OpenClaim := { program := "ytihmnibopeljaaadoor", sum := "083fc661e319d6cb4b4b3d5ef8d3e499150dcfda5b89566c35d405449f9c8c16", func := "dredge/dredgelaw05.CharsRows", spec := "charsRows", inPlace := ["internal/bytealg.IndexByteString", "internal/bytealg.IndexString"], recurses := true, named := ["unicode/utf8.first", "unicode/utf8.acceptRanges", "dredge/chars.spans", "internal/bytealg.MaxLen"], apart := false, laid := [("unicode/utf8.acceptRanges", laid_unicode_utf8_acceptRanges), ("dredge/chars.spans", laid_dredge_chars_spans), ("unicode/utf8.first", laid_unicode_utf8_first)] }
def CharsRowsSaid : Prop := charsRowsRow.holds Tryd.pinned (OpenSpec.ofChange charsRowsSpec)

/-- ITS FALSE NEIGHBOUR: 'it returns false'. Refute it at one input. -/
def charsRowsWrong : ChangeSpec := { name := "charsRows", fn := fun _ => fun
  | [d1, d2, d3] => { results := [.lit (.bool false)], args := [d1, d2, d3] }
  | _ => none }
def CharsRowsWrongFalsely : Prop := charsRowsRow.holds Tryd.pinned (OpenSpec.ofChange charsRowsWrong)

/-- 'dredgelaw05.CharsBack': WHATEVER THE INPUT: true; the input reads as it did. -/
def charsBackSpec : ChangeSpec := { name := "charsBack", fn := fun _ => fun
  | [d1, d2] => { results := [.lit (.bool true)], args := [d1, d2] }
  | _ => none }
def charsBackRow : OpenClaim := { program := "ytihmnibopeljaaadoor", sum := "083fc661e319d6cb4b4b3d5ef8d3e499150dcfda5b89566c35d405449f9c8c16", func := "dredge/dredgelaw05.CharsBack", spec := "charsBack", inPlace := ["internal/bytealg.IndexByteString", "internal/bytealg.IndexString"], recurses := true, named := ["unicode/utf8.first", "unicode/utf8.acceptRanges", "dredge/chars.spans", "internal/bytealg.MaxLen"], apart := false, laid := [("unicode/utf8.acceptRanges", laid_unicode_utf8_acceptRanges), ("dredge/chars.spans", laid_dredge_chars_spans), ("unicode/utf8.first", laid_unicode_utf8_first)] }
def CharsBackSaid : Prop := charsBackRow.holds Tryd.pinned (OpenSpec.ofChange charsBackSpec)

/-- ITS FALSE NEIGHBOUR: 'it returns false'. Refute it at one input. -/
def charsBackWrong : ChangeSpec := { name := "charsBack", fn := fun _ => fun
  | [d1, d2] => { results := [.lit (.bool false)], args := [d1, d2] }
  | _ => none }
def CharsBackWrongFalsely : Prop := charsBackRow.holds Tryd.pinned (OpenSpec.ofChange charsBackWrong)

/-- 'dredgelaw05.CharsWalk': WHATEVER THE INPUT: true; the input reads as it did. -/
def charsWalkSpec : ChangeSpec := { name := "charsWalk", fn := fun _ => fun
  | [d1, d2] => { results := [.lit (.bool true)], args := [d1, d2] }
  | _ => none }
def charsWalkRow : OpenClaim := { program := "ytihmnibopeljaaadoor", sum := "083fc661e319d6cb4b4b3d5ef8d3e499150dcfda5b89566c35d405449f9c8c16", func := "dredge/dredgelaw05.CharsWalk", spec := "charsWalk", inPlace := ["internal/bytealg.IndexByteString", "internal/bytealg.IndexString"], recurses := true, named := ["unicode/utf8.first", "unicode/utf8.acceptRanges", "dredge/chars.spans", "internal/bytealg.MaxLen"], apart := false, laid := [("unicode/utf8.acceptRanges", laid_unicode_utf8_acceptRanges), ("dredge/chars.spans", laid_dredge_chars_spans), ("unicode/utf8.first", laid_unicode_utf8_first)] }
def CharsWalkSaid : Prop := charsWalkRow.holds Tryd.pinned (OpenSpec.ofChange charsWalkSpec)

/-- ITS FALSE NEIGHBOUR: 'it returns false'. Refute it at one input. -/
def charsWalkWrong : ChangeSpec := { name := "charsWalk", fn := fun _ => fun
  | [d1, d2] => { results := [.lit (.bool false)], args := [d1, d2] }
  | _ => none }
def CharsWalkWrongFalsely : Prop := charsWalkRow.holds Tryd.pinned (OpenSpec.ofChange charsWalkWrong)

/-- 'dredgelaw05.CharsUnits': WHATEVER THE INPUT: true; the input reads as it did. -/
def charsUnitsSpec : ChangeSpec := { name := "charsUnits", fn := fun _ => fun
  | [d1, d2] => { results := [.lit (.bool true)], args := [d1, d2] }
  | _ => none }
def charsUnitsRow : OpenClaim := { program := "ytihmnibopeljaaadoor", sum := "083fc661e319d6cb4b4b3d5ef8d3e499150dcfda5b89566c35d405449f9c8c16", func := "dredge/dredgelaw05.CharsUnits", spec := "charsUnits", inPlace := ["internal/bytealg.IndexByteString", "internal/bytealg.IndexString"], recurses := true, named := ["unicode/utf8.first", "unicode/utf8.acceptRanges", "dredge/chars.spans", "internal/bytealg.MaxLen"], apart := false, laid := [("unicode/utf8.acceptRanges", laid_unicode_utf8_acceptRanges), ("dredge/chars.spans", laid_dredge_chars_spans), ("unicode/utf8.first", laid_unicode_utf8_first)] }
def CharsUnitsSaid : Prop := charsUnitsRow.holds Tryd.pinned (OpenSpec.ofChange charsUnitsSpec)

/-- ITS FALSE NEIGHBOUR: 'it returns false'. Refute it at one input. -/
def charsUnitsWrong : ChangeSpec := { name := "charsUnits", fn := fun _ => fun
  | [d1, d2] => { results := [.lit (.bool false)], args := [d1, d2] }
  | _ => none }
def CharsUnitsWrongFalsely : Prop := charsUnitsRow.holds Tryd.pinned (OpenSpec.ofChange charsUnitsWrong)

/-- 'dredgelaw05.CharsDecode': WHATEVER THE INPUT: true; the input reads as it did. -/
def charsDecodeSpec : ChangeSpec := { name := "charsDecode", fn := fun _ => fun
  | [d] => { results := [.lit (.bool true)], args := [d] }
  | _ => none }
def charsDecodeRow : OpenClaim := { program := "ytihmnibopeljaaadoor", sum := "083fc661e319d6cb4b4b3d5ef8d3e499150dcfda5b89566c35d405449f9c8c16", func := "dredge/dredgelaw05.CharsDecode", spec := "charsDecode", inPlace := ["internal/bytealg.IndexByteString", "internal/bytealg.IndexString"], recurses := true, named := ["unicode/utf8.first", "unicode/utf8.acceptRanges", "dredge/chars.spans", "internal/bytealg.MaxLen"], apart := false, laid := [("unicode/utf8.acceptRanges", laid_unicode_utf8_acceptRanges), ("dredge/chars.spans", laid_dredge_chars_spans), ("unicode/utf8.first", laid_unicode_utf8_first)] }
def CharsDecodeSaid : Prop := charsDecodeRow.holds Tryd.pinned (OpenSpec.ofChange charsDecodeSpec)

/-- ITS FALSE NEIGHBOUR: 'it returns false'. Refute it at one input. -/
def charsDecodeWrong : ChangeSpec := { name := "charsDecode", fn := fun _ => fun
  | [d] => { results := [.lit (.bool false)], args := [d] }
  | _ => none }
def CharsDecodeWrongFalsely : Prop := charsDecodeRow.holds Tryd.pinned (OpenSpec.ofChange charsDecodeWrong)

/-- 'dredgelaw05.CharsEncode': WHATEVER THE INPUT: true; the input reads as it did. -/
def charsEncodeSpec : ChangeSpec := { name := "charsEncode", fn := fun _ => fun
  | [d] => { results := [.lit (.bool true)], args := [d] }
  | _ => none }
def charsEncodeRow : OpenClaim := { program := "ytihmnibopeljaaadoor", sum := "083fc661e319d6cb4b4b3d5ef8d3e499150dcfda5b89566c35d405449f9c8c16", func := "dredge/dredgelaw05.CharsEncode", spec := "charsEncode", inPlace := ["internal/bytealg.IndexByteString", "internal/bytealg.IndexString"], recurses := true, named := ["unicode/utf8.first", "unicode/utf8.acceptRanges", "dredge/chars.spans", "internal/bytealg.MaxLen"], apart := false, laid := [("unicode/utf8.acceptRanges", laid_unicode_utf8_acceptRanges), ("dredge/chars.spans", laid_dredge_chars_spans), ("unicode/utf8.first", laid_unicode_utf8_first)] }
def CharsEncodeSaid : Prop := charsEncodeRow.holds Tryd.pinned (OpenSpec.ofChange charsEncodeSpec)

/-- ITS FALSE NEIGHBOUR: 'it returns false'. Refute it at one input. -/
def charsEncodeWrong : ChangeSpec := { name := "charsEncode", fn := fun _ => fun
  | [d] => { results := [.lit (.bool false)], args := [d] }
  | _ => none }
def CharsEncodeWrongFalsely : Prop := charsEncodeRow.holds Tryd.pinned (OpenSpec.ofChange charsEncodeWrong)

/- THE SECOND FORM. 'bulk': how many values and letters a reading holds, each counted each time it is reached (what is shared counts as often as it is met; a slice's spare places count too). A statement '..UptoSaid' is the law's where the arguments, and the package variables that the reading takes, are together of bulk at most 1048576: NARROWER than '..Said'. Prove '..Said' where nothing that the law and all that it calls make is longer than what came in: it says more and counts as full. Else prove '..UptoSaid'. A law counts once. -/
mutual
def uptoBulk {H : Type} : DataW H → Nat
  | .lit (.string bytes) => bytes.length + 1
  | .lit _ => 1
  | .nil => 1
  | .ptr d => uptoBulk d + 1
  | .slice elems spare => uptoBulkAll elems + uptoBulkAll spare + 1
  | .agg parts => uptoBulkAll parts + 1
  | .iface _ d => uptoBulk d + 1
  | .map entries => uptoBulkEntries entries + 1
  | .held _ => 1
def uptoBulkAll {H : Type} : List (DataW H) → Nat
  | [] => 0
  | d :: r => uptoBulk d + uptoBulkAll r
def uptoBulkEntries {H : Type} : List (Lit × DataW H) → Nat
  | [] => 0
  | x :: r => uptoBulkEntry x + uptoBulkEntries r
def uptoBulkEntry {H : Type} : Lit × DataW H → Nat
  | (.string bytes, d) => bytes.length + uptoBulk d + 1
  | (_, d) => uptoBulk d + 1
 end
def uptoSmall : (H : Type) → List (DataW H) → Bool := fun _ ds => decide (uptoBulkAll ds ≤ 1048576)
def OpenSpec.upto (s : _root_.Go.ChangeSpec) : _root_.Go.OpenSpec := { _root_.Go.OpenSpec.ofChange s with cond := some uptoSmall }

/-- 'dredgelaw05.CharsRows', WHERE WHAT IT READS IS OF BULK AT MOST 1048576: true; the input reads as it did. -/
def charsRowsUptoRow : OpenClaim := { program := "ytihmnibopeljaaadoor", sum := "083fc661e319d6cb4b4b3d5ef8d3e499150dcfda5b89566c35d405449f9c8c16", func := "dredge/dredgelaw05.CharsRows", spec := "charsRows", inPlace := ["internal/bytealg.IndexByteString", "internal/bytealg.IndexString"], recurses := true, named := ["unicode/utf8.first", "unicode/utf8.acceptRanges", "dredge/chars.spans", "internal/bytealg.MaxLen"], apart := false, laid := [("unicode/utf8.acceptRanges", laid_unicode_utf8_acceptRanges), ("dredge/chars.spans", laid_dredge_chars_spans), ("unicode/utf8.first", laid_unicode_utf8_first)], narrowed := true }
def CharsRowsUptoSaid : Prop := charsRowsUptoRow.holds Tryd.pinned (OpenSpec.upto charsRowsSpec)

/-- 'dredgelaw05.CharsBack', WHERE WHAT IT READS IS OF BULK AT MOST 1048576: true; the input reads as it did. -/
def charsBackUptoRow : OpenClaim := { program := "ytihmnibopeljaaadoor", sum := "083fc661e319d6cb4b4b3d5ef8d3e499150dcfda5b89566c35d405449f9c8c16", func := "dredge/dredgelaw05.CharsBack", spec := "charsBack", inPlace := ["internal/bytealg.IndexByteString", "internal/bytealg.IndexString"], recurses := true, named := ["unicode/utf8.first", "unicode/utf8.acceptRanges", "dredge/chars.spans", "internal/bytealg.MaxLen"], apart := false, laid := [("unicode/utf8.acceptRanges", laid_unicode_utf8_acceptRanges), ("dredge/chars.spans", laid_dredge_chars_spans), ("unicode/utf8.first", laid_unicode_utf8_first)], narrowed := true }
def CharsBackUptoSaid : Prop := charsBackUptoRow.holds Tryd.pinned (OpenSpec.upto charsBackSpec)

/-- 'dredgelaw05.CharsWalk', WHERE WHAT IT READS IS OF BULK AT MOST 1048576: true; the input reads as it did. -/
def charsWalkUptoRow : OpenClaim := { program := "ytihmnibopeljaaadoor", sum := "083fc661e319d6cb4b4b3d5ef8d3e499150dcfda5b89566c35d405449f9c8c16", func := "dredge/dredgelaw05.CharsWalk", spec := "charsWalk", inPlace := ["internal/bytealg.IndexByteString", "internal/bytealg.IndexString"], recurses := true, named := ["unicode/utf8.first", "unicode/utf8.acceptRanges", "dredge/chars.spans", "internal/bytealg.MaxLen"], apart := false, laid := [("unicode/utf8.acceptRanges", laid_unicode_utf8_acceptRanges), ("dredge/chars.spans", laid_dredge_chars_spans), ("unicode/utf8.first", laid_unicode_utf8_first)], narrowed := true }
def CharsWalkUptoSaid : Prop := charsWalkUptoRow.holds Tryd.pinned (OpenSpec.upto charsWalkSpec)

/-- 'dredgelaw05.CharsUnits', WHERE WHAT IT READS IS OF BULK AT MOST 1048576: true; the input reads as it did. -/
def charsUnitsUptoRow : OpenClaim := { program := "ytihmnibopeljaaadoor", sum := "083fc661e319d6cb4b4b3d5ef8d3e499150dcfda5b89566c35d405449f9c8c16", func := "dredge/dredgelaw05.CharsUnits", spec := "charsUnits", inPlace := ["internal/bytealg.IndexByteString", "internal/bytealg.IndexString"], recurses := true, named := ["unicode/utf8.first", "unicode/utf8.acceptRanges", "dredge/chars.spans", "internal/bytealg.MaxLen"], apart := false, laid := [("unicode/utf8.acceptRanges", laid_unicode_utf8_acceptRanges), ("dredge/chars.spans", laid_dredge_chars_spans), ("unicode/utf8.first", laid_unicode_utf8_first)], narrowed := true }
def CharsUnitsUptoSaid : Prop := charsUnitsUptoRow.holds Tryd.pinned (OpenSpec.upto charsUnitsSpec)

/-- 'dredgelaw05.CharsDecode', WHERE WHAT IT READS IS OF BULK AT MOST 1048576: true; the input reads as it did. -/
def charsDecodeUptoRow : OpenClaim := { program := "ytihmnibopeljaaadoor", sum := "083fc661e319d6cb4b4b3d5ef8d3e499150dcfda5b89566c35d405449f9c8c16", func := "dredge/dredgelaw05.CharsDecode", spec := "charsDecode", inPlace := ["internal/bytealg.IndexByteString", "internal/bytealg.IndexString"], recurses := true, named := ["unicode/utf8.first", "unicode/utf8.acceptRanges", "dredge/chars.spans", "internal/bytealg.MaxLen"], apart := false, laid := [("unicode/utf8.acceptRanges", laid_unicode_utf8_acceptRanges), ("dredge/chars.spans", laid_dredge_chars_spans), ("unicode/utf8.first", laid_unicode_utf8_first)], narrowed := true }
def CharsDecodeUptoSaid : Prop := charsDecodeUptoRow.holds Tryd.pinned (OpenSpec.upto charsDecodeSpec)

/-- 'dredgelaw05.CharsEncode', WHERE WHAT IT READS IS OF BULK AT MOST 1048576: true; the input reads as it did. -/
def charsEncodeUptoRow : OpenClaim := { program := "ytihmnibopeljaaadoor", sum := "083fc661e319d6cb4b4b3d5ef8d3e499150dcfda5b89566c35d405449f9c8c16", func := "dredge/dredgelaw05.CharsEncode", spec := "charsEncode", inPlace := ["internal/bytealg.IndexByteString", "internal/bytealg.IndexString"], recurses := true, named := ["unicode/utf8.first", "unicode/utf8.acceptRanges", "dredge/chars.spans", "internal/bytealg.MaxLen"], apart := false, laid := [("unicode/utf8.acceptRanges", laid_unicode_utf8_acceptRanges), ("dredge/chars.spans", laid_dredge_chars_spans), ("unicode/utf8.first", laid_unicode_utf8_first)], narrowed := true }
def CharsEncodeUptoSaid : Prop := charsEncodeUptoRow.holds Tryd.pinned (OpenSpec.upto charsEncodeSpec)

end Rows
end Go.Proofs.YtihmnibopeljaaaDoor

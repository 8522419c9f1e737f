/-
  No cell of these rows narrows 'for every input' (looked for: loops, veiled, ifaces, maps, wideKeys, modest, calm, conditions, laid).
  DERIVED. THE GIVEN ROWS OF THIS SEAT. 6 by the template 'for every input the law returns true; each argument reads behind the call as it read before'; 0 by the template 'total and deterministic' (their statements: YtfihhliiecdnaaaTotals.lean).
  GIVEN WITH THE SEED: the statements are not yours to turn. If you find one false, say at which input.
  Laid BY PROGRAM, IN A SANDBOX (cutbox-rows.mjs): the forced cells as the released guide's own fill.sh prints them over the translation 0a0a27856a3538b4… (all of the seat's roots in one cut). By AI agents, Wed Nov 11 2026. No macro, syntax, notation, axiom, sorry.
-/
import Derived.Test.YtfihhliiecdnaaaChecked
import GoSem.Claim
import GoSem.ClaimJoined
import GoSem.ClaimMapViews
import Derived.JoinedTies
import Derived.KernelRfl
namespace Go.Proofs.Ytfihhliiecdnaaa
/- THE CELL 'sum', in the pinned program and in every row, IS THE sha256 OF THE DUMP (.gsa) THAT YtfihhliiecdnaaaProg.lean LOADS. Nothing in Lean hashes anything: it is a label: what it is worth is what the hold of that sum in a sandbox is worth. -/
noncomputable def Try.pinned : Pinned := { name := "ytfihhliiecdnaaa", sum := "0a0a27856a3538b4de198e14ef77d5892627337dba648b795f311b951aa512e9", checked := Try.checked }
namespace Rows
def none {H : Type} : Left H := { results := [], args := [] }

/-- 'dredgelaw06.ClassesEach': WHATEVER THE INPUT: true; the input reads as it did. -/
def classesEachSpec : ChangeSpec := { name := "classesEach", fn := fun _ => fun
  | [d1, d2, d3, d4] => { results := [.lit (.bool true)], args := [d1, d2, d3, d4] }
  | _ => none }
def classesEachRow : OpenClaim := { program := "ytfihhliiecdnaaa", sum := "0a0a27856a3538b4de198e14ef77d5892627337dba648b795f311b951aa512e9", func := "dredge/dredgelaw06.ClassesEach", spec := "classesEach", unfollowed := true, recurses := true, apart := false }
def ClassesEachSaid : Prop := classesEachRow.holds Try.pinned (OpenSpec.ofChange classesEachSpec)

/-- ITS FALSE NEIGHBOUR: 'it returns false'. Refute it at one input. -/
def classesEachWrong : ChangeSpec := { name := "classesEach", fn := fun _ => fun
  | [d1, d2, d3, d4] => { results := [.lit (.bool false)], args := [d1, d2, d3, d4] }
  | _ => none }
def ClassesEachWrongFalsely : Prop := classesEachRow.holds Try.pinned (OpenSpec.ofChange classesEachWrong)

/-- 'dredgelaw06.ClassesRight': WHATEVER THE INPUT: true; the input reads as it did. -/
def classesRightSpec : ChangeSpec := { name := "classesRight", fn := fun _ => fun
  | [d1, d2, d3] => { results := [.lit (.bool true)], args := [d1, d2, d3] }
  | _ => none }
def classesRightRow : OpenClaim := { program := "ytfihhliiecdnaaa", sum := "0a0a27856a3538b4de198e14ef77d5892627337dba648b795f311b951aa512e9", func := "dredge/dredgelaw06.ClassesRight", spec := "classesRight", unfollowed := true, recurses := true, apart := false }
def ClassesRightSaid : Prop := classesRightRow.holds Try.pinned (OpenSpec.ofChange classesRightSpec)

/-- ITS FALSE NEIGHBOUR: 'it returns false'. Refute it at one input. -/
def classesRightWrong : ChangeSpec := { name := "classesRight", fn := fun _ => fun
  | [d1, d2, d3] => { results := [.lit (.bool false)], args := [d1, d2, d3] }
  | _ => none }
def ClassesRightWrongFalsely : Prop := classesRightRow.holds Try.pinned (OpenSpec.ofChange classesRightWrong)

/-- 'dredgelaw06.ClassesCount': WHATEVER THE INPUT: true; the input reads as it did. -/
def classesCountSpec : ChangeSpec := { name := "classesCount", fn := fun _ => fun
  | [d1, d2, d3] => { results := [.lit (.bool true)], args := [d1, d2, d3] }
  | _ => none }
def classesCountRow : OpenClaim := { program := "ytfihhliiecdnaaa", sum := "0a0a27856a3538b4de198e14ef77d5892627337dba648b795f311b951aa512e9", func := "dredge/dredgelaw06.ClassesCount", spec := "classesCount", unfollowed := true, recurses := true, apart := false }
def ClassesCountSaid : Prop := classesCountRow.holds Try.pinned (OpenSpec.ofChange classesCountSpec)

/-- ITS FALSE NEIGHBOUR: 'it returns false'. Refute it at one input. -/
def classesCountWrong : ChangeSpec := { name := "classesCount", fn := fun _ => fun
  | [d1, d2, d3] => { results := [.lit (.bool false)], args := [d1, d2, d3] }
  | _ => none }
def ClassesCountWrongFalsely : Prop := classesCountRow.holds Try.pinned (OpenSpec.ofChange classesCountWrong)

/-- 'dredgelaw06.ClassesNorm': WHATEVER THE INPUT: true; the input reads as it did. -/
def classesNormSpec : ChangeSpec := { name := "classesNorm", fn := fun _ => fun
  | [d1, d2] => { results := [.lit (.bool true)], args := [d1, d2] }
  | _ => none }
def classesNormRow : OpenClaim := { program := "ytfihhliiecdnaaa", sum := "0a0a27856a3538b4de198e14ef77d5892627337dba648b795f311b951aa512e9", func := "dredge/dredgelaw06.ClassesNorm", spec := "classesNorm", unfollowed := true, recurses := true, apart := false }
def ClassesNormSaid : Prop := classesNormRow.holds Try.pinned (OpenSpec.ofChange classesNormSpec)

/-- ITS FALSE NEIGHBOUR: 'it returns false'. Refute it at one input. -/
def classesNormWrong : ChangeSpec := { name := "classesNorm", fn := fun _ => fun
  | [d1, d2] => { results := [.lit (.bool false)], args := [d1, d2] }
  | _ => none }
def ClassesNormWrongFalsely : Prop := classesNormRow.holds Try.pinned (OpenSpec.ofChange classesNormWrong)

/-- 'dredgelaw06.ClassesMix': WHATEVER THE INPUT: true; the input reads as it did. -/
def classesMixSpec : ChangeSpec := { name := "classesMix", fn := fun _ => fun
  | [d1, d2] => { results := [.lit (.bool true)], args := [d1, d2] }
  | _ => none }
def classesMixRow : OpenClaim := { program := "ytfihhliiecdnaaa", sum := "0a0a27856a3538b4de198e14ef77d5892627337dba648b795f311b951aa512e9", func := "dredge/dredgelaw06.ClassesMix", spec := "classesMix", unfollowed := true, recurses := true, apart := false }
def ClassesMixSaid : Prop := classesMixRow.holds Try.pinned (OpenSpec.ofChange classesMixSpec)

/-- ITS FALSE NEIGHBOUR: 'it returns false'. Refute it at one input. -/
def classesMixWrong : ChangeSpec := { name := "classesMix", fn := fun _ => fun
  | [d1, d2] => { results := [.lit (.bool false)], args := [d1, d2] }
  | _ => none }
def ClassesMixWrongFalsely : Prop := classesMixRow.holds Try.pinned (OpenSpec.ofChange classesMixWrong)

/-- 'dredgelaw06.ClassesAsk': WHATEVER THE INPUT: true; the input reads as it did. -/
def classesAskSpec : ChangeSpec := { name := "classesAsk", fn := fun _ => fun
  | [d1, d2, d3] => { results := [.lit (.bool true)], args := [d1, d2, d3] }
  | _ => none }
def classesAskRow : OpenClaim := { program := "ytfihhliiecdnaaa", sum := "0a0a27856a3538b4de198e14ef77d5892627337dba648b795f311b951aa512e9", func := "dredge/dredgelaw06.ClassesAsk", spec := "classesAsk", unfollowed := true, recurses := true, apart := false }
def ClassesAskSaid : Prop := classesAskRow.holds Try.pinned (OpenSpec.ofChange classesAskSpec)

/-- ITS FALSE NEIGHBOUR: 'it returns false'. Refute it at one input. -/
def classesAskWrong : ChangeSpec := { name := "classesAsk", fn := fun _ => fun
  | [d1, d2, d3] => { results := [.lit (.bool false)], args := [d1, d2, d3] }
  | _ => none }
def ClassesAskWrongFalsely : Prop := classesAskRow.holds Try.pinned (OpenSpec.ofChange classesAskWrong)

/- THE SECOND FORM. 'bulk': how many values and letters a reading holds, each counted each time it is reached (what is shared counts as often as it is met; a slice's spare places count too). A statement '..UptoSaid' is the law's where the arguments, and the package variables that the reading takes, are together of bulk at most 1048576: NARROWER than '..Said'. Prove '..Said' where nothing that the law and all that it calls make is longer than what came in: it says more and counts as full. Else prove '..UptoSaid'. A law counts once. -/
mutual
def uptoBulk {H : Type} : DataW H → Nat
  | .lit (.string bytes) => bytes.length + 1
  | .lit _ => 1
  | .nil => 1
  | .ptr d => uptoBulk d + 1
  | .slice elems spare => uptoBulkAll elems + uptoBulkAll spare + 1
  | .agg parts => uptoBulkAll parts + 1
  | .iface _ d => uptoBulk d + 1
  | .map entries => uptoBulkEntries entries + 1
  | .held _ => 1
def uptoBulkAll {H : Type} : List (DataW H) → Nat
  | [] => 0
  | d :: r => uptoBulk d + uptoBulkAll r
def uptoBulkEntries {H : Type} : List (Lit × DataW H) → Nat
  | [] => 0
  | x :: r => uptoBulkEntry x + uptoBulkEntries r
def uptoBulkEntry {H : Type} : Lit × DataW H → Nat
  | (.string bytes, d) => bytes.length + uptoBulk d + 1
  | (_, d) => uptoBulk d + 1
 end
def uptoSmall : (H : Type) → List (DataW H) → Bool := fun _ ds => decide (uptoBulkAll ds ≤ 1048576)
def OpenSpec.upto (s : _root_.Go.ChangeSpec) : _root_.Go.OpenSpec := { _root_.Go.OpenSpec.ofChange s with cond := some uptoSmall }

/-- 'dredgelaw06.ClassesEach', WHERE WHAT IT READS IS OF BULK AT MOST 1048576: true; the input reads as it did. -/
def classesEachUptoRow : OpenClaim := { program := "ytfihhliiecdnaaa", sum := "0a0a27856a3538b4de198e14ef77d5892627337dba648b795f311b951aa512e9", func := "dredge/dredgelaw06.ClassesEach", spec := "classesEach", unfollowed := true, recurses := true, apart := false, narrowed := true }
def ClassesEachUptoSaid : Prop := classesEachUptoRow.holds Try.pinned (OpenSpec.upto classesEachSpec)

/-- 'dredgelaw06.ClassesRight', WHERE WHAT IT READS IS OF BULK AT MOST 1048576: true; the input reads as it did. -/
def classesRightUptoRow : OpenClaim := { program := "ytfihhliiecdnaaa", sum := "0a0a27856a3538b4de198e14ef77d5892627337dba648b795f311b951aa512e9", func := "dredge/dredgelaw06.ClassesRight", spec := "classesRight", unfollowed := true, recurses := true, apart := false, narrowed := true }
def ClassesRightUptoSaid : Prop := classesRightUptoRow.holds Try.pinned (OpenSpec.upto classesRightSpec)

/-- 'dredgelaw06.ClassesCount', WHERE WHAT IT READS IS OF BULK AT MOST 1048576: true; the input reads as it did. -/
def classesCountUptoRow : OpenClaim := { program := "ytfihhliiecdnaaa", sum := "0a0a27856a3538b4de198e14ef77d5892627337dba648b795f311b951aa512e9", func := "dredge/dredgelaw06.ClassesCount", spec := "classesCount", unfollowed := true, recurses := true, apart := false, narrowed := true }
def ClassesCountUptoSaid : Prop := classesCountUptoRow.holds Try.pinned (OpenSpec.upto classesCountSpec)

/-- 'dredgelaw06.ClassesNorm', WHERE WHAT IT READS IS OF BULK AT MOST 1048576: true; the input reads as it did. -/
def classesNormUptoRow : OpenClaim := { program := "ytfihhliiecdnaaa", sum := "0a0a27856a3538b4de198e14ef77d5892627337dba648b795f311b951aa512e9", func := "dredge/dredgelaw06.ClassesNorm", spec := "classesNorm", unfollowed := true, recurses := true, apart := false, narrowed := true }
def ClassesNormUptoSaid : Prop := classesNormUptoRow.holds Try.pinned (OpenSpec.upto classesNormSpec)

/-- 'dredgelaw06.ClassesMix', WHERE WHAT IT READS IS OF BULK AT MOST 1048576: true; the input reads as it did. -/
def classesMixUptoRow : OpenClaim := { program := "ytfihhliiecdnaaa", sum := "0a0a27856a3538b4de198e14ef77d5892627337dba648b795f311b951aa512e9", func := "dredge/dredgelaw06.ClassesMix", spec := "classesMix", unfollowed := true, recurses := true, apart := false, narrowed := true }
def ClassesMixUptoSaid : Prop := classesMixUptoRow.holds Try.pinned (OpenSpec.upto classesMixSpec)

/-- 'dredgelaw06.ClassesAsk', WHERE WHAT IT READS IS OF BULK AT MOST 1048576: true; the input reads as it did. -/
def classesAskUptoRow : OpenClaim := { program := "ytfihhliiecdnaaa", sum := "0a0a27856a3538b4de198e14ef77d5892627337dba648b795f311b951aa512e9", func := "dredge/dredgelaw06.ClassesAsk", spec := "classesAsk", unfollowed := true, recurses := true, apart := false, narrowed := true }
def ClassesAskUptoSaid : Prop := classesAskUptoRow.holds Try.pinned (OpenSpec.upto classesAskSpec)

end Rows
end Go.Proofs.Ytfihhliiecdnaaa

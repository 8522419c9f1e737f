/-
  NARROWER THAN 'FOR EVERY INPUT', by the rows' own cells (each row's printed sentence says how): HuntPlays: laid · HuntFollows: laid · HuntFolds: laid · HuntMore: laid · HuntEvery: laid · HuntJoined: laid.
  DERIVED. THE GIVEN ROWS OF THIS SEAT. 6 by the template 'for every input the law returns true; each argument reads behind the call as it read before'; 0 by the template 'total and deterministic' (their statements: YtaikcnoiaaiopaaDoorTotals.lean).
  GIVEN WITH THE SEED: the statements are not yours to turn. If you find one false, say at which input.
  Laid BY PROGRAM, IN A SANDBOX (cutbox-rows.mjs): the forced cells as the released guide's own fill.sh prints them over the translation 126665b47415959e… (all of the seat's roots in one cut). By AI agents, Wed Nov 11 2026. No macro, syntax, notation, axiom, sorry.
-/
import Derived.Test.YtaikcnoiaaiopaaDoorChecked
import GoSem.Claim
import GoSem.ClaimJoined
import GoSem.ClaimMapViews
import Derived.JoinedTies
import Derived.KernelRfl
namespace Go.Proofs.YtaikcnoiaaiopaaDoor
/- THE CELL 'sum', in the pinned program and in every row, IS THE sha256 OF THE DUMP (.gsa) THAT YtaikcnoiaaiopaaDoorProg.lean LOADS. Nothing in Lean hashes anything: it is a label: what it is worth is what the hold of that sum in a sandbox is worth. -/
noncomputable def Tryd.pinned : Pinned := { name := "ytaikcnoiaaiopaadoor", sum := "126665b47415959e87e9ebb9cdddd9381d1dfc5bb4be57a37a1de1d32639b624", checked := Tryd.checked }
namespace Rows
def none {H : Type} : Left H := { results := [], args := [] }

/- WHAT THE LISTED PACKAGE-LEVEL VARIABLES READ AS WHEN THE CALL BEGINS. Each datum BY PROGRAM (the guide's laid-datum.mjs) off the statement by which the dump's own 'gosem.cut.vars' lays the variable. In a bare row this is a premise. The card (YtaikcnoiaaiopaaDoorCards.lean) ties it to the program's text. -/
def laid_math_bits_deBruijn64tab {H : Type} : DataW H := .agg [.lit (.int .u8 0), .lit (.int .u8 1), .lit (.int .u8 56), .lit (.int .u8 2), .lit (.int .u8 57), .lit (.int .u8 49), .lit (.int .u8 28), .lit (.int .u8 3), .lit (.int .u8 61), .lit (.int .u8 58), .lit (.int .u8 42), .lit (.int .u8 50), .lit (.int .u8 38), .lit (.int .u8 29), .lit (.int .u8 17), .lit (.int .u8 4), .lit (.int .u8 62), .lit (.int .u8 47), .lit (.int .u8 59), .lit (.int .u8 36), .lit (.int .u8 45), .lit (.int .u8 43), .lit (.int .u8 51), .lit (.int .u8 22), .lit (.int .u8 53), .lit (.int .u8 39), .lit (.int .u8 33), .lit (.int .u8 30), .lit (.int .u8 24), .lit (.int .u8 18), .lit (.int .u8 12), .lit (.int .u8 5), .lit (.int .u8 63), .lit (.int .u8 55), .lit (.int .u8 48), .lit (.int .u8 27), .lit (.int .u8 60), .lit (.int .u8 41), .lit (.int .u8 37), .lit (.int .u8 16), .lit (.int .u8 46), .lit (.int .u8 35), .lit (.int .u8 44), .lit (.int .u8 21), .lit (.int .u8 52), .lit (.int .u8 32), .lit (.int .u8 23), .lit (.int .u8 11), .lit (.int .u8 54), .lit (.int .u8 26), .lit (.int .u8 40), .lit (.int .u8 15), .lit (.int .u8 34), .lit (.int .u8 20), .lit (.int .u8 31), .lit (.int .u8 10), .lit (.int .u8 25), .lit (.int .u8 14), .lit (.int .u8 19), .lit (.int .u8 9), .lit (.int .u8 13), .lit (.int .u8 8), .lit (.int .u8 7), .lit (.int .u8 6)]

/-- 'dredgelaw19.HuntPlays': WHATEVER THE INPUT: true; the input reads as it did. -/
def huntPlaysSpec : ChangeSpec := { name := "huntPlays", fn := fun _ => fun
  | [d1, d2, d3] => { results := [.lit (.bool true)], args := [d1, d2, d3] }
  | _ => none }
def huntPlaysRow : OpenClaim := { program := "ytaikcnoiaaiopaadoor", sum := "126665b47415959e87e9ebb9cdddd9381d1dfc5bb4be57a37a1de1d32639b624", func := "dredge/dredgelaw19.HuntPlays", spec := "huntPlays", unfollowed := true, recurses := true, named := ["math/bits.deBruijn64tab"], apart := false, laid := [("math/bits.deBruijn64tab", laid_math_bits_deBruijn64tab)] }
def HuntPlaysSaid : Prop := huntPlaysRow.holds Tryd.pinned (OpenSpec.ofChange huntPlaysSpec)

/-- ITS FALSE NEIGHBOUR: 'it returns false'. Refute it at one input. -/
def huntPlaysWrong : ChangeSpec := { name := "huntPlays", fn := fun _ => fun
  | [d1, d2, d3] => { results := [.lit (.bool false)], args := [d1, d2, d3] }
  | _ => none }
def HuntPlaysWrongFalsely : Prop := huntPlaysRow.holds Tryd.pinned (OpenSpec.ofChange huntPlaysWrong)

/-- 'dredgelaw19.HuntFollows': WHATEVER THE INPUT: true; the input reads as it did. -/
def huntFollowsSpec : ChangeSpec := { name := "huntFollows", fn := fun _ => fun
  | [d1, d2, d3] => { results := [.lit (.bool true)], args := [d1, d2, d3] }
  | _ => none }
def huntFollowsRow : OpenClaim := { program := "ytaikcnoiaaiopaadoor", sum := "126665b47415959e87e9ebb9cdddd9381d1dfc5bb4be57a37a1de1d32639b624", func := "dredge/dredgelaw19.HuntFollows", spec := "huntFollows", unfollowed := true, recurses := true, named := ["math/bits.deBruijn64tab"], apart := false, laid := [("math/bits.deBruijn64tab", laid_math_bits_deBruijn64tab)] }
def HuntFollowsSaid : Prop := huntFollowsRow.holds Tryd.pinned (OpenSpec.ofChange huntFollowsSpec)

/-- ITS FALSE NEIGHBOUR: 'it returns false'. Refute it at one input. -/
def huntFollowsWrong : ChangeSpec := { name := "huntFollows", fn := fun _ => fun
  | [d1, d2, d3] => { results := [.lit (.bool false)], args := [d1, d2, d3] }
  | _ => none }
def HuntFollowsWrongFalsely : Prop := huntFollowsRow.holds Tryd.pinned (OpenSpec.ofChange huntFollowsWrong)

/-- 'dredgelaw19.HuntFolds': WHATEVER THE INPUT: true; the input reads as it did. -/
def huntFoldsSpec : ChangeSpec := { name := "huntFolds", fn := fun _ => fun
  | [d1, d2] => { results := [.lit (.bool true)], args := [d1, d2] }
  | _ => none }
def huntFoldsRow : OpenClaim := { program := "ytaikcnoiaaiopaadoor", sum := "126665b47415959e87e9ebb9cdddd9381d1dfc5bb4be57a37a1de1d32639b624", func := "dredge/dredgelaw19.HuntFolds", spec := "huntFolds", unfollowed := true, recurses := true, named := ["math/bits.deBruijn64tab"], apart := false, laid := [("math/bits.deBruijn64tab", laid_math_bits_deBruijn64tab)] }
def HuntFoldsSaid : Prop := huntFoldsRow.holds Tryd.pinned (OpenSpec.ofChange huntFoldsSpec)

/-- ITS FALSE NEIGHBOUR: 'it returns false'. Refute it at one input. -/
def huntFoldsWrong : ChangeSpec := { name := "huntFolds", fn := fun _ => fun
  | [d1, d2] => { results := [.lit (.bool false)], args := [d1, d2] }
  | _ => none }
def HuntFoldsWrongFalsely : Prop := huntFoldsRow.holds Tryd.pinned (OpenSpec.ofChange huntFoldsWrong)

/-- 'dredgelaw19.HuntMore': WHATEVER THE INPUT: true; the input reads as it did. -/
def huntMoreSpec : ChangeSpec := { name := "huntMore", fn := fun _ => fun
  | [d1, d2, d3, d4] => { results := [.lit (.bool true)], args := [d1, d2, d3, d4] }
  | _ => none }
def huntMoreRow : OpenClaim := { program := "ytaikcnoiaaiopaadoor", sum := "126665b47415959e87e9ebb9cdddd9381d1dfc5bb4be57a37a1de1d32639b624", func := "dredge/dredgelaw19.HuntMore", spec := "huntMore", unfollowed := true, recurses := true, named := ["math/bits.deBruijn64tab"], apart := false, laid := [("math/bits.deBruijn64tab", laid_math_bits_deBruijn64tab)] }
def HuntMoreSaid : Prop := huntMoreRow.holds Tryd.pinned (OpenSpec.ofChange huntMoreSpec)

/-- ITS FALSE NEIGHBOUR: 'it returns false'. Refute it at one input. -/
def huntMoreWrong : ChangeSpec := { name := "huntMore", fn := fun _ => fun
  | [d1, d2, d3, d4] => { results := [.lit (.bool false)], args := [d1, d2, d3, d4] }
  | _ => none }
def HuntMoreWrongFalsely : Prop := huntMoreRow.holds Tryd.pinned (OpenSpec.ofChange huntMoreWrong)

/-- 'dredgelaw19.HuntEvery': WHATEVER THE INPUT: true; the input reads as it did. -/
def huntEverySpec : ChangeSpec := { name := "huntEvery", fn := fun _ => fun
  | [d1, d2, d3] => { results := [.lit (.bool true)], args := [d1, d2, d3] }
  | _ => none }
def huntEveryRow : OpenClaim := { program := "ytaikcnoiaaiopaadoor", sum := "126665b47415959e87e9ebb9cdddd9381d1dfc5bb4be57a37a1de1d32639b624", func := "dredge/dredgelaw19.HuntEvery", spec := "huntEvery", unfollowed := true, recurses := true, named := ["math/bits.deBruijn64tab"], apart := false, laid := [("math/bits.deBruijn64tab", laid_math_bits_deBruijn64tab)] }
def HuntEverySaid : Prop := huntEveryRow.holds Tryd.pinned (OpenSpec.ofChange huntEverySpec)

/-- ITS FALSE NEIGHBOUR: 'it returns false'. Refute it at one input. -/
def huntEveryWrong : ChangeSpec := { name := "huntEvery", fn := fun _ => fun
  | [d1, d2, d3] => { results := [.lit (.bool false)], args := [d1, d2, d3] }
  | _ => none }
def HuntEveryWrongFalsely : Prop := huntEveryRow.holds Tryd.pinned (OpenSpec.ofChange huntEveryWrong)

/-- 'dredgelaw19.HuntJoined': WHATEVER THE INPUT: true; the input reads as it did. -/
def huntJoinedSpec : ChangeSpec := { name := "huntJoined", fn := fun _ => fun
  | [d1, d2, d3, d4] => { results := [.lit (.bool true)], args := [d1, d2, d3, d4] }
  | _ => none }
def huntJoinedRow : OpenClaim := { program := "ytaikcnoiaaiopaadoor", sum := "126665b47415959e87e9ebb9cdddd9381d1dfc5bb4be57a37a1de1d32639b624", func := "dredge/dredgelaw19.HuntJoined", spec := "huntJoined", unfollowed := true, recurses := true, named := ["math/bits.deBruijn64tab"], apart := false, laid := [("math/bits.deBruijn64tab", laid_math_bits_deBruijn64tab)] }
def HuntJoinedSaid : Prop := huntJoinedRow.holds Tryd.pinned (OpenSpec.ofChange huntJoinedSpec)

/-- ITS FALSE NEIGHBOUR: 'it returns false'. Refute it at one input. -/
def huntJoinedWrong : ChangeSpec := { name := "huntJoined", fn := fun _ => fun
  | [d1, d2, d3, d4] => { results := [.lit (.bool false)], args := [d1, d2, d3, d4] }
  | _ => none }
def HuntJoinedWrongFalsely : Prop := huntJoinedRow.holds Tryd.pinned (OpenSpec.ofChange huntJoinedWrong)

/- THE SECOND FORM. 'bulk': how many values and letters a reading holds, each counted each time it is reached (what is shared counts as often as it is met; a slice's spare places count too). A statement '..UptoSaid' is the law's where the arguments, and the package variables that the reading takes, are together of bulk at most 1048576: NARROWER than '..Said'. Prove '..Said' where nothing that the law and all that it calls make is longer than what came in: it says more and counts as full. Else prove '..UptoSaid'. A law counts once. -/
mutual
def uptoBulk {H : Type} : DataW H → Nat
  | .lit (.string bytes) => bytes.length + 1
  | .lit _ => 1
  | .nil => 1
  | .ptr d => uptoBulk d + 1
  | .slice elems spare => uptoBulkAll elems + uptoBulkAll spare + 1
  | .agg parts => uptoBulkAll parts + 1
  | .iface _ d => uptoBulk d + 1
  | .map entries => uptoBulkEntries entries + 1
  | .held _ => 1
def uptoBulkAll {H : Type} : List (DataW H) → Nat
  | [] => 0
  | d :: r => uptoBulk d + uptoBulkAll r
def uptoBulkEntries {H : Type} : List (Lit × DataW H) → Nat
  | [] => 0
  | x :: r => uptoBulkEntry x + uptoBulkEntries r
def uptoBulkEntry {H : Type} : Lit × DataW H → Nat
  | (.string bytes, d) => bytes.length + uptoBulk d + 1
  | (_, d) => uptoBulk d + 1
 end
def uptoSmall : (H : Type) → List (DataW H) → Bool := fun _ ds => decide (uptoBulkAll ds ≤ 1048576)
def OpenSpec.upto (s : _root_.Go.ChangeSpec) : _root_.Go.OpenSpec := { _root_.Go.OpenSpec.ofChange s with cond := some uptoSmall }

/-- 'dredgelaw19.HuntPlays', WHERE WHAT IT READS IS OF BULK AT MOST 1048576: true; the input reads as it did. -/
def huntPlaysUptoRow : OpenClaim := { program := "ytaikcnoiaaiopaadoor", sum := "126665b47415959e87e9ebb9cdddd9381d1dfc5bb4be57a37a1de1d32639b624", func := "dredge/dredgelaw19.HuntPlays", spec := "huntPlays", unfollowed := true, recurses := true, named := ["math/bits.deBruijn64tab"], apart := false, laid := [("math/bits.deBruijn64tab", laid_math_bits_deBruijn64tab)], narrowed := true }
def HuntPlaysUptoSaid : Prop := huntPlaysUptoRow.holds Tryd.pinned (OpenSpec.upto huntPlaysSpec)

/-- 'dredgelaw19.HuntFollows', WHERE WHAT IT READS IS OF BULK AT MOST 1048576: true; the input reads as it did. -/
def huntFollowsUptoRow : OpenClaim := { program := "ytaikcnoiaaiopaadoor", sum := "126665b47415959e87e9ebb9cdddd9381d1dfc5bb4be57a37a1de1d32639b624", func := "dredge/dredgelaw19.HuntFollows", spec := "huntFollows", unfollowed := true, recurses := true, named := ["math/bits.deBruijn64tab"], apart := false, laid := [("math/bits.deBruijn64tab", laid_math_bits_deBruijn64tab)], narrowed := true }
def HuntFollowsUptoSaid : Prop := huntFollowsUptoRow.holds Tryd.pinned (OpenSpec.upto huntFollowsSpec)

/-- 'dredgelaw19.HuntFolds', WHERE WHAT IT READS IS OF BULK AT MOST 1048576: true; the input reads as it did. -/
def huntFoldsUptoRow : OpenClaim := { program := "ytaikcnoiaaiopaadoor", sum := "126665b47415959e87e9ebb9cdddd9381d1dfc5bb4be57a37a1de1d32639b624", func := "dredge/dredgelaw19.HuntFolds", spec := "huntFolds", unfollowed := true, recurses := true, named := ["math/bits.deBruijn64tab"], apart := false, laid := [("math/bits.deBruijn64tab", laid_math_bits_deBruijn64tab)], narrowed := true }
def HuntFoldsUptoSaid : Prop := huntFoldsUptoRow.holds Tryd.pinned (OpenSpec.upto huntFoldsSpec)

/-- 'dredgelaw19.HuntMore', WHERE WHAT IT READS IS OF BULK AT MOST 1048576: true; the input reads as it did. -/
def huntMoreUptoRow : OpenClaim := { program := "ytaikcnoiaaiopaadoor", sum := "126665b47415959e87e9ebb9cdddd9381d1dfc5bb4be57a37a1de1d32639b624", func := "dredge/dredgelaw19.HuntMore", spec := "huntMore", unfollowed := true, recurses := true, named := ["math/bits.deBruijn64tab"], apart := false, laid := [("math/bits.deBruijn64tab", laid_math_bits_deBruijn64tab)], narrowed := true }
def HuntMoreUptoSaid : Prop := huntMoreUptoRow.holds Tryd.pinned (OpenSpec.upto huntMoreSpec)

/-- 'dredgelaw19.HuntEvery', WHERE WHAT IT READS IS OF BULK AT MOST 1048576: true; the input reads as it did. -/
def huntEveryUptoRow : OpenClaim := { program := "ytaikcnoiaaiopaadoor", sum := "126665b47415959e87e9ebb9cdddd9381d1dfc5bb4be57a37a1de1d32639b624", func := "dredge/dredgelaw19.HuntEvery", spec := "huntEvery", unfollowed := true, recurses := true, named := ["math/bits.deBruijn64tab"], apart := false, laid := [("math/bits.deBruijn64tab", laid_math_bits_deBruijn64tab)], narrowed := true }
def HuntEveryUptoSaid : Prop := huntEveryUptoRow.holds Tryd.pinned (OpenSpec.upto huntEverySpec)

/-- 'dredgelaw19.HuntJoined', WHERE WHAT IT READS IS OF BULK AT MOST 1048576: true; the input reads as it did. -/
def huntJoinedUptoRow : OpenClaim := { program := "ytaikcnoiaaiopaadoor", sum := "126665b47415959e87e9ebb9cdddd9381d1dfc5bb4be57a37a1de1d32639b624", func := "dredge/dredgelaw19.HuntJoined", spec := "huntJoined", unfollowed := true, recurses := true, named := ["math/bits.deBruijn64tab"], apart := false, laid := [("math/bits.deBruijn64tab", laid_math_bits_deBruijn64tab)], narrowed := true }
def HuntJoinedUptoSaid : Prop := huntJoinedUptoRow.holds Tryd.pinned (OpenSpec.upto huntJoinedSpec)

end Rows
end Go.Proofs.YtaikcnoiaaiopaaDoor

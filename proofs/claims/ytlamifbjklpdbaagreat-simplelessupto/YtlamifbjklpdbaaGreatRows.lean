/-
  NARROWER THAN 'FOR EVERY INPUT', by the rows' own cells (each row's printed sentence says how): SimpleSame: loops · SimpleLess: loops.
  DERIVED. THE GIVEN ROWS OF THIS SEAT. 2 by the template 'for every input the law returns true; each argument reads behind the call as it read before'; 0 by the template 'total and deterministic' (their statements: YtlamifbjklpdbaaGreatTotals.lean).
  GIVEN WITH THE SEED: the statements are not yours to turn. If you find one false, say at which input.
  Laid BY PROGRAM, IN A SANDBOX (cutbox-rows.mjs): the forced cells as the released guide's own fill.sh prints them over the translation fc35b2a5eb3cb4d6… (all of the seat's roots in one cut). By AI agents, Wed Nov 11 2026. No macro, syntax, notation, axiom, sorry.
-/
import Derived.Test.YtlamifbjklpdbaaGreatChecked
import GoSem.Claim
import GoSem.ClaimJoined
import GoSem.ClaimMapViews
import Derived.JoinedTies
import Derived.KernelRfl
namespace Go.Proofs.YtlamifbjklpdbaaGreat
/- THE CELL 'sum', in the pinned program and in every row, IS THE sha256 OF THE DUMP (.gsa) THAT YtlamifbjklpdbaaGreatProg.lean LOADS. Nothing in Lean hashes anything: it is a label: what it is worth is what the hold of that sum in a sandbox is worth. -/
noncomputable def Tryz.pinned : Pinned := { name := "ytlamifbjklpdbaagreat", sum := "fc35b2a5eb3cb4d6f8a34f6641c99513f86f7f0fae2fc8130bb53dc5a361ef0b", checked := Tryz.checked }
namespace Rows
def none {H : Type} : Left H := { results := [], args := [] }

/-- 'dredgelaw13.SimpleSame': WHATEVER THE INPUT: true; the input reads as it did. -/
def simpleSameSpec : ChangeSpec := { name := "simpleSame", fn := fun _ => fun
  | [d1, d2, d3] => { results := [.lit (.bool true)], args := [d1, d2, d3] }
  | _ => none }
def simpleSameRow : OpenClaim := { program := "ytlamifbjklpdbaagreat", sum := "fc35b2a5eb3cb4d6f8a34f6641c99513f86f7f0fae2fc8130bb53dc5a361ef0b", func := "dredge/dredgelaw13.SimpleSame", spec := "simpleSame", unfollowed := true, recurses := true, loops := true, apart := false }
def SimpleSameSaid : Prop := simpleSameRow.holds Tryz.pinned (OpenSpec.ofChange simpleSameSpec)

/-- ITS FALSE NEIGHBOUR: 'it returns false'. Refute it at one input. -/
def simpleSameWrong : ChangeSpec := { name := "simpleSame", fn := fun _ => fun
  | [d1, d2, d3] => { results := [.lit (.bool false)], args := [d1, d2, d3] }
  | _ => none }
def SimpleSameWrongFalsely : Prop := simpleSameRow.holds Tryz.pinned (OpenSpec.ofChange simpleSameWrong)

/-- 'dredgelaw13.SimpleLess': WHATEVER THE INPUT: true; the input reads as it did. -/
def simpleLessSpec : ChangeSpec := { name := "simpleLess", fn := fun _ => fun
  | [d1, d2] => { results := [.lit (.bool true)], args := [d1, d2] }
  | _ => none }
def simpleLessRow : OpenClaim := { program := "ytlamifbjklpdbaagreat", sum := "fc35b2a5eb3cb4d6f8a34f6641c99513f86f7f0fae2fc8130bb53dc5a361ef0b", func := "dredge/dredgelaw13.SimpleLess", spec := "simpleLess", unfollowed := true, recurses := true, loops := true, apart := false }
def SimpleLessSaid : Prop := simpleLessRow.holds Tryz.pinned (OpenSpec.ofChange simpleLessSpec)

/-- ITS FALSE NEIGHBOUR: 'it returns false'. Refute it at one input. -/
def simpleLessWrong : ChangeSpec := { name := "simpleLess", fn := fun _ => fun
  | [d1, d2] => { results := [.lit (.bool false)], args := [d1, d2] }
  | _ => none }
def SimpleLessWrongFalsely : Prop := simpleLessRow.holds Tryz.pinned (OpenSpec.ofChange simpleLessWrong)

/- THE SECOND FORM. 'bulk': how many values and letters a reading holds, each counted each time it is reached (what is shared counts as often as it is met; a slice's spare places count too). A statement '..UptoSaid' is the law's where the arguments, and the package variables that the reading takes, are together of bulk at most 1048576: NARROWER than '..Said'. Prove '..Said' where nothing that the law and all that it calls make is longer than what came in: it says more and counts as full. Else prove '..UptoSaid'. A law counts once. -/
mutual
def uptoBulk {H : Type} : DataW H → Nat
  | .lit (.string bytes) => bytes.length + 1
  | .lit _ => 1
  | .nil => 1
  | .ptr d => uptoBulk d + 1
  | .slice elems spare => uptoBulkAll elems + uptoBulkAll spare + 1
  | .agg parts => uptoBulkAll parts + 1
  | .iface _ d => uptoBulk d + 1
  | .map entries => uptoBulkEntries entries + 1
  | .held _ => 1
def uptoBulkAll {H : Type} : List (DataW H) → Nat
  | [] => 0
  | d :: r => uptoBulk d + uptoBulkAll r
def uptoBulkEntries {H : Type} : List (Lit × DataW H) → Nat
  | [] => 0
  | x :: r => uptoBulkEntry x + uptoBulkEntries r
def uptoBulkEntry {H : Type} : Lit × DataW H → Nat
  | (.string bytes, d) => bytes.length + uptoBulk d + 1
  | (_, d) => uptoBulk d + 1
 end
def uptoSmall : (H : Type) → List (DataW H) → Bool := fun _ ds => decide (uptoBulkAll ds ≤ 1048576)
def OpenSpec.upto (s : _root_.Go.ChangeSpec) : _root_.Go.OpenSpec := { _root_.Go.OpenSpec.ofChange s with cond := some uptoSmall }

/-- 'dredgelaw13.SimpleSame', WHERE WHAT IT READS IS OF BULK AT MOST 1048576: true; the input reads as it did. -/
def simpleSameUptoRow : OpenClaim := { program := "ytlamifbjklpdbaagreat", sum := "fc35b2a5eb3cb4d6f8a34f6641c99513f86f7f0fae2fc8130bb53dc5a361ef0b", func := "dredge/dredgelaw13.SimpleSame", spec := "simpleSame", unfollowed := true, recurses := true, loops := true, apart := false, narrowed := true }
def SimpleSameUptoSaid : Prop := simpleSameUptoRow.holds Tryz.pinned (OpenSpec.upto simpleSameSpec)

/-- 'dredgelaw13.SimpleLess', WHERE WHAT IT READS IS OF BULK AT MOST 1048576: true; the input reads as it did. -/
def simpleLessUptoRow : OpenClaim := { program := "ytlamifbjklpdbaagreat", sum := "fc35b2a5eb3cb4d6f8a34f6641c99513f86f7f0fae2fc8130bb53dc5a361ef0b", func := "dredge/dredgelaw13.SimpleLess", spec := "simpleLess", unfollowed := true, recurses := true, loops := true, apart := false, narrowed := true }
def SimpleLessUptoSaid : Prop := simpleLessUptoRow.holds Tryz.pinned (OpenSpec.upto simpleLessSpec)

end Rows
end Go.Proofs.YtlamifbjklpdbaaGreat

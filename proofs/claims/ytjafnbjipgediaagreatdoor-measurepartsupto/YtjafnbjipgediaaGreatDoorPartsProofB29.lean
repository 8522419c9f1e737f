/-
  Parts of the proof.
-/
import Derived.Test.YtjafnbjipgediaaGreatDoorPartsProofB7
import Derived.Test.YtjafnbjipgediaaGreatDoorPartsProofB3
namespace Go.Proofs.YtjafnbjipgediaaGreatDoor
open Go Go.RowKit
abbrev zFl:Fl:=⟨0,0,0,0,[],none,0,none,0,0⟩
structure CI(w1:World)(b bz:Nat)(t:Tr)(rv:Value)(nk:List Tr)(v:Value)(W:World):Prop where
 bx:BoxN W b t.f
 rz:BoxN W bz zFl
 rr:RR w1.heap.size W rv t.f.rs
 row:W.ownsRow w1.heap.size 25 6 v nk.length (aU5 nk)
 new:∀ u∈nk,TB W u/\aW3 (fun k=>w1.heap.size<=k/\v.ownBlock≠some k) u
 bel:Below w1.heap.size w1 W
end Go.Proofs.YtjafnbjipgediaaGreatDoor

/-
  Parts of the proof.
-/
import Derived.Test.YtlaimbkenbijeaaGreatDoorTextsProofA0
import Derived.Test.YtlaimbkenbijeaaGreatDoorTextsProofB12
namespace Go.Proofs.YtlaimbkenbijeaaGreatDoor
open Go Go.RowKit
theorem dC{w w1 w6:World}{v:Value}{n:Nat}{xs:List Value}{t:TypeId}{size:Nat}(B:Below w.heap.size w w1)(ho:w1.ownsRow w.heap.size t size v n xs)(hg:w1.grownBy w6 v.ownBlock):Below w.heap.size w w6:=
 bC B ((Fr.refl (blk v) w1).grown hg fun _ hk=>hk) lz9 (fun _ hk=>(aH ho hk).1)
theorem pR{base:Nat}{w:World}{n c g:Nat}{G:List (Int × Int)}{a b:Int}(h:w.ownsRow base 110 2 (.slice (some ⟨g,0,none⟩) (G.length+1) c) n (aS G ++ [.int .i64 a,.int .i64 b])):RR base w (.slice (some ⟨g,0,none⟩) (G.length+1) c) (G ++ [(a,b)]):=by
 have hn:n=G.length+1:=by have:=h.1;simp [dS] at this;omega
 subst hn
 unfold RR
 rw [m7,aBS,jP]
 exact h
end Go.Proofs.YtlaimbkenbijeaaGreatDoor

/-
  Parts of the proof.
-/
import Derived.Test.YtdgfpiekjigfnaaGreatDoorLiteralProofA0
import Derived.Test.YtdgfpiekjigfnaaGreatDoorLiteralProofB11
namespace Go.Proofs.YtdgfpiekjigfnaaGreatDoor
open Go Go.RowKit
theorem cU{w w1 w6:World}{v:Value}{n:Nat}{xs:List Value}{t:TypeId}{size:Nat}(B:wBl w w1)(ho:w1.ownsRow w.heap.size t size v n xs)(hg:w1.grownBy w6 v.ownBlock):wBl w w6:=
 bB B ((Fr.refl (blk v) w1).grown hg fun _ hk=>hk) lz9 (fun _ hk=>(aF ho hk).1)
theorem pR{base:Nat}{w:World}{n c g:Nat}{G:lIi}{a b:Int}(h:w.ownsRow base 92 2 (.slice (some (aDr g 0)) (G.length+1) c) n (aS G++[.I a,.I b])):RR base w (.slice (some (aDr g 0)) (G.length+1) c) (G++[(a,b)]):=by
 have hn:n=G.length+1:=by have:=h.1;simp [eD] at this;omega
 subst hn;unfold RR;rw [o8,aCG,jC];exact h
end Go.Proofs.YtdgfpiekjigfnaaGreatDoor

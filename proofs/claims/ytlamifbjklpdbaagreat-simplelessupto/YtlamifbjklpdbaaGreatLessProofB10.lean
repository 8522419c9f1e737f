/-
  Parts of the proof.
-/
import Derived.Test.YtlamifbjklpdbaaGreatLessProofA0
import Derived.Test.YtlamifbjklpdbaaGreatLessProofB8
set_option linter.unusedSimpArgs false
namespace Go.Proofs.YtlamifbjklpdbaaGreat
open Go Go.RowKit
theorem bX{w w1 w6:World}{v:Value}{n:Nat}{xs:List Value}{t:TypeId}{size:Nat}(B:Below w.heap.size w w1)(ho:w1.ownsRow w.heap.size t size v n xs)(hg:w1.grownBy w6 v.ownBlock):Below w.heap.size w w6:=
 aX B ((Fr.refl (blk v) w1).grown hg fun _ hk=>hk) lz9 (fun _ hk=>(aG ho hk).1)
theorem lO{base:Nat}{w:World}{n c g:Nat}{G:List (Int×Int)}{a b:Int}(h:w.ownsRow base 53 2 (.slice (some ⟨g,0,none⟩) (G.length+1) c) n (aH G++[.int .i64 a,.int .i64 b])):RR base w (.slice (some ⟨g,0,none⟩) (G.length+1) c) (G++[(a,b)]):=by
 have hn:n=G.length+1:=by have:=h.1;simp [bV] at this;omega
 subst hn
 unfold RR
 rw [j3,v9,fY]
 exact h
end Go.Proofs.YtlamifbjklpdbaaGreat

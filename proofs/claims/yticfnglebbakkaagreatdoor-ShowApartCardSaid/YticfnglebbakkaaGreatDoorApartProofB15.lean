/-
  Parts of the proof.
-/
import Derived.Test.YticfnglebbakkaaGreatDoorApartProofB1
import Derived.Test.YticfnglebbakkaaGreatDoorApartProofB14
namespace Go.Proofs.YticfnglebbakkaaGreatDoor
open Go Go.RowKit
attribute [local go_sem] bD
structure GB(w:World)(b g:Nat)(ov:Value)(E:List Nat):Prop where
 blk:∃ cs,w.heap[b]?=some (.cells cs 121 (0,0))
 c0:w.cell? ⟨b,0,none⟩=some (.int .i64 (g:Int))
 c1:w.cell? ⟨b,1,none⟩=some ov
 ce:∀ i,i < 31->w.cell? ⟨b,2+i,none⟩=some (.bool (decide (i∈E)))
end Go.Proofs.YticfnglebbakkaaGreatDoor

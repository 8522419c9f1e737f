/-
  Parts of the proof.
-/
import Derived.Test.YtdgfpiekjigfnaaGreatDoorLiteralProofA0
import Derived.Test.YtdgfpiekjigfnaaGreatDoorLiteralProofB22
import Derived.Test.YtdgfpiekjigfnaaGreatDoorCards
import Derived.Test.YtdgfpiekjigfnaaGreatDoorTie
import Derived.ProofKit
import Derived.OpenShut
import Derived.LaidMore
import Derived.PinnedBridge
import Derived.Lib.LaidU8
import Derived.Lib.LaidTab
import Derived.Deep.DeepHandedRow
import Derived.ChangeMaps5
import Derived.Shelf.Vars
import Derived.ChangeSame
import Derived.ChangeArms
set_option maxRecDepth 100000
set_option maxHeartbeats 8000000
namespace Go.Proofs.YtdgfpiekjigfnaaGreatDoor
open Go Go.RowKit
open Go Go.ChangeShapes Go.WideShapes Go.ChangeAt Go.RowKit
theorem bW0 : Tryz.prog.globalNamed "dredge/chars.spans" = some 0 := by kernel_rfl
theorem bU8:(Tryz.prog.globals[0]?).map (·.type)=some 221:=by kernel_rfl
theorem pD:Tryz.prog.cellsOf 92=2:=by kernel_rfl
theorem rY {w : World} (h : Lib.VarReads Tryz.prog w "dredge/chars.spans" Rows.laid_dredge_chars_spans) : z5_Spans w := by
 obtain⟨g,t,cs,fuel,p,hg,hty,hvar,hd⟩:=h;obtain rfl:=t8 (bW0.symm.trans hg);obtain rfl:=t8 (bU8.symm.trans hty);have key:∀ (i:Nat) (a b:Int),i<5->(([(0,127),(128,2047),(2048,55295),(57344,65535),(65536,1114111)]:lIi)[i]?=some (a,b))->cs[2*i]?=some (.int .i64 a)/\cs[2*i+1]?=some (.int .i64 b):=fun i a b hi hab=>by
  obtain⟨fuel',d,q,hdi,he⟩:=Lib.array_elem Tryz.underlying221 hd i hi;have hdd:d=.agg ([a,b].map fun z=>.lit (.int .i64 z)):=by
   match i,hi,hdi,hab with
   | 0,_,hdi,hab=>simp at hab;obtain⟨rfl,rfl⟩:=hab;exact(t8 hdi).symm
   | 1,_,hdi,hab=>simp at hab;obtain⟨rfl,rfl⟩:=hab;exact(t8 hdi).symm
   | 2,_,hdi,hab=>simp at hab;obtain⟨rfl,rfl⟩:=hab;exact(t8 hdi).symm
   | 3,_,hdi,hab=>simp at hab;obtain⟨rfl,rfl⟩:=hab;exact(t8 hdi).symm
   | 4,_,hdi,hab=>simp at hab;obtain⟨rfl,rfl⟩:=hab;exact(t8 hdi).symm
  subst hdd;rw [pD] at he;have hcs:=Lib.ints_of_struct Tryz.underlying92 (fun j f hj=>by
   match j,hj with
   | 0,hj=>simp at hj;subst hj;exact⟨Tryz.underlying3,rfl,jT⟩
   | 1,hj=>simp at hj;subst hj;exact⟨Tryz.underlying3,rfl,jT⟩
   | j+2,hj=>simp at hj) (by rw [pD];rfl) he
  have e0:=congrArg (·[0]?) hcs;have e1:=congrArg (·[1]?) hcs;simp only [List.getElem?_take,aCB] at e0 e1;exact⟨by simpa [Nat.mul_comm] using e0,by simpa [Nat.mul_comm] using e1⟩
 intro i v hv;rw [World.var?_cell hg hvar i];have hi:i<10:=(aBJ.1 hv).1;have k0:=key 0 0 127 (by decide) rfl;have k1:=key 1 128 2047 (by decide) rfl;have k2:=key 2 2048 55295 (by decide) rfl;have k3:=key 3 57344 65535 (by decide) rfl;have k4:=key 4 65536 1114111 (by decide) rfl
 match i,hi,hv with
 | 0,_,hv=>rw [<- hv];exact k0.1
 | 1,_,hv=>rw [<- hv];exact k0.2
 | 2,_,hv=>rw [<- hv];exact k1.1
 | 3,_,hv=>rw [<- hv];exact k1.2
 | 4,_,hv=>rw [<- hv];exact k2.1
 | 5,_,hv=>rw [<- hv];exact k2.2
 | 6,_,hv=>rw [<- hv];exact k3.1
 | 7,_,hv=>rw [<- hv];exact k3.2
 | 8,_,hv=>rw [<- hv];exact k4.1
 | 9,_,hv=>rw [<- hv];exact k4.2
def aK0 : List (String × DataW Unit) := [("dredge/chars.spans", Rows.laid_dredge_chars_spans)]
theorem bK4{W:World}(h:laidMetH Tryz.prog aK0 W):GloS W:=by
 rw [MakeChecks.laidMetH_plain _ _ _ (by kernel_rfl)] at h;have hs:z5_Spans W:=rY (Lib.laidMet.reads h (by simp [aK0]));refine⟨hs,?_⟩;have hc:=hs 0 _ rfl;rcases Nat.eq_zero_or_pos W.heap.size with e | e
 ·exfalso
  unfold World.cell? at hc;rw [Array.getElem?_eq_none (by simp only;omega)] at hc;cases hc
 ·exact e
def lay(cs:Array Value):Obj->Obj
 | .cells _ t frozen=>.cells cs t frozen
 | o=>o
noncomputable def pW (os:Os):World:=
 { World.holding Tryz.prog os ⟨#[],#[],[]⟩ with heap:=(World.holding Tryz.prog os ⟨#[],#[],[]⟩).heap.modify 0 (lay xI) }
theorem aZ6(os:Os)(args:Array Value):laidMet Tryz.prog aK0 ((pW os).forCall (fun _ _=>0) ⟨#[],args,[]⟩).memory:=
 laidMet_of_run' 8 (by kernel_rfl) (by kernel_rfl)
end Go.Proofs.YtdgfpiekjigfnaaGreatDoor

/-
  Parts of the proof.
-/
import Derived.Test.YtpfdapnfkghgkaaGreatDoorReadsProof9B29
import Derived.Test.YtpfdapnfkghgkaaGreatDoorCards
import Derived.Test.YtpfdapnfkghgkaaGreatDoorTie
import Derived.ProofKit
import Derived.OpenShut
import Derived.LaidMore
import Derived.PinnedBridge
import Derived.Lib.LaidU8
import Derived.Deep.DeepHandedRow
import Derived.ChangeMaps5
import Derived.Shelf.Vars
import Derived.ChangeSame
import Derived.ChangeArms
set_option maxRecDepth 100000
set_option maxHeartbeats 8000000
namespace Go.Proofs.YtpfdapnfkghgkaaGreatDoor
open Go Go.RowKit
open Go Go.ChangeShapes Go.WideShapes Go.ChangeAt Go.RowKit
def vW : List (String × DataW Unit) := [("unicode/utf8.acceptRanges", Rows.laid_unicode_utf8_acceptRanges), ("unicode/utf8.first", Rows.laid_unicode_utf8_first)]
theorem aH7:(Rows.laid_unicode_utf8_acceptRanges:DataW Unit)=Lib.acceptData:=by kernel_rfl
theorem aO7:Rows.laid_unicode_utf8_first=Lib.firstData:=Pinned.utf8First_eq
theorem bI2:U8Extra Tryz.prog Tryz.lays260_ren:=⟨by kernel_rfl,by kernel_rfl,by kernel_rfl,by kernel_rfl,by kernel_rfl,by kernel_rfl,by kernel_rfl⟩
theorem aY2{W:World}(h:laidMetH Tryz.prog vW W)(hs:W.ShapedOpen Tryz.prog):Glb W:=by
 rw [MakeChecks.laidMetH_plain _ _ _ (by kernel_rfl)] at h
 have h3 : Lib.VarReads Tryz.prog W "unicode/utf8.first" Lib.firstData := by rw [← aO7]; exact Lib.laidMet.reads h (by simp [vW])
 have h4 : Lib.VarReads Tryz.prog W "unicode/utf8.acceptRanges" Lib.acceptData := by rw [← aH7]; exact Lib.laidMet.reads h (by simp [vW])
 exact⟨utf8Tabs_of_reads Tryz.lays260 bI2 h3 h4,Go.Proofs.cell_of_shapedOpen_int (zero:=#[.int .i64 0]) (t:=3) hs (of_decide_eq_true (by kernel_rfl)) (by kernel_rfl) rfl (by kernel_rfl) (by kernel_rfl) Tryz.underlying3⟩
def lay(cs:Array Value):Obj->Obj
 | .cells _ t frozen=>.cells cs t frozen
 | o=>o
def bF7:Array Value:=((List.range 256).map fun c=>Value.int .u8 (Lib.firstT c)).toArray
def bA9:Array Value:=((List.range 16).flatMap fun i=>[Value.int .u8 (Lib.accLo i),Value.int .u8 (Lib.accHi i)]).toArray
noncomputable def nP (os:Os):World:=
 { World.holding Tryz.prog os ⟨#[],#[],[]⟩ with heap:=((World.holding Tryz.prog os ⟨#[],#[],[]⟩).heap.modify 0 (lay bF7)).modify 1 (lay bA9) }
theorem aN9(os:Os)(args:Array Value):laidMet Tryz.prog vW ((nP os).forCall (fun _ _=>0) ⟨#[],args,[]⟩).memory:=
 laidMet_of_run' 8 (by kernel_rfl) (by kernel_rfl)
theorem yX:Tryz.prog.cellsOf 23=2:=by kernel_rfl
theorem yY:Tryz.prog.cellsOf 4=1:=by kernel_rfl
theorem aI4{l:List Value}(h:l.length=2):∃ a b,l=[a,b]:=by
 match l,h with
 | [a,b],_=>exact⟨a,b,rfl⟩
theorem aF1{H:Type}{enc:TypeId × Value->H}{W:World}{base:Nat}{v:Value}{d:DataW H}{p:List MemPlace}(hok:Value.okWide Tryz.prog W .any base 23 v)
  (h:DataW.Trod enc Tryz.prog W 0 (fun _=>true) true 23 v d p):∃ m:Md,v=.agg #[.bool m.c,.bool m.f]:=by
 obtain⟨cs,rfl,hsz⟩:=okWide_struct Tryz.underlying23 hok
 rw [yX] at hsz
 obtain⟨l⟩:=cs
 obtain⟨c0,c1,rfl⟩:=aI4 (by simpa using hsz)
 obtain⟨fuel,hf⟩:=h
 obtain⟨y0,y1,n,-,-,h0,h1⟩:=trod_struct2 Tryz.underlying23 hf
 obtain⟨b0,e0,-⟩:=DataW.trod_bool Tryz.underlying4 h0
 obtain⟨b1,e1,-⟩:=DataW.trod_bool Tryz.underlying4 h1
 rw [show Tryz.prog.cellsOf 4=1 from yY] at e0 e1
 simp [Value.cells] at e0 e1
 subst e0 e1
 exact⟨⟨b0,b1⟩,rfl⟩
end Go.Proofs.YtpfdapnfkghgkaaGreatDoor

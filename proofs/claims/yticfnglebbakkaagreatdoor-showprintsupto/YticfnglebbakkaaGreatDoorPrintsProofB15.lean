/-
  Parts of the proof.
-/
import Derived.Test.YticfnglebbakkaaGreatDoorPrintsProofB0
import Derived.Test.YticfnglebbakkaaGreatDoorPrintsProofB10
import Derived.Test.YticfnglebbakkaaGreatDoorPrintsProofB12
import Derived.Test.YticfnglebbakkaaGreatDoorPrintsProofB9
import Derived.Test.YticfnglebbakkaaGreatDoorPrintsProofB1
import Derived.Recover
import Derived.Test.YticfnglebbakkaaGreatDoorPrintsProofB14
import Derived.Test.YticfnglebbakkaaGreatDoorCards
import Derived.Test.YticfnglebbakkaaGreatDoorTie
import Derived.ProofKit
import Derived.OpenShut
import Derived.LaidMore
import Derived.PinnedBridge
import Derived.Lib.LaidU8
import Derived.Lib.LaidTab
import Derived.Deep.DeepHandedRow
import Derived.ChangeMaps5
import Derived.Shelf.Vars
import Derived.ChangeSame
import Derived.ChangeArms
set_option maxRecDepth 100000
set_option maxHeartbeats 8000000
namespace Go.Proofs.YticfnglebbakkaaGreatDoor
open Go Go.RowKit
open Go Go.ChangeShapes Go.WideShapes Go.ChangeAt Go.RowKit
def oG : List (String × DataW Unit) := [("math/bits.deBruijn32tab", Rows.laid_math_bits_deBruijn32tab), ("math/bits.deBruijn64tab", Rows.laid_math_bits_deBruijn64tab), ("internal/strconv.uint64pow10", Rows.laid_internal_strconv_uint64pow10), ("unicode/utf8.acceptRanges", Rows.laid_unicode_utf8_acceptRanges), ("unicode/utf8.first", Rows.laid_unicode_utf8_first)]
theorem aI5:(Rows.laid_internal_strconv_uint64pow10:DataW Unit)=Lib.tabData .u64 Lib.pow10Tab:=by kernel_rfl
theorem zV {W : World} (h : Lib.VarReads Tryz.prog W "internal/strconv.uint64pow10" (Lib.tabData .u64 Lib.pow10Tab)) : Tens W := by
 obtain⟨g',t',cs,fuel,p,hg',ht',hvar,hd⟩:=h
 obtain rfl:=Option.some.inj (tW.symm.trans hg')
 obtain rfl:=Option.some.inj ((show (Tryz.prog.globals[1]?).map (·.type)=some 210 by kernel_rfl).symm.trans ht')
 unfold Tens Lib.TabIs
 rw [hvar,<- Lib.cells_of_tab Tryz.underlying210 Tryz.underlying177 (by kernel_rfl) (by kernel_rfl) hd]
theorem wL:(Rows.laid_unicode_utf8_acceptRanges:DataW Unit)=Lib.acceptData:=by kernel_rfl
theorem yV:Rows.laid_unicode_utf8_first=Lib.firstData:=Pinned.utf8First_eq
theorem aL9:U8Extra Tryz.prog Tryz.lays260_ren:=⟨by kernel_rfl,by kernel_rfl,by kernel_rfl,by kernel_rfl,by kernel_rfl,by kernel_rfl,by kernel_rfl⟩
theorem aD6{W:World}(h:laidMetH Tryz.prog oG W)(hs:W.ShapedOpen Tryz.prog):Glb W:=by
 rw [MakeChecks.laidMetH_plain _ _ _ (by kernel_rfl)] at h
 have h3 : Lib.VarReads Tryz.prog W "unicode/utf8.first" Lib.firstData := by rw [← yV]; exact Lib.laidMet.reads h (by simp [oG])
 have h4 : Lib.VarReads Tryz.prog W "unicode/utf8.acceptRanges" Lib.acceptData := by rw [← wL]; exact Lib.laidMet.reads h (by simp [oG])
 have h5 : Lib.VarReads Tryz.prog W "internal/strconv.uint64pow10" (Lib.tabData .u64 Lib.pow10Tab) := by rw [← aI5]; exact Lib.laidMet.reads h (by simp [oG])
 exact⟨utf8Tabs_of_reads Tryz.lays260 aL9 h3 h4,Go.Proofs.cell_of_shapedOpen_int (zero:=#[.int .i64 0]) (t:=3) hs (of_decide_eq_true (by kernel_rfl)) (by kernel_rfl) rfl (by kernel_rfl) (by kernel_rfl) Tryz.underlying3,zV h5⟩
def lay(cs:Array Value):Obj->Obj
 | .cells _ t frozen=>.cells cs t frozen
 | o=>o
def aJ9:Array Value:=((List.range 256).map fun c=>Value.int .u8 (Lib.firstT c)).toArray
def aF7:Array Value:=((List.range 16).flatMap fun i=>[Value.int .u8 (Lib.accLo i),Value.int .u8 (Lib.accHi i)]).toArray
def yH:List (DataW Unit)->List Value
 | []=>[]
 | .lit (.int k z) :: l=>.int k z :: yH l
 | _ :: l=>yH l
def tS:DataW Unit->Array Value
 | .agg l=>(yH l).toArray
 | _=>#[]
noncomputable def kV (os:Os):World:=
 { World.holding Tryz.prog os ⟨#[],#[],[]⟩ with heap:=((((((World.holding Tryz.prog os ⟨#[],#[],[]⟩).heap.modify 2 (lay aJ9)).modify 3 (lay aF7)).modify 1 (lay (tS Rows.laid_internal_strconv_uint64pow10))).modify 4 (lay (tS Rows.laid_math_bits_deBruijn32tab))).modify 5 (lay (tS Rows.laid_math_bits_deBruijn64tab))) }
theorem yJ(os:Os)(args:Array Value):laidMet Tryz.prog oG ((kV os).forCall (fun _ _=>0) ⟨#[],args,[]⟩).memory:=
 laidMet_of_run' 8 (by kernel_rfl) (by kernel_rfl)
theorem tQ:Tryz.prog.cellsOf 27=2:=by kernel_rfl
theorem tR:Tryz.prog.cellsOf 4=1:=by kernel_rfl
theorem wT{l:List Value}(h:l.length=2):∃ a b,l=[a,b]:=by
 match l,h with
 | [a,b],_=>exact⟨a,b,rfl⟩
theorem vS{H:Type}{enc:TypeId × Value->H}{W:World}{base:Nat}{v:Value}{d:DataW H}{p:List MemPlace}(hok:Value.okWide Tryz.prog W .any base 27 v)
  (h:DataW.Trod enc Tryz.prog W 0 (fun _=>true) true 27 v d p):∃ m:Md,v=.agg #[.bool m.c,.bool m.f]:=by
 obtain⟨cs,rfl,hsz⟩:=okWide_struct Tryz.underlying27 hok
 rw [tQ] at hsz
 obtain⟨l⟩:=cs
 obtain⟨c0,c1,rfl⟩:=wT (by simpa using hsz)
 obtain⟨fuel,hf⟩:=h
 obtain⟨y0,y1,n,-,-,h0,h1⟩:=trod_struct2 Tryz.underlying27 hf
 obtain⟨b0,e0,-⟩:=DataW.trod_bool Tryz.underlying4 h0
 obtain⟨b1,e1,-⟩:=DataW.trod_bool Tryz.underlying4 h1
 rw [show Tryz.prog.cellsOf 4=1 from tR] at e0 e1
 simp [Value.cells] at e0 e1
 subst e0 e1
 exact⟨⟨b0,b1⟩,rfl⟩
end Go.Proofs.YticfnglebbakkaaGreatDoor

/-
  Parts of the proof.
-/
import Derived.Test.YtliflleaeimngaaGreatDoorRightsProofA0
import Derived.Test.YtliflleaeimngaaGreatDoorRightsProofB2
import Derived.Test.YtliflleaeimngaaGreatDoorCards
import Derived.Test.YtliflleaeimngaaGreatDoorTie
import Derived.ProofKit
import Derived.LaidMore
import Derived.OpenShut
import Derived.Stop.Joined
import Derived.Laws.IdiomArrays
import Derived.Lib.LaidU8
import Derived.Lib.LaidTab
import Derived.ChangeOld
import Derived.Deep.Slices
import Derived.ChangeSame
import Derived.SizedLaws
import Derived.SevenTiedAt
set_option linter.unusedSimpArgs false
set_option maxRecDepth 100000
set_option maxHeartbeats 8000000
namespace Go.Proofs.YtliflleaeimngaaGreatDoor
open Go Go.RowKit
section
open Go Go.ChangeShapes Go.WideShapes Go.ChangeAt Go.RowKit
theorem aD0:Tryz.prog.cellsOf 3=1:=by kernel_rfl
theorem aG0:Tryz.prog.cellsOf 4=1:=by kernel_rfl
theorem aJ8:Tryz.prog.cellsOf 50=1:=by kernel_rfl
theorem aJ9:Tryz.prog.cellsOf 52=4:=by kernel_rfl
theorem aF9:Tryz.prog.cellsOf 54=10:=by kernel_rfl
theorem aA5:Tryz.prog.cellsOf 22=1:=by kernel_rfl
theorem aF8:Tryz.prog.cellsOf 24=4:=by kernel_rfl
theorem aH6:Tryz.prog.bytesOf 54=80:=by kernel_rfl
theorem aI1:Tryz.prog.underlying 52=some (.array 4 50):=by kernel_rfl
theorem fE{x:Int}(h:(Lit.int .u64 x).wf=true):0<=x/\x<18446744073709551616:=by
 simp [Lit.wf,IntKind.min,IntKind.max,IntKind.signed,IntKind.bits] at h
 omega
theorem mR{w:World}{g o:Nat}{v:Value}(h:w.cell? ⟨g,o,none⟩=some v):g<w.heap.size:=by
 rcases Nat.lt_or_ge g w.heap.size with h' | h'
 ·exact h'
 ·have:w.heap[g]?=none:=Array.getElem?_eq_none h'
  simp [World.cell?,this] at h
theorem uZ{H:Type}{enc:TypeId×Value->H}{W:World}{fuel:Nat}{c0 c1 c2 c3:Value}{x:DataW H×List MemPlace}(hf:DataW.trod enc Tryz.prog W 0 (fun _=>true) true fuel 52 [c0,c1,c2,c3]=some x) :
  ∃ s:aQ,c0=.int .u64 (aB s 0)/\c1=.int .u64 (aB s 1)/\c2=.int .u64 (aB s 2)/\c3=.int .u64 (aB s 3):=by
 obtain⟨y0,y1,y2,y3,m,hx,hy0,hy1,hy2,hy3⟩:=trod_array4 aI1 aJ8 hf
 obtain⟨x0,e0,_,w0⟩:=DataW.trod_int Tryz.underlying50 hy0
 obtain⟨x1,e1,_,w1⟩:=DataW.trod_int Tryz.underlying50 hy1
 obtain⟨x2,e2,_,w2⟩:=DataW.trod_int Tryz.underlying50 hy2
 obtain⟨x3,e3,_,w3⟩:=DataW.trod_int Tryz.underlying50 hy3
 simp at e0 e1 e2 e3
 subst e0 e1 e2 e3
 have r0:=fE w0
 have r1:=fE w1
 have r2:=fE w2
 have r3:=fE w3
 obtain⟨s,g0,g1,g2,g3⟩:=vU x0 x1 x2 x3 r0.1 r0.2 r1.1 r1.2 r2.1 r2.2 r3.1 r3.2
 exact⟨s,by rw [g0],by rw [g1],by rw [g2],by rw [g3]⟩
theorem vB{H:Type}{enc:TypeId×Value->H}{W:World}{fuel:Nat}{cs:List Value}{x:DataW H×List MemPlace}(hl:cs.length=10)(hf:DataW.trod enc Tryz.prog W 0 (fun _=>true) true fuel 54 cs=some x):∃ i:Ins,cs=inC i:=by
 obtain⟨xs,k,hk,hxy,_,hxl,hf⟩:=DataW.trod_struct Tryz.underlying54 hf
 clear hxy
 match xs,hxl,cs,hl,hf with
 | [y0,y1,y2,y3,y4,y5,y6],_,[v0,v1,v2,v3,v4,v5,v6,v7,v8,v9],_,hf=>
  have F0:=hf 0 _ rfl
  have F1:=hf 1 _ rfl
  have F2:=hf 2 _ rfl
  have F3:=hf 3 _ rfl
  have F4:=hf 4 _ rfl
  have F5:=hf 5 _ rfl
  have F6:=hf 6 _ rfl
  simp [aD0,aJ9] at F0 F1 F2 F3 F4 F5 F6
  obtain⟨x0,e0,_,w0⟩:=DataW.trod_int Tryz.underlying3 F0
  obtain⟨x1,e1,_,w1⟩:=DataW.trod_int Tryz.underlying3 F1
  obtain⟨x2,e2,_,w2⟩:=DataW.trod_int Tryz.underlying3 F2
  obtain⟨x3,e3,_,w3⟩:=DataW.trod_int Tryz.underlying3 F3
  obtain⟨x4,e4,_,w4⟩:=DataW.trod_int Tryz.underlying3 F4
  obtain⟨x5,e5,_,w5⟩:=DataW.trod_int Tryz.underlying3 F5
  obtain⟨s,g0,g1,g2,g3⟩:=uZ F6
  cases e0;cases e1;cases e2;cases e3;cases e4;cases e5
  subst g0 g1 g2 g3
  exact⟨⟨x0,x1,x2,x3,x4,x5,s⟩,rfl⟩
theorem pJ{H:Type}{enc:TypeId×Value->H}{W:World}{fuel:Nat}{v:Value}{d:DataW H}{p:List MemPlace}(hf:DataW.trod enc Tryz.prog W 0 (fun _=>true) true fuel 22 [v]=some (d,p))
  (hw:∀ n∈d.weights Tryz.prog 22,n<=reachBytes):∃ (q:Option Addr) (L:List Ins) (c:Nat),v=.slice q L.length c/\LI W q L/\L.length*80<=reachBytes/\L.length<=9223372036854775807/\(q=none->c=0):=by
 have hR:reachBytes=140737488351232:=by decide
 rcases Deep.open_slice Tryz.underlying22 hf with⟨h1,h2⟩ | ⟨a,len,cap,m,n,D,Pl,h1,_,hlc,hcap,hm,h2,hx⟩
 ·cases h1
  exact⟨none,[],0,rfl,fun j i h=>by simp at h,by simp,by simp,fun _=>rfl⟩
 ·cases h1
  rw [if_pos rfl] at hm
  subst hm
  have hde:d=.slice ((List.range len).map D) ((List.range (m-len)).map fun j=>D (len+j)):=(Prod.mk.inj h2).1
  have h3:=hw ((len+(m-len))*80) (by rw [hde];simp [DataW.weights,Tryz.underlying22,aH6])
  have each:∀ i,i<len->∃ x:Ins,∀ j v,(inC x)[j]?=some v->W.cell? (a.add (i*10+j))=some v:=by
   intro i hi
   obtain⟨cs',g1,g2⟩:=hx i (by omega)
   rw [aF9] at g1
   obtain⟨_,hlen,hcell⟩:=World.cells?_some g1
   obtain⟨x,rfl⟩:=vB hlen g2
   refine⟨x,fun j v hj=>?_⟩
   have hjl:j<10:=by have:=(g7.1 hj).1;rw [dJ] at this;exact this
   have:=hcell j hjl
   rw [Deep.add_add] at this
   rw [this]
   exact hj
  by_cases hl:len=0
  ·subst hl
   exact⟨some a,[],m,rfl,fun j i h=>by simp at h,by simp,by simp,fun h=>by cases h⟩
  ·have:Inhabited Ins:=⟨⟨0,0,0,0,0,0,0⟩⟩
   obtain⟨q,hq⟩:=Deep.choose_lt each
   obtain⟨b,off,spot⟩:=a
   have c0:=hq 0 (by omega) 0 _ rfl
   have hs:spot=none:=by
    cases spot with
    | none=>rfl
    | some k=>
     exfalso
     unfold Addr.add World.cell? at c0
     simp at c0
     split at c0 <;> simp_all
   subst hs
   have hadd:∀ j,(⟨b,off,none⟩:Addr).add j=⟨b,off+j,none⟩:=fun j=>by unfold Addr.add;split <;> simp_all
   have hb:b<W.heap.size:=by
    rw [hadd] at c0
    exact mR c0
   refine⟨some ⟨b,off,none⟩,(List.range len).map q,m,by simp,fun j i hi=>⟨b,off,rfl,hb,?_⟩,by simp;omega,by simp;omega,fun h=>by cases h⟩
   have hil:j<len:=by have:=(g7.1 hi).1;simpa using this
   have hqi:q j=i:=by simpa [hil] using hi
   have hh:=hq j hil
   rw [hqi] at hh
   simp only [hadd] at hh
   simp only [<- Nat.add_assoc] at hh
   exact hh
theorem vA{H:Type}{enc:TypeId×Value->H}{W:World}{base:Nat}{v:Value}{d:DataW H}{p:List MemPlace}(hok:Value.okWide Tryz.prog W .any base 24 v)
  (h:DataW.Trod enc Tryz.prog W 0 (fun _=>true) true 24 v d p) (hw:∀ n∈d.weights Tryz.prog 24,n<=reachBytes):∃ x:Pg,v=.agg #[.slice x.q x.L.length x.c,.int .i64 x.g,.int .i64 x.k,.bool x.f]/\PgI W x/\x.L.length*80<=reachBytes/\(x.q=none->x.c=0):=by
 obtain⟨cs,rfl,hsz⟩:=okWide_struct Tryz.underlying24 hok
 rw [aF8] at hsz
 obtain⟨l⟩:=cs
 obtain⟨fuel,hf⟩:=h
 obtain⟨xs,k,hk,hxy,_,hxl,hf⟩:=DataW.trod_struct Tryz.underlying24 hf
 have hD:d=.agg (xs.map (·.1)):=(Prod.mk.inj hxy).1
 rw [hD] at hw
 simp only [DataW.weights,Tryz.underlying24] at hw
 clear hD hxy
 match xs,hxl,l,hsz,hf,hw with
 | [y0,y1,y2,y3],_,[v0,v1,v2,v3],_,hf,hw=>
  have F0:=hf 0 _ rfl
  have F1:=hf 1 _ rfl
  have F2:=hf 2 _ rfl
  have F3:=hf 3 _ rfl
  simp [Value.cells,aD0,aG0,aA5] at F0 F1 F2 F3
  obtain⟨x1,e1,_,w1⟩:=DataW.trod_int Tryz.underlying3 F1
  obtain⟨x2,e2,_,w2⟩:=DataW.trod_int Tryz.underlying3 F2
  obtain⟨b3,e3,_⟩:=DataW.trod_bool Tryz.underlying4 F3
  obtain⟨d0,p0⟩:=y0
  obtain⟨q,L,c,rfl,hL,hr,hm,hc⟩:=pJ F0 (fun n hn=>hw n (DataW.weights_mem_each (j:=0) (t:=22) rfl rfl n hn))
  cases e1;cases e2;cases e3
  exact⟨⟨q,L,c,x1,x2,b3⟩,rfl,⟨hm,hL⟩,hr,hc⟩
end
section
open Go Go.ChangeShapes Go.WideShapes Go.ChangeAt Go.RowKit
def gP : List (String × DataW Unit) := [("math/bits.deBruijn32tab", Rows.laid_math_bits_deBruijn32tab), ("math/bits.deBruijn64tab", Rows.laid_math_bits_deBruijn64tab), ("internal/strconv.uint64pow10", Rows.laid_internal_strconv_uint64pow10), ("strconv.ErrRange", Rows.laid_strconv_ErrRange), ("strconv.ErrSyntax", Rows.laid_strconv_ErrSyntax)]
theorem xZ(os:Os)(args:Array Value):laidMetH Tryz.prog gP ((World.doorLaid Tryz.prog 400 os).forCall (fun _ _=>0) ⟨#[],args,[]⟩).memory:=
 laidMetH_of_parts3 (fuel:=8) (laidMet_of_run' 8 (by kernel_rfl) (by kernel_rfl)) (by kernel_rfl) (by kernel_rfl)
theorem aK2 : Tryz.prog.globalNamed "math/bits.deBruijn64tab" = some 2 := by kernel_rfl
theorem aK8:(Tryz.prog.globals[2]?).map (·.type)=some 173:=by kernel_rfl
theorem yV:Tryz.prog.underlying 173=some (.array 64 5):=by kernel_rfl
theorem aE1:Tryz.prog.underlying 5=some (.int .u8):=by kernel_rfl
theorem yF:Tryz.prog.cellsOf 5=1:=by kernel_rfl
theorem vO:Tryz.prog.cellsOf 173=64:=by kernel_rfl
def zF:List Int:=Lib.deBruijn64tab.map fun (n:Nat)=>(n:Int)
theorem yB:(Rows.laid_math_bits_deBruijn64tab:DataW Unit)=Lib.tabData .u8 zF:=by rfl
theorem vD{P:Program}{x:String×DataW Unit}{r:List (String×DataW Unit)}{w:World}(h:laidMet P (x :: r) w):laidMet P r w:=by
 obtain⟨ps,hv,hnd,hrows⟩:=h
 obtain⟨n,d⟩:=x
 obtain⟨g,t,cs,fuel,p,q,_,_,_,_,hq,rfl⟩:=hv
 exact⟨q,hq,List.Nodup.sublist (List.sublist_append_right _ _) hnd,fun b off hm=>hrows b off (List.mem_append_right _ hm)⟩
theorem aE8{W:World}(h:laidMetH Tryz.prog gP W):z1_Tab W:=by
 rw [MakeChecks.laidMetH_plain _ _ _ (by kernel_rfl)] at h
 unfold gP at h
 have h:=vD h
 rw [yB] at h
 have ht:=Lib.tabIs_of_head aK2 aK8 yV aE1 yF vO h
 have hc:∀ j,j<64->W.cell? ⟨2,j,none⟩=some (.int .u8 (Lib.deBruijn64tab.getD j 0)):=fun j hj=>by
  have hl:zF.length=64:=by decide
  have:=ht.cell aK2 j (by omega)
  rw [this]
  have e:zF.getD j 0=((Lib.deBruijn64tab.getD j 0:Nat):Int):=by
   unfold zF
   have hl3:Lib.deBruijn64tab.length=64:=by decide
   have hl2:j<Lib.deBruijn64tab.length:=by omega
   simp [List.getD,hl2]
  rw [e]
 exact⟨mR (hc 0 (by decide)),hc⟩
end
end Go.Proofs.YtliflleaeimngaaGreatDoor

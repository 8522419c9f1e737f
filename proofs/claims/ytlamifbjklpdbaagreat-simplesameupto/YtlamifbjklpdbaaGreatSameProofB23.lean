/-
  Parts of the proof.
-/
import Derived.Test.YtlamifbjklpdbaaGreatSameProofA0
import Derived.Test.YtlamifbjklpdbaaGreatRows
import Derived.Test.YtlamifbjklpdbaaGreatSameProofB22
set_option maxRecDepth 100000
set_option maxHeartbeats 8000000
namespace Go.Proofs.YtlamifbjklpdbaaGreat
open Go Go.RowKit
open Go Go.ChangeShapes Go.WideShapes Go.ChangeAt Go.RowKit
theorem aG8{H:Type}(d:DataW H):1<=Rows.uptoBulk d:=by
 cases d with
 | lit l=>cases l <;> simp [Rows.uptoBulk]
 | nil=>simp [Rows.uptoBulk]
 | ptr d=>simp [Rows.uptoBulk]
 | slice elems spare=>simp [Rows.uptoBulk]
 | agg parts=>simp [Rows.uptoBulk]
 | iface t d=>simp [Rows.uptoBulk]
 | map entries=>simp [Rows.uptoBulk]
 | held h=>simp [Rows.uptoBulk]
theorem iV{H:Type}{d:DataW H}{l:List (DataW H)}(h:d∈l):Rows.uptoBulk d<=Rows.uptoBulkAll l:=by
 induction l with
 | nil=>cases h
 | cons x r ih=>
  simp only [Rows.uptoBulkAll]
  cases u0.1 h with
  | inl e=>subst e;omega
  | inr e=>have:=ih e;omega
theorem aG9{H:Type}(l:List (DataW H)):l.length<=Rows.uptoBulkAll l:=by
 induction l with
 | nil=>simp [Rows.uptoBulkAll]
 | cons x r ih=>have:=aG8 x;simp only [Rows.uptoBulkAll,o7];omega
theorem aT7{H:Type}{d:DataW H}{l:List (DataW H)}(hk:Rows.uptoSmall H l=true)(h:d∈l):Rows.uptoBulk d<=1048576:=o0 (iV h) (of_decide_eq_true hk)
theorem xP{H:Type}{enc:TypeId×Value->H}{W:World}{fuel:Nat}{v:Value}{x:DataW H×List MemPlace}(hf:DataW.trod enc Tryz.prog W 0 (fun _=>true) true fuel 22 [v]=some x)(hw:Rows.uptoBulk x.1<=1048576) :
  ∃ (rs:lIi) (q:Option Addr) (c:Nat),v=.slice q rs.length c/\ArgR W v rs/\Fit rs/\rs.length+3<=1048579:=by
 rcases Deep.open_slice_pairs Tryz.underlying22 Tryz.underlying53 aG7 rfl rfl nX nX hf with⟨h1,h2⟩ | ⟨a,len,cap,m,n,V0,V1,D0,D1,P0,P1,h1,_,hlc,hcap,hm,h2,hx⟩
 ·cases h1;exact⟨[],none,0,rfl,.inl ⟨none,0,rfl,rfl,fun _=>rfl⟩,eM,by simp⟩
 ·cases h1;rw [if_pos rfl] at hm;subst hm;by_cases hc:m=0
  ·have hl:len=0:=by omega
   subst hc hl;exact⟨[],some a,0,rfl,.inl ⟨some a,0,rfl,rfl,fun q=>(by cases q)⟩,eM,by simp⟩
  ·have hp:∀ i,i<m->∃ q:Int×Int,V0 i=.int .i64 q.1/\V1 i=.int .i64 q.2/\(Lit.int .i64 q.1).wf=true/\(Lit.int .i64 q.2).wf=true:=fun i hi=>by
    obtain⟨_,_,g0,g1⟩:=hx i hi;obtain⟨x0,e0,_,w0⟩:=DataW.trod_int Tryz.underlying3 g0;obtain⟨x1,e1,_,w1⟩:=DataW.trod_int Tryz.underlying3 g1;exact⟨(x0,x1),by simpa using e0,by simpa using e1,w0,w1⟩
   obtain⟨q,hq⟩:=Deep.choose_lt hp;have c0:=(hx 0 (by omega)).1;obtain⟨b,off,rfl⟩:=wD (by simpa using c0);have hadd:∀ j,((aDr b off):Addr).add j=⟨b,off+j,none⟩:=fun j=>by unfold Addr.add;split <;> simp_all
   have hb:b<W.heap.size:=by rw [hadd] at c0;exact vX c0
   refine⟨(List.range len).map q,some (aDr b off),m,by simp,.inr ⟨b,off,m,by simp,hb,by simpa using hlc,hcap,fun i r hi'=>?_⟩,fun r hr=>?_,?_⟩
   ·have hil:i<len:=by have:=(m8.1 hi').1;simpa using this
    have hqi:q i=r:=(by simpa [hil] using hi');obtain⟨k0,k1,_,_⟩:=hx i (by omega);rw [hadd,aBB] at k0;rw [hadd,aBB,<- aAU] at k1;obtain⟨r0,r1,_,_⟩:=hq i (by omega);rw [hqi] at r0 r1;exact⟨by rw [k0,r0],by rw [k1,r1]⟩
   ·obtain⟨i,hi,rfl⟩:=s4.1 hr;have hil:i<len:=aBW.1 hi;obtain⟨_,_,w0,w1⟩:=hq i (by omega);exact⟨tO w0,tO w1⟩
   ·obtain⟨es,sp,e1,e2⟩:∃ es sp,x.1=.slice es sp/\es.length=len:=⟨_,_,congrArg Prod.fst h2,by simp⟩;rw [e1] at hw;simp only [Rows.uptoBulk] at hw;have:=aG9 es;simp;omega
theorem xR{H:Type}{enc:TypeId×Value->H}{W:World}:∀ (fuel:Nat) (cs:List Value) (x:DataW H×List MemPlace),DataW.trod enc Tryz.prog W 0 (fun _=>true) true fuel 25 cs=some x->Rows.uptoBulk x.1<=1048576 ->
  ∃ t:Tr,(TB W t/\bF (fun u=>u.f.rs.length<=1048576) t)/\cs=[.int .i64 t.f.k,.int .i64 t.f.n,.int .i64 t.f.mn,.int .i64 t.f.mx,.slice t.f.rq t.f.rs.length t.f.rc,.slice t.f.kq t.f.kl t.f.kc]:=by
 intro fuel
 induction fuel using Nat.strongRecOn with
 | ind fuel ih=>
  intro cs x hf hw;obtain⟨xs,k,hk,hxy,hcl,hxl,hfs⟩:=DataW.trod_struct Tryz.underlying25 hf;have hD:x.1=.agg (xs.map (·.1)):=(congrArg Prod.fst hxy);rw [hD] at hw;simp only [Rows.uptoBulk] at hw;rw [qI] at hcl;clear hD hxy hf
  match xs,hxl,cs,hcl,hfs,hw with
  | [y0,y1,y2,y3,y4,y5],_,[v0,v1,v2,v3,v4,v5],_,hf,hwi=>
   have F0:=hf 0 _ rfl;have F1:=hf 1 _ rfl;have F2:=hf 2 _ rfl;have F3:=hf 3 _ rfl;have F4:=hf 4 _ rfl;have F5:=hf 5 _ rfl;simp [nX,yJ,yK] at F0 F1 F2 F3 F4 F5;obtain⟨x0,e0,_,w0⟩:=DataW.trod_int Tryz.underlying3 F0;obtain⟨x1,e1,_,w1⟩:=DataW.trod_int Tryz.underlying3 F1;obtain⟨x2,e2,_,w2⟩:=DataW.trod_int Tryz.underlying3 F2;obtain⟨x3,e3,_,w3⟩:=DataW.trod_int Tryz.underlying3 F3;obtain⟨rs,q,c,rfl,hr,hfit,hlen⟩:=xP F4 (by have:=iV (d:=y4.1) (l:=[y0,y1,y2,y3,y4,y5].map (·.1)) (by simp);omega);cases e0;cases e1;cases e2;cases e3;have hwk:Rows.uptoBulk y5.1<=1048576:=(by have:=iV (d:=y5.1) (l:=[y0,y1,y2,y3,y4,y5].map (·.1)) (by simp);omega);rcases DataW.trod_slice Tryz.underlying23 F5 with⟨h1,h2⟩ | ⟨a,len,cap,elems,rest,n,hn,h1,h2,_,hlc,hcap,hel,hx,-,-⟩
   ·cases h1;exact⟨.mk ⟨x0,x1,x2,x3,rs,q,c,none,0,0⟩ [],⟨(aI _).2 ⟨⟨hr,.inl ⟨none,0,rfl,rfl,fun _=>rfl⟩,hfit,o0 hlen (by decide)⟩,(aT _).2 fun u hu=>by cases hu⟩,(aI _).2 ⟨(show rs.length<=1048576 by omega),(aT _).2 fun u hu=>by cases hu⟩⟩,rfl⟩
   ·cases h1;by_cases hl:len=0
    ·subst hl;exact⟨.mk ⟨x0,x1,x2,x3,rs,q,c,some a,0,cap⟩ [],⟨(aI _).2 ⟨⟨hr,.inl ⟨some a,cap,rfl,rfl,fun z=>by cases z⟩,hfit,o0 hlen (by decide)⟩,(aT _).2 fun u hu=>by cases hu⟩,(aI _).2 ⟨(show rs.length<=1048576 by omega),(aT _).2 fun u hu=>by cases hu⟩⟩,rfl⟩
    ·have each:∀ i,i<len->∃ t:Tr,(TB W t/\bF (fun u=>u.f.rs.length<=1048576) t)/\∀ j v,[Value.int .i64 t.f.k,.int .i64 t.f.n,.int .i64 t.f.mn,.int .i64 t.f.mx,.slice t.f.rq t.f.rs.length t.f.rc,.slice t.f.kq t.f.kl t.f.kc][j]?=some v->W.cell? (a.add (i*6+j))=some v:=by
      intro i hi;have hxi:=hx i hi;rw [g9 (by omega)] at hxi;obtain⟨cs',g1,g2⟩:=Option.bind_eq_some_iff.1 hxi;rw [qI] at g1;obtain⟨_,hlc',hcell⟩:=World.cells?_some g1;obtain⟨t,ht,hcs⟩:=ih n (by omega) cs' _ g2 (by
       rw [show y5.1=.slice (elems.map (·.1)) (rest.map (·.1)) from congrArg Prod.fst h2] at hwk;simp only [Rows.uptoBulk] at hwk;refine o0 (iV (l:=elems.map (·.1)) (s4.2 ⟨_,List.getElem_mem _,rfl⟩)) (by omega))
      refine⟨t,ht,fun j v hj=>?_⟩;have hj6:j<6:=(by have:=(m8.1 hj).1;simpa using this);have:=hcell j (by omega);rw [Deep.add_add] at this;rw [this,hcs];exact hj
     have:Inhabited Tr:=⟨.mk ⟨0,0,0,0,[],none,0,none,0,0⟩ []⟩;obtain⟨tt,htt⟩:=Deep.choose_lt each;have c0:=(htt 0 (by omega)).2 0 _ rfl;obtain⟨b,off,rfl⟩:=wD (by simpa using c0);have hadd:∀ j,((aDr b off):Addr).add j=⟨b,off+j,none⟩:=fun j=>by unfold Addr.add;split <;> simp_all
     have hb:b<W.heap.size:=(by rw [hadd] at c0;exact vX c0);refine⟨.mk ⟨x0,x1,x2,x3,rs,q,c,some (aDr b off),len,cap⟩ ((List.range len).map tt),⟨(aI _).2 ⟨⟨hr,.inr ⟨b,off,cap,by simp [Tr.f,Tr.ks],hb,by simpa [Tr.ks] using hlc,hcap,fun i t hi=>?_⟩,hfit,o0 hlen (by decide)⟩,(aT _).2 fun u hu=>?_⟩,(aI _).2 ⟨(show rs.length<=1048576 by omega),(aT _).2 fun u hu=>?_⟩⟩,rfl⟩
     ·have hi':((List.range len).map tt)[i]?=some t:=hi;have hil:i<len:=(by have:=(m8.1 hi').1;simpa using this);have hqi:tt i=t:=(by simpa [hil] using hi');have hh:=(htt i hil).2;rw [hqi] at hh;simp only [hadd,<- aAU] at hh;exact⟨hh 0 _ rfl,hh 1 _ rfl,hh 2 _ rfl,hh 3 _ rfl,hh 4 _ rfl,hh 5 _ rfl⟩
     ·have hu':u∈(List.range len).map tt:=hu;obtain⟨i,hi,rfl⟩:=s4.1 hu';exact(htt i (aBW.1 hi)).1.1
     ·have hu':u∈(List.range len).map tt:=hu;obtain⟨i,hi,rfl⟩:=s4.1 hu';exact(htt i (aBW.1 hi)).1.2
theorem xQ{H:Type}{enc:TypeId×Value->H}{W:World}{base:Nat}{v:Value}{d:DataW H}{p:List MemPlace}(hok:Value.okWide Tryz.prog W .any base 25 v)
  (h:DataW.Trod enc Tryz.prog W 0 (fun _=>true) true 25 v d p) (hw:Rows.uptoBulk d<=1048576):∃ t:Tr,TB W t/\(∀ x∈pp [] t,x.2.f.rs.length<=1048576)/\v=.agg (nDf t.f):=by
 obtain⟨cs,rfl,hsz⟩:=okWide_struct Tryz.underlying25 hok;obtain⟨fuel,hf⟩:=h;obtain⟨t,⟨ht,hs⟩,hcs⟩:=xR fuel _ _ hf hw;refine⟨t,ht,fun x hx=>((aI _).1 (fD (P:=fun u=>u.f.rs.length<=1048576) t [] hs x hx)).1,?_⟩;obtain⟨l⟩:=cs;simp [Value.cells] at hcs;rw [hcs]
end Go.Proofs.YtlamifbjklpdbaaGreat

/-
  Parts of the proof.
-/
import Derived.Test.YtjafnbjipgediaaGreatDoorWidthsProofB34
import Derived.Test.YtjafnbjipgediaaGreatDoorWidthsProofB36
import Derived.Test.YtjafnbjipgediaaGreatDoorWidthsProofB3
import Derived.Test.YtjafnbjipgediaaGreatDoorWidthsProofB2
import Derived.Deep.Slices
import Derived.Deep.SlicePairs
import Derived.ChangeSame
import Derived.SizedLaws
import Derived.Test.YtjafnbjipgediaaGreatDoorRows
set_option maxRecDepth 100000
set_option maxHeartbeats 8000000
namespace Go.Proofs.YtjafnbjipgediaaGreatDoor
open Go Go.RowKit
section
open Go Go.RowKit Go.Shelf
attribute [local go_sem] Oper.semAt_some bB
theorem tP{w:World}{t:Tr}(c o:Bool)(hT:TB w t)(hf:∀ x∈pp [] t,x.2.f.rs.length<=1048576)(hG:GloS w) :
  Calls Tryz.prog 7 #[.agg #[.int .i64 t.f.k,.int .i64 t.f.n,.int .i64 t.f.mn,.int .i64 t.f.mx,.slice t.f.rq t.f.rs.length t.f.rc,.slice t.f.kq t.f.kl t.f.kc],.agg #[.bool c,.bool o]] w fun e w'=>e=.returned (.bool true)/\Below w.heap.size w w':=by
 have hsm:Sm t:=fun x hx=>Nat.le_trans (hf x hx) (by omega)
 have X1:Hid (Bx2 w ((w.alloc (.cells #[.int .i64 t.f.k,.int .i64 t.f.n,.int .i64 t.f.mn,.int .i64 t.f.mx,.slice t.f.rq t.f.rs.length t.f.rc,.slice t.f.kq t.f.kl t.f.kc] 25)).alloc (.cells #[.bool c,.bool o] 27)) t.f c o):=⟨(bz9).alloc (by simp) _,(Below.heap_alloc _ _ _ (by simp)).trans (aE w _),aK _ (by simp only [World.size_alloc])⟩
 have EX:Hid (∀ W,Below w.heap.size w W->Calls Tryz.prog 9 #[] W fun e w'=>e=.returned (.bool true)/\Below W.heap.size W w'):=fun W hW=>tU (GloS.ck (CK.of_below hW) hG)
 have LN:Hid (∀ W,Below w.heap.size w W->Calls Tryz.prog 26 #[.agg #[.int .i64 t.f.k,.int .i64 t.f.n,.int .i64 t.f.mn,.int .i64 t.f.mx,.slice t.f.rq t.f.rs.length t.f.rc,.slice t.f.kq t.f.kl t.f.kc]] W fun e w'=>∃ x,e=.returned (.agg #[.int .i64 x.f.k,.int .i64 x.f.n,.int .i64 x.f.mn,.int .i64 x.f.mx,.slice x.f.rq x.f.rs.length x.f.rc,.slice x.f.kq x.f.kl x.f.kc])/\TB w' x/\er x=er t/\Below W.heap.size W w'):=fun W hW=>aK3 (hT.kept hW)
 have DW:Hid (∀ W,Below w.heap.size w W->Calls Tryz.prog 30 #[.agg #[.int .i64 t.f.k,.int .i64 t.f.n,.int .i64 t.f.mn,.int .i64 t.f.mx,.slice t.f.rq t.f.rs.length t.f.rc,.slice t.f.kq t.f.kl t.f.kc],.agg #[.bool c,.bool o]] W fun e w'=>e=.returned (.tuple #[.int .i64 (tvW (bI c) c o t).1,.int .i64 (tvW (bI c) c o t).2])/\Below W.heap.size W w'):=fun W hW=>aF0 c o (hT.kept hW) hsm
 have DA:Hid (∀ W,Below w.heap.size w W->Calls Tryz.prog 31 #[.agg #[.int .i64 t.f.k,.int .i64 t.f.n,.int .i64 t.f.mn,.int .i64 t.f.mx,.slice t.f.rq t.f.rs.length t.f.rc,.slice t.f.kq t.f.kl t.f.kc],.agg #[.bool c,.bool o]] W fun e w'=>e=.returned (.tuple #[.bool (tvA cU c o t).1,.bool (tvA cU c o t).2])/\Below W.heap.size W w'):=fun W hW=>vO c o (hT.kept hW) hsm
 have HTA:=aC hT
 have PW:Hid (∀ (W:World) (x:Tr),er x=er t->TB W x->Calls Tryz.prog 12 #[.agg #[.int .i64 x.f.k,.int .i64 x.f.n,.int .i64 x.f.mn,.int .i64 x.f.mx,.slice x.f.rq x.f.rs.length x.f.rc,.slice x.f.kq x.f.kl x.f.kc],.agg #[.bool c,.bool o]] W fun e w'=>e=.returned (.tuple #[.int .i64 (tvW (bI c) c o t).1,.int .i64 (tvW (bI c) c o t).2])/\Below W.heap.size W w'):=fun W x he hx=>by
  have:=qS c o hx;rw [aX0 (aR8 c) he] at this;exact this
 have PA:Hid (∀ (W:World) (x:Tr),er x=er t->TB W x->Calls Tryz.prog 13 #[.agg #[.int .i64 x.f.k,.int .i64 x.f.n,.int .i64 x.f.mn,.int .i64 x.f.mx,.slice x.f.rq x.f.rs.length x.f.rc,.slice x.f.kq x.f.kl x.f.kc],.agg #[.bool c,.bool o]] W fun e w'=>e=.returned (.tuple #[.bool (tvA cU c o t).1,.bool (tvA cU c o t).2])/\Below W.heap.size W w'):=fun W x he hx=>by
  have:=nF c o hx;rw [aX2 aS0 he] at this;exact this
 generalize tvW (bI c) c o t=vw at DW PW
 generalize tvA cU c o t=va at DA PA
 obtain⟨p1,p2⟩:=vw
 obtain⟨d1,d2⟩:=va
 dsimp only at DW PW DA PA
 clear hT hf hG hsm
 go_enter Tryz.func7,Tryz.ntmps7
 go_upto_region 1 with fail
 generalize ((w.alloc (.cells #[.int .i64 t.f.k,.int .i64 t.f.n,.int .i64 t.f.mn,.int .i64 t.f.mx,.slice t.f.rq t.f.rs.length t.f.rc,.slice t.f.kq t.f.kl t.f.kc] 25)).alloc (.cells #[.bool c,.bool o] 27))=w1 at X1 ⊢
 go_upto_region 2 with (go_at_call 9;refine(EX.out _ X1.out.1).mono ?_;rintro e w2 ⟨rfl,h2⟩;have X2:=aC (X1.out.kept h2);clear h2)
 obtain⟨n0,n1,n2,n3,n4,n5⟩:=X2.out.2.1.six
 simp only [Nat.zero_add] at n1 n2 n3 n4 n5
 go_upto_region 3 with (go_at_call 26;refine(LN.out _ X2.out.1).mono ?_;rintro e w3 ⟨x,rfl,h31,h32,h33⟩;have T3:=aC h31;have E3:=aC h32;have X3:=aC (X2.out.kept h33);clear h31 h32 h33)
 have L4:Hid (LR w t x c o w3.heap.size (w3.alloc (.cells #[.int .i64 x.f.k,.int .i64 x.f.n,.int .i64 x.f.mn,.int .i64 x.f.mx,.slice x.f.rq x.f.rs.length x.f.rc,.slice x.f.kq x.f.kl x.f.kc] 25))):=by
  have hb:Below w3.heap.size w3 (w3.alloc (.cells #[.int .i64 x.f.k,.int .i64 x.f.n,.int .i64 x.f.mn,.int .i64 x.f.mx,.slice x.f.rq x.f.rs.length x.f.rc,.slice x.f.kq x.f.kl x.f.kc] 25)):=bz9
  have X4:=X3.out.kept hb
  exact⟨X4.2.1,X4.2.2,aE w3 _,HTA.out.kept X4.1,T3.out.kept hb,X4.1⟩
 clear n0 n1 n2 n3 n4 n5
 generalize w3.heap.size=bx at L4 ⊢
 generalize (w3.alloc (.cells #[.int .i64 x.f.k,.int .i64 x.f.n,.int .i64 x.f.mn,.int .i64 x.f.mx,.slice x.f.rq x.f.rs.length x.f.rc,.slice x.f.kq x.f.kl x.f.kc] 25))=w4 at L4 ⊢
 obtain⟨x0,x1,x2,x3,x4,x5⟩:=L4.out.xd.six
 simp only [Nat.zero_add] at x1 x2 x3 x4 x5
 have a0:=aA L4.out.md (i:=0) rfl
 have a1:=aA L4.out.md (i:=1) rfl
 go_upto_region 4 with (go_at_call 12;refine(PW.out _ x E3.out L4.out.tx).mono ?_;rintro e w5 ⟨rfl,h5⟩;have L5:=aC (L4.out.kept h5);clear h5)
 clear x0 x1 x2 x3 x4 x5 a0 a1
 obtain⟨n0,n1,n2,n3,n4,n5⟩:=L5.out.nd.six
 simp only [Nat.zero_add] at n1 n2 n3 n4 n5
 have a0:=aA L5.out.md (i:=0) rfl
 have a1:=aA L5.out.md (i:=1) rfl
 go_upto_region 5 with (go_at_call 30;refine(DW.out _ L5.out.bel).mono ?_;rintro e w6 ⟨rfl,h6⟩;have L6:=aC (L5.out.kept h6);clear h6)
 clear n0 n1 n2 n3 n4 n5 a0 a1
 obtain⟨x0,x1,x2,x3,x4,x5⟩:=L6.out.xd.six
 simp only [Nat.zero_add] at x1 x2 x3 x4 x5
 have a0:=aA L6.out.md (i:=0) rfl
 have a1:=aA L6.out.md (i:=1) rfl
 go_upto_region 6 with (go_at_call 13;refine(PA.out _ x E3.out L6.out.tx).mono ?_;rintro e w7 ⟨rfl,h7⟩;have L7:=aC (L6.out.kept h7);clear h7)
 clear x0 x1 x2 x3 x4 x5 a0 a1
 obtain⟨n0,n1,n2,n3,n4,n5⟩:=L7.out.nd.six
 simp only [Nat.zero_add] at n1 n2 n3 n4 n5
 have a0:=aA L7.out.md (i:=0) rfl
 have a1:=aA L7.out.md (i:=1) rfl
 go_upto_region 7 with (go_at_call 31;refine(DA.out _ L7.out.bel).mono ?_;rintro e w8 ⟨rfl,h8⟩;have L8:=aC (L7.out.kept h8);clear h8)
 clear n0 n1 n2 n3 n4 n5 a0 a1
 obtain⟨x0,x1,x2,x3,x4,x5⟩:=L8.out.xd.six
 simp only [Nat.zero_add] at x1 x2 x3 x4 x5
 have a0:=aA L8.out.md (i:=0) rfl
 have a1:=aA L8.out.md (i:=1) rfl
 obtain⟨n0,n1,n2,n3,n4,n5⟩:=L8.out.nd.six
 simp only [Nat.zero_add] at n1 n2 n3 n4 n5
 have KP:=aC (aK8 L8.out.tx L8.out.tt E3.out)
 have y1:(p1==p1)=true:=by simp
 have y2:(p2==p2)=true:=by simp
 have y3:(d1==d1)=true:=by simp
 have y4:(d2==d2)=true:=by simp
 go_wp2_with (go_at_call 29;refine(KP.out).mono ?_;rintro e w9 ⟨rfl,h9⟩;have L9:=aC (L8.out.kept h9);clear h9)
 go_ret
 exact⟨by simp,L9.out.bel⟩
end
section
open Go Go.ChangeShapes Go.WideShapes Go.ChangeAt Go.RowKit
theorem qM:Tryz.prog.cellsOf 25=6:=by kernel_rfl
theorem aF2:Tryz.prog.cellsOf 110=2:=by kernel_rfl
theorem yP:Tryz.prog.cellsOf 22=1:=by kernel_rfl
theorem yQ:Tryz.prog.cellsOf 23=1:=by kernel_rfl
theorem wP{w:World}{g o:Nat}{v:Value}(h:w.cell? ⟨g,o,none⟩=some v):g < w.heap.size:=by
 rcases Nat.lt_or_ge g w.heap.size with h' | h'
 ·exact h'
 ·have:w.heap[g]?=none:=Array.getElem?_eq_none h'
  simp [World.cell?,this] at h
theorem wT{a:Addr}{W:World}{v:Value}(h:W.cell? (a.add 0)=some v):∃ b off,a=⟨b,off,none⟩:=by
 obtain⟨b,off,cO⟩:=a
 cases cO with
 | none=>exact⟨b,off,rfl⟩
 | some k=>
  exfalso
  unfold Addr.add World.cell? at h
  simp at h
  split at h <;> simp_all
theorem wL:Tryz.prog.cellsOf 27=2:=by kernel_rfl
theorem wM:Tryz.prog.cellsOf 4=1:=by kernel_rfl
theorem yH{H:Type}{enc:TypeId × Value->H}{W:World}{base:Nat}{v:Value}{d:DataW H}{p:List MemPlace}(hok:Value.okWide Tryz.prog W .any base 27 v)
  (h:DataW.Trod enc Tryz.prog W 0 (fun _=>true) true 27 v d p):∃ c f:Bool,v=.agg #[.bool c,.bool f]:=by
 obtain⟨cs,rfl,hsz⟩:=okWide_struct Tryz.underlying27 hok
 obtain⟨fuel,hf⟩:=h
 obtain⟨xs,k,hk,hxy,hcl,hxl,hfs⟩:=DataW.trod_struct Tryz.underlying27 hf
 rw [wL] at hcl
 obtain⟨l⟩:=cs
 simp [Value.cells] at hcl hfs
 match xs,hxl,l,hcl,hfs with
 | [y0,y1],_,[c0,c1],_,hf=>
  have F0:=hf 0 _ rfl
  have F1:=hf 1 _ rfl
  simp [wM] at F0 F1
  obtain⟨b0,e0,-⟩:=DataW.trod_bool Tryz.underlying4 F0
  obtain⟨b1,e1,-⟩:=DataW.trod_bool Tryz.underlying4 F1
  cases e0;cases e1
  exact⟨b0,b1,rfl⟩
end
section
open Go Go.ChangeShapes Go.WideShapes Go.ChangeAt Go.RowKit
theorem aF3{H:Type}(d:DataW H):1<=Rows.uptoBulk d:=by
 cases d with
 | lit l=>cases l <;> simp [Rows.uptoBulk]
 | nil=>simp [Rows.uptoBulk]
 | ptr d=>simp [Rows.uptoBulk]
 | slice elems spare=>simp [Rows.uptoBulk]
 | agg parts=>simp [Rows.uptoBulk]
 | iface t d=>simp [Rows.uptoBulk]
 | map entries=>simp [Rows.uptoBulk]
 | held h=>simp [Rows.uptoBulk]
theorem jI{H:Type}{d:DataW H}{l:List (DataW H)}(h:d∈l):Rows.uptoBulk d<=Rows.uptoBulkAll l:=by
 induction l with
 | nil=>cases h
 | cons x r ih=>
  simp only [Rows.uptoBulkAll]
  cases List.mem_cons.1 h with
  | inl e=>subst e;omega
  | inr e=>have:=ih e;omega
theorem aF4{H:Type}(l:List (DataW H)):l.length<=Rows.uptoBulkAll l:=by
 induction l with
 | nil=>simp [Rows.uptoBulkAll]
 | cons x r ih=>have:=aF3 x;simp only [Rows.uptoBulkAll,List.length_cons];omega
theorem aN7{H:Type}{d:DataW H}{l:List (DataW H)}(hk:Rows.uptoSmall H l=true)(h:d∈l):Rows.uptoBulk d<=1048576:=Nat.le_trans (jI h) (of_decide_eq_true hk)
theorem yE{H:Type}{enc:TypeId × Value->H}{W:World}{fuel:Nat}{v:Value}{x:DataW H × List MemPlace}(hf:DataW.trod enc Tryz.prog W 0 (fun _=>true) true fuel 22 [v]=some x)(hw:Rows.uptoBulk x.1<=1048576) :
  ∃ (rs:List (Int × Int)) (q:Option Addr) (c:Nat),v=.slice q rs.length c/\ArgR W v rs/\Fit rs/\rs.length+3<=1048579:=by
 rcases Deep.open_slice_pairs Tryz.underlying22 Tryz.underlying110 aF2 rfl rfl iQ iQ hf with⟨h1,h2⟩ | ⟨a,len,cap,m,n,V0,V1,D0,D1,P0,P1,h1,_,hlc,hcap,hm,h2,hx⟩
 ·cases h1
  exact⟨[],none,0,rfl,.inl ⟨none,0,rfl,rfl,fun _=>rfl⟩,jE,by simp⟩
 ·cases h1
  rw [if_pos rfl] at hm
  subst hm
  by_cases hc:m=0
  ·have hl:len=0:=by omega
   subst hc hl
   exact⟨[],some a,0,rfl,.inl ⟨some a,0,rfl,rfl,fun q=>(by cases q)⟩,jE,by simp⟩
  ·have hp:∀ i,i < m->∃ q:Int × Int,V0 i=.int .i64 q.1/\V1 i=.int .i64 q.2/\(Lit.int .i64 q.1).wf=true/\(Lit.int .i64 q.2).wf=true:=fun i hi=>by
    obtain⟨_,_,g0,g1⟩:=hx i hi
    obtain⟨x0,e0,_,w0⟩:=DataW.trod_int Tryz.underlying3 g0
    obtain⟨x1,e1,_,w1⟩:=DataW.trod_int Tryz.underlying3 g1
    exact⟨(x0,x1),by simpa using e0,by simpa using e1,w0,w1⟩
   obtain⟨q,hq⟩:=Deep.choose_lt hp
   have c0:=(hx 0 (by omega)).1
   obtain⟨b,off,rfl⟩:=wT (by simpa using c0)
   have hadd:∀ j,(⟨b,off,none⟩:Addr).add j=⟨b,off+j,none⟩:=fun j=>by unfold Addr.add;split <;> simp_all
   have hb:b < W.heap.size:=by rw [hadd] at c0;exact wP c0
   refine⟨(List.range len).map q,some ⟨b,off,none⟩,m,by simp,.inr ⟨b,off,m,by simp,hb,by simpa using hlc,hcap,fun i r hi'=>?_⟩,fun r hr=>?_,?_⟩
   ·have hil:i < len:=by have:=(List.getElem?_eq_some_iff.1 hi').1;simpa using this
    have hqi:q i=r:=by simpa [hil] using hi'
    obtain⟨k0,k1,_,_⟩:=hx i (by omega)
    rw [hadd,Nat.mul_comm] at k0
    rw [hadd,Nat.mul_comm,<- Nat.add_assoc] at k1
    obtain⟨r0,r1,_,_⟩:=hq i (by omega)
    rw [hqi] at r0 r1
    exact⟨by rw [k0,r0],by rw [k1,r1]⟩
   ·obtain⟨i,hi,rfl⟩:=List.mem_map.1 hr
    have hil:i < len:=List.mem_range.1 hi
    obtain⟨_,_,w0,w1⟩:=hq i (by omega)
    exact⟨uW w0,uW w1⟩
   ·obtain⟨es,sp,e1,e2⟩:∃ es sp,x.1=.slice es sp/\es.length=len:=⟨_,_,congrArg Prod.fst h2,by simp⟩
    rw [e1] at hw
    simp only [Rows.uptoBulk] at hw
    have:=aF4 es
    simp
    omega
theorem yG{H:Type}{enc:TypeId × Value->H}{W:World}:∀ (fuel:Nat) (cs:List Value) (x:DataW H × List MemPlace),DataW.trod enc Tryz.prog W 0 (fun _=>true) true fuel 25 cs=some x->Rows.uptoBulk x.1<=1048576 ->
  ∃ t:Tr,(TB W t/\bM (fun u=>u.f.rs.length<=1048576) t)/\cs=[.int .i64 t.f.k,.int .i64 t.f.n,.int .i64 t.f.mn,.int .i64 t.f.mx,.slice t.f.rq t.f.rs.length t.f.rc,.slice t.f.kq t.f.kl t.f.kc]:=by
 intro fuel
 induction fuel using Nat.strongRecOn with
 | ind fuel ih=>
  intro cs x hf hw
  obtain⟨xs,k,hk,hxy,hcl,hxl,hfs⟩:=DataW.trod_struct Tryz.underlying25 hf
  have hD:x.1=.agg (xs.map (·.1)):=(congrArg Prod.fst hxy)
  rw [hD] at hw
  simp only [Rows.uptoBulk] at hw
  rw [qM] at hcl
  clear hD hxy hf
  match xs,hxl,cs,hcl,hfs,hw with
  | [y0,y1,y2,y3,y4,y5],_,[v0,v1,v2,v3,v4,v5],_,hf,hwi=>
   have F0:=hf 0 _ rfl
   have F1:=hf 1 _ rfl
   have F2:=hf 2 _ rfl
   have F3:=hf 3 _ rfl
   have F4:=hf 4 _ rfl
   have F5:=hf 5 _ rfl
   simp [iQ,yP,yQ] at F0 F1 F2 F3 F4 F5
   obtain⟨x0,e0,_,w0⟩:=DataW.trod_int Tryz.underlying3 F0
   obtain⟨x1,e1,_,w1⟩:=DataW.trod_int Tryz.underlying3 F1
   obtain⟨x2,e2,_,w2⟩:=DataW.trod_int Tryz.underlying3 F2
   obtain⟨x3,e3,_,w3⟩:=DataW.trod_int Tryz.underlying3 F3
   obtain⟨rs,q,c,rfl,hr,hfit,hlen⟩:=yE F4 (by have:=jI (d:=y4.1) (l:=[y0,y1,y2,y3,y4,y5].map (·.1)) (by simp);omega)
   cases e0;cases e1;cases e2;cases e3
   have hwk:Rows.uptoBulk y5.1<=1048576:=by have:=jI (d:=y5.1) (l:=[y0,y1,y2,y3,y4,y5].map (·.1)) (by simp);omega
   rcases DataW.trod_slice Tryz.underlying23 F5 with⟨h1,h2⟩ | ⟨a,len,cap,elems,rest,n,hn,h1,h2,_,hlc,hcap,hel,hx,-,-⟩
   ·cases h1
    exact⟨.mk ⟨x0,x1,x2,x3,rs,q,c,none,0,0⟩ [],⟨(aW _).2 ⟨⟨hr,.inl ⟨none,0,rfl,rfl,fun _=>rfl⟩,hfit,Nat.le_trans hlen (by decide)⟩,(bL _).2 fun u hu=>by cases hu⟩,(aW _).2 ⟨(show rs.length<=1048576 by omega),(bL _).2 fun u hu=>by cases hu⟩⟩,rfl⟩
   ·cases h1
    by_cases hl:len=0
    ·subst hl
     exact⟨.mk ⟨x0,x1,x2,x3,rs,q,c,some a,0,cap⟩ [],⟨(aW _).2 ⟨⟨hr,.inl ⟨some a,cap,rfl,rfl,fun z=>by cases z⟩,hfit,Nat.le_trans hlen (by decide)⟩,(bL _).2 fun u hu=>by cases hu⟩,(aW _).2 ⟨(show rs.length<=1048576 by omega),(bL _).2 fun u hu=>by cases hu⟩⟩,rfl⟩
    ·have each:∀ i,i < len->∃ t:Tr,(TB W t/\bM (fun u=>u.f.rs.length<=1048576) t)/\∀ j v,[Value.int .i64 t.f.k,.int .i64 t.f.n,.int .i64 t.f.mn,.int .i64 t.f.mx,.slice t.f.rq t.f.rs.length t.f.rc,.slice t.f.kq t.f.kl t.f.kc][j]?=some v->W.cell? (a.add (i * 6+j))=some v:=by
      intro i hi
      have hxi:=hx i hi
      rw [List.getElem?_eq_getElem (by omega)] at hxi
      obtain⟨cs',g1,g2⟩:=Option.bind_eq_some_iff.1 hxi
      rw [qM] at g1
      obtain⟨_,hlc',hcell⟩:=World.cells?_some g1
      obtain⟨t,ht,hcs⟩:=ih n (by omega) cs' _ g2 (by
       rw [show y5.1=.slice (elems.map (·.1)) (rest.map (·.1)) from congrArg Prod.fst h2] at hwk
       simp only [Rows.uptoBulk] at hwk
       refine Nat.le_trans (jI (l:=elems.map (·.1)) (List.mem_map.2 ⟨_,List.getElem_mem _,rfl⟩)) (by omega))
      refine⟨t,ht,fun j v hj=>?_⟩
      have hj6:j < 6:=by have:=(List.getElem?_eq_some_iff.1 hj).1;simpa using this
      have:=hcell j (by omega)
      rw [Deep.add_add] at this
      rw [this,hcs]
      exact hj
     have:Inhabited Tr:=⟨.mk ⟨0,0,0,0,[],none,0,none,0,0⟩ []⟩
     obtain⟨tt,htt⟩:=Deep.choose_lt each
     have c0:=(htt 0 (by omega)).2 0 _ rfl
     obtain⟨b,off,rfl⟩:=wT (by simpa using c0)
     have hadd:∀ j,(⟨b,off,none⟩:Addr).add j=⟨b,off+j,none⟩:=fun j=>by unfold Addr.add;split <;> simp_all
     have hb:b < W.heap.size:=by rw [hadd] at c0;exact wP c0
     refine⟨.mk ⟨x0,x1,x2,x3,rs,q,c,some ⟨b,off,none⟩,len,cap⟩ ((List.range len).map tt),⟨(aW _).2 ⟨⟨hr,.inr ⟨b,off,cap,by simp [Tr.f,Tr.ks],hb,by simpa [Tr.ks] using hlc,hcap,fun i t hi=>?_⟩,hfit,Nat.le_trans hlen (by decide)⟩,(bL _).2 fun u hu=>?_⟩,(aW _).2 ⟨(show rs.length<=1048576 by omega),(bL _).2 fun u hu=>?_⟩⟩,rfl⟩
     ·have hi':((List.range len).map tt)[i]?=some t:=hi
      have hil:i < len:=by have:=(List.getElem?_eq_some_iff.1 hi').1;simpa using this
      have hqi:tt i=t:=by simpa [hil] using hi'
      have hh:=(htt i hil).2
      rw [hqi] at hh
      simp only [hadd,<- Nat.add_assoc] at hh
      exact⟨hh 0 _ rfl,hh 1 _ rfl,hh 2 _ rfl,hh 3 _ rfl,hh 4 _ rfl,hh 5 _ rfl⟩
     ·have hu':u∈(List.range len).map tt:=hu
      obtain⟨i,hi,rfl⟩:=List.mem_map.1 hu'
      exact(htt i (List.mem_range.1 hi)).1.1
     ·have hu':u∈(List.range len).map tt:=hu
      obtain⟨i,hi,rfl⟩:=List.mem_map.1 hu'
      exact(htt i (List.mem_range.1 hi)).1.2
theorem yF{H:Type}{enc:TypeId × Value->H}{W:World}{base:Nat}{v:Value}{d:DataW H}{p:List MemPlace}(hok:Value.okWide Tryz.prog W .any base 25 v)
  (h:DataW.Trod enc Tryz.prog W 0 (fun _=>true) true 25 v d p) (hw:Rows.uptoBulk d<=1048576):∃ t:Tr,TB W t/\(∀ x∈pp [] t,x.2.f.rs.length<=1048576)/\v=.agg #[.int .i64 t.f.k,.int .i64 t.f.n,.int .i64 t.f.mn,.int .i64 t.f.mx,.slice t.f.rq t.f.rs.length t.f.rc,.slice t.f.kq t.f.kl t.f.kc]:=by
 obtain⟨cs,rfl,hsz⟩:=okWide_struct Tryz.underlying25 hok
 obtain⟨fuel,hf⟩:=h
 obtain⟨t,⟨ht,hs⟩,hcs⟩:=yG fuel _ _ hf hw
 refine⟨t,ht,fun x hx=>((aW _).1 (mW (P:=fun u=>u.f.rs.length<=1048576) t [] hs x hx)).1,?_⟩
 obtain⟨l⟩:=cs
 simp [Value.cells] at hcs
 rw [hcs]
end
end Go.Proofs.YtjafnbjipgediaaGreatDoor

/-
  Parts of the proof.
-/
import Derived.Test.YtdgfpiekjigfnaaGreatDoorHoldsProofA0
import Derived.Test.YtdgfpiekjigfnaaGreatDoorHoldsProofA1
import Derived.Test.YtdgfpiekjigfnaaGreatDoorHoldsProofB2
import Derived.Laws.AppendOwnNone
import Derived.Maps.OwnIn
import Derived.Sort.CutIn
import Derived.Deep.RegionHeld
import Derived.Laws.EntriesVeiled
set_option maxRecDepth 100000
set_option maxHeartbeats 8000000
namespace Go.Proofs.YtdgfpiekjigfnaaGreatDoor
open Go Go.RowKit
section
open Go Go.RowKit Go.Shelf
def uL(x:El):Array Value:=#[.I ((x.1.length:Int)+1),.agg (nDf x.2.f)]
theorem sP(par:Tr)(p:Way)(a b:List Tr):∀ i,pps par p i (a++b)=pps par p i a++pps par p (i+a.length) b:=by
 induction a with
 | nil=>intro i;rw [cP];rfl
 | cons x a ih=>intro i;rw [aAF,bM,bM,ih (i+1),aAM,o5,show i+1+a.length=i+(a.length+1) by omega]
theorem lG{par:Tr}{p:Way}{ks:List Tr}{j:Nat}{u:Tr}(h:ks[j]?=some u):pps par p 0 (ks.take (j+1))=pps par p 0 (ks.take j)++pp ((par,j) :: p) u:=by
 have hj:=(m7.1 h).1;rw [t7,h,aAX,sP,bM,cP,aBR,aAA,m9,Nat.min_eq_left (by omega)]
theorem wU{par:Tr}{p:Way}{ks:List Tr}(j:Nat):pps par p 0 (ks.take j) <+: pps par p 0 ks:=by
 have:=sP par p (ks.take j) (ks.drop j) 0;rw [aBX] at this;rw [this];exact List.prefix_append _ _
def Nn(b0 b1:Nat):Nat->Prop:=fun k=>k<b0\/b1<=k
theorem jN{L pre:List El}{p:Way}{t:Tr}{r:List El}(h:pre++pp p t <+: L)(hr:r <+: pps t p 0 t.ks):pre++(p,t) :: r <+: L:=by
 refine List.IsPrefix.trans ?_ h;rw [cM];exact(List.prefix_append_right_inj _).2 (List.cons_prefix_cons.2 ⟨rfl,hr⟩)
def aB5(w0:World)(b1:Nat)(L:List El)(J Jx:List El->World->Prop)(xs:List El)(e:Ending)(V':World):Prop:=
 ∃ r:Bool,e=.returned (.bool r)/\((r=true/\J xs V'/\CK w0 V'/\b1<=V'.heap.size)\/(r=false/\∃ pre',pre' <+: L/\Jx pre' V'))
theorem bW0{w0:World}{L:List El}{l b1:Nat}{J Jx:List El->World->Prop}{B:Nat}(hJ:OwnFrom B J)(n:Nat)(hL:∀ pre V,J pre V->pre.length<=1000000)
  (hY:∀ pre x V,J pre V->pre++[x] <+: L->YieldAt Fence.wide (n-1) Tryz.prog l (uL x) V fun e V'=>KeepsFrom B V V'/\((e=.returned (.bool true)/\J (pre++[x]) V'/\CKeep (Nn w0.heap.size b1) V V')\/(e=.returned (.bool false)/\Jx (pre++[x]) V'))) :
  ∀ (m:Nat) (t:Tr) (p:Way) (pre:List El) (V:World),t.sz<=m->pre++pp p t <+: L->TB w0 t->CK w0 V->J pre V->p.length<=pre.length->b1<=V.heap.size ->
   CallsIn Fence.wide n Tryz.prog 100 #[.agg (nDf t.f),.I ((p.length:Int)+1),.func (.yield l) #[] #[]] V (aB5 w0 b1 L J Jx (pre++pp p t)):=by
 intro m
 induction m with
 | zero=>intro t p pre V hm;exact absurd (dQ t) (by omega)
 | succ m ih=>
  intro t p pre V hm hpre hta hck hj hpl hb1;have hfn:∀ f,Fence.wide.fn f:=fun _=>trivial;have IH:=aC ih;have HL:=aC hL;have HPRE:=aC hpre;have HTA:=aC hta;have HM:=aC hm;have hlen:=hL pre V hj;obtain⟨q,cap,hkv,hk1,hk2,hk3⟩:=hta.node.k.slice;injection hkv with hkq hkl hkc;subst hkq;have HKL:=aC hkl;have HK3:=aC hk3;have hkm:t.ks.length<=9223372036854775807:=hk1;clear hkl hkc hk3 hk1;have B1:Hid (wBl V (V.alloc (.cells (nDf t.f) 25))):=bz9;have N1:Hid (BoxN (V.alloc (.cells (nDf t.f) 25)) V.heap.size t.f):=aE V _;have J1:Hid (J pre (V.alloc (.cells (nDf t.f) 25))):=hJ.alloc _ hj;have C1:Hid (CK w0 (V.alloc (.cells (nDf t.f) 25))):=hck.trans (CK.of_below B1.o);have Hb1:=aC hb1;clear ih hL hpre hta hm hj hck hb1;refine callsIn_of_wp Tryz.func100 rfl trivial ?_ rfl;simp only [Tryz.ntmps100,aBK,o5,List.length_nil,Nat.reduceAdd,Nat.reduceSub,aBQ,aBV,aCA,aBW,aAO,aAF];have cs:=N1.o.six;obtain⟨fn,tmps,assign,body,hy,hR⟩:=hY pre (p,t) _ J1.o (jN HPRE.o aCM);simp only [uL] at hy;obtain⟨c0,c1,c2,c3,c4,c5⟩:=cs;simp only [m9] at c1 c2 c3 c4 c5
  gi_wp2
  refine⟨(fun z=>by cases z),hR.mono ?_⟩;rintro e W3 ⟨-,(⟨rfl,hJ3,hk3⟩ | ⟨rfl,hJx3⟩)⟩
  ·have cc5:W3.cell? (aDr V.heap.size 5)=some (.slice t.f.kq t.f.kl t.f.kc):=dI hk3 (p:=(aDr V.heap.size 5)) (.inr Hb1.o) c5;have J3:=aC hJ3;have C3:Hid (CK w0 W3):=C1.o.step ⟨hk3.size,fun i cur ty fr hi hc=>hk3.same i cur ty fr (.inl hi) hc⟩;have S3:Hid (b1<=W3.heap.size):=m8 Hb1.o (m8 B1.o.size hk3.size);rw [HKL.o] at cc5;clear hJ3 hk3 hy hR c0 c1 c2 c3 c4 c5 J1 C1 N1 B1
   gi_wp2
   gi_loopw [17] (fun i wr=>∃ j:Nat,j<=t.ks.length/\i=.I (j:Int)/\J (pre++(p,t) :: pps t p 0 (t.ks.take j)) wr/\CK w0 wr/\b1<=wr.heap.size) (fun i _=>t.ks.length-(intOf i).toNat)
   case atStart=>exact⟨0,o9 _,rfl,by rw [v9,cP];exact J3.o,C3.o,S3.o⟩
   case round=>
    clear J3 C3 S3 cc5;obtain⟨j,hj,rfl,hj1,hj2,hj3⟩:=hrel;have HJ:=aC hj1;have HC:=aC hj2;have HS:=aC hj3;clear hj1 hj2 hj3;by_cases hjl:j<t.ks.length
    ·have e0:(j:Int)<(t.ks.length:Int):=by omega
     obtain⟨u,hu⟩:∃ u,t.ks[j]?=some u:=⟨_,i9 hjl⟩;obtain⟨g,off,hq,hg,hsix⟩:=HK3.o j u hu;rw [hq];have HU:=aC hu;have hin:u∈t.ks:=n7 hu;obtain⟨c0,c1,c2,c3,c4,c5⟩:=hsix.ck HC.o hg;have B4:Hid (wBl wr (wr.alloc (.cells (nDf u.f) 25))):=bz9;have N4:Hid (BoxN (wr.alloc (.cells (nDf u.f) 25)) wr.heap.size u.f):=aE wr _;obtain⟨d0,d1,d2,d3,d4,d5⟩:=N4.o.six;simp only [m9] at d1 d2 d3 d4 d5;have hj1:=HL.o _ _ HJ.o;have IHU:=aC (IH.o u ((t,j) :: p) (pre++(p,t) :: pps t p 0 (t.ks.take j)) (wr.alloc (.cells (nDf u.f) 25)) (by have:=cK hin;have:=HM.o;omega)
      (by rw [aAM,aAF,<- lG hu];exact jN HPRE.o (wU _)) (HTA.o.kid hin) (HC.o.trans (CK.of_below B4.o)) (hJ.alloc _ HJ.o) (by simp;omega) (m8 HS.o B4.o.size))
     have e1:((((t,j) :: p).length:Nat):Int)+1=((p.length:Int)+1)+1:=(by simp);rw [e1] at IHU;clear hsix hu
     gi_wp2
     refine⟨(fun z=>by cases z),(callsIn_wide.2 (callsIn_wide.1 IHU.o)).mono ?_⟩;rintro e W5 ⟨r5,rfl,h5⟩;have H5:=aC h5;clear h5 c0 c1 c2 c3 c4 c5 d0 d1 d2 d3 d4 d5 IHU N4 B4
     cases r5 with
     | true=>
      rcases H5.o with⟨-,h51,h52,h53⟩ | ⟨z,-⟩
      ·have HN:Hid (J (pre++(p,t) :: pps t p 0 (t.ks.take (j+1))) W5):=(by rw [lG HU.o,<- aAF,<- aAM];exact h51);have H52:=aC h52;have H53:=aC h53;clear h51 h52 h53 H5
       gi_wp2
       go_roundw
       case rel=>exact⟨j+1,by omega,by go_num,HN.o,H52.o,H53.o⟩
       case measure=>simp only [intOf];omega
      ·cases z
     | false=>
      rcases H5.o with⟨z,-⟩ | ⟨-,pre',h51,h52⟩
      ·cases z
      ·have HN:=aC (⟨pre',h51,h52⟩:∃ pre',pre' <+: L/\Jx pre' W5);clear H5 h51 h52
       gi_wp2
       go_ret;exact⟨false,rfl,.inr ⟨rfl,HN.o⟩⟩
    ·have e0:¬ (j:Int)<(t.ks.length:Int):=by omega
     have HN:Hid (J (pre++pp p t) wr):=(by rw [cM,show t.ks=t.ks.take j by rw [n8 (by omega)]];exact HJ.o)
     gi_wp2
     go_ret;exact⟨true,rfl,.inl ⟨rfl,HN.o,HC.o,HS.o⟩⟩
  ·have HN:=aC hJx3;clear hJx3
   gi_wp2
   go_ret;exact⟨false,rfl,.inr ⟨rfl,_,jN HPRE.o aCM,HN.o⟩⟩
theorem aK6(f:Fl)(w:World) :
  Calls Tryz.prog 76 #[.agg (nDf f)] w fun e w'=>e=.returned (.func (.func 99) #[] #[.pointer (some (aDr w.heap.size 0))])/\w'=w.alloc (.cells (nDf f) 25):=by
 go_enter Tryz.func76,Tryz.ntmps76;go_wp2;go_ret;exact⟨rfl,rfl⟩
def tQ(t:Tr)(pre:List El)(x:El)(_:World):Prop:=pre++[x] <+: pp [] t
theorem zD(n:Nat){w0 w:World}{b:Nat}{t:Tr}(hB:BoxN w b t.f)(hta:TB w0 t)(hck:CK w0 w) :
  bQ1 n Tryz.prog 99 #[.pointer (some (aDr b 0))] uL (Nn w0.heap.size w.heap.size) (tQ t) (fun xs=>xs=pp [] t) (fun pre=>pre <+: pp [] t) w:=by
 intro l J Jx V hV hJ hJx hb hY h0;have hfn:∀ f,Fence.wide.fn f:=fun _=>trivial;have D:=aC (bW0 (w0:=w0) (L:=pp [] t) (b1:=w.heap.size) (Jx:=Jx) hJ n hb (fun pre x V=>hY pre x V) t.sz t [] [] V lz9 (by rw [aAO];exact List.prefix_refl _) hta (hck.step ⟨hV.size,fun k _ _ _ _ hc=>(hV.block k (aB hc)).trans hc⟩) h0 lz9 hV.size);have HB:Hid (BoxN V b t.f):=(hV.block _ (aB hB)).trans hB;obtain⟨c0,c1,c2,c3,c4,c5⟩:=HB.o.six;simp only [m9] at c1 c2 c3 c4 c5;clear hJ hJx hb hY h0 hB hta hck hV;refine callsIn_of_wp Tryz.func99 rfl trivial ?_ rfl;simp only [Tryz.ntmps99,aBK,o5,List.length_nil,Nat.reduceAdd,Nat.reduceSub,aBQ,aBV,aCA,aBW,aAO,aAF]
 gi_wp2
 refine⟨(fun z=>by cases z),(callsIn_wide.2 (callsIn_wide.1 D.o)).mono ?_⟩;rintro e W5 ⟨r5,rfl,h5⟩;have H5:=aC h5;clear h5 D
 gi_wp2
 go_end0
 refine⟨⟨_,rfl⟩,?_⟩;rcases H5.o with⟨-,h51,-,-⟩ | ⟨-,pre',h51,h52⟩
 ·exact .inl ⟨_,rfl,by rw [aAO] at h51;exact h51⟩
 ·exact .inr ⟨pre',h51,h52⟩
theorem bE7{w0 W W':World}{B:Nat}{row:Option Nat}(h:CK w0 W)(hg:W.grownBy W' row)(hr:∀ r,row=some r->B<=r/\∃ o:Obj,W.heap[r]?=some o/\o.isCells=false):CK w0 W':=
 ⟨m8 h.size hg.size,fun k cur t fr hk hc=>cU hg hr (h.same k cur t fr hk hc)⟩
def fN(a:Act)(q d:Nat)(x:El):Act:={ tmps:=(a.tmps.setIfInBounds q (.I ((x.1.length:Int)+1))).setIfInBounds d (.agg (nDf x.2.f)),defers:=[] }
def fV(a:Act)(D:Nat):Act:={ a with defers:={ target:=.collected D,args:=#[] } :: a.defers }
theorem bT0{g:Operand}{ps:Array Tmp}{assign body:Code}{Q:Exit->Act->World->Prop}{a:Act}{w:World}{n:Nat}(hn:1<=n)(q d:Nat)(b:Nat){w0:World}{t:Tr}
  (hg:a.eval g=.func (.func 99) #[] #[.pointer (some (aDr b 0))]) (hps:ps=#[q,d]) (hB:BoxN w b t.f) (hta:TB w0 t) (hck:CK w0 w)
  (I:List El->World->Prop) (Ix:Code->List El->World->Prop) (hI:OwnFrom w.heap.size I) (hIx:∀ c,OwnFrom w.heap.size (Ix c)) (hbd:∀ pre W,I pre W->pre.length<=1000000) (h0:I [] w)
  (Ax:Act->El->Act->World->Prop) (hAx:∀ y x a',OwnFrom w.heap.size (fun (_:Unit) W=>Ax y x a' W))
  (hassign:∀ (l:Nat) (pre:List El) (x:El) (W:World) (K:Act->World->Prop),I pre W->CK w0 W->w.heap.size<=W.heap.size->tQ t pre x W->(∀ a' W',wBl W W'->Ax (fN a q d x) x a' W'->K a' W') ->
   assign.wpIn (Fence.wide.inRound l) (n-1-1) Tryz.prog (Exit.then K (fun _ _ _=>False)) (fN a q d x) W)
  (hbody:∀ (l:Nat) (pre:List El) (x:El) (a':Act) (V:World),I pre V->CK w0 V->w.heap.size<=V.heap.size->tQ t pre x V->Ax (fN a q d x) x a' V->body.wpIn (Fence.wide.inRound l) (n-1-1) Tryz.prog (ownPostG w.heap.size (CKeep (Nn w0.heap.size w.heap.size)) I Ix (pre++[x]) V) a' V)
  (hdone:∀ (D:Nat) (V:World),w.heap.size<=D->I (pp [] t) V->CK w0 V->V.heap[D]?=some (.deferred (some []))->Q .normal (fV a D) V)
  (hstop:∀ (D:Nat) (c:Code) (pre:List El) (V:World),w.heap.size<=D->pre <+: pp [] t->Ix c pre V->V.heap[D]?=some (.deferred (some []))->c.wpIn Fence.wide n Tryz.prog Q (fV a D) V) :
  (Code.rangeFunc g ps assign body).wpIn Fence.wide n Tryz.prog Q a w:=by
 subst hps;refine aE1 (α:=El) hn (gf:=99) hg (enters_of Tryz.func99 (by kernel_rfl) rfl) (encs:=uL) (fun _=>rfl)
  (zD (n-1) hB hta hck) (fun pre V=>I pre V/\CK w0 V/\w.heap.size<=V.heap.size) Ix ?_ hIx (fun pre x _ _ _ _ h _ _=>h) (fun pre W h=>hbd pre W h.1) ⟨h0,hck,t9 _⟩ (fun x=>Ax (fN a q d x) x) (fun x=>hAx _ x) ?_ ?_ ?_ hstop
 ·intro pre A A' row hi hg hr;exact⟨hI pre A A' row hi.1 hg hr,bE7 hi.2.1 hg hr,m8 hi.2.2 hg.size⟩
 ·intro l pre x V K hi ht hK;have:=hassign l pre x V K hi.1 hi.2.1 hi.2.2 ht hK;simpa [uL,fN] using this
 ·intro l pre x a' V hi ht hax;refine wpIn_mono (hbody l pre x a' V hi.1 hi.2.1 hi.2.2 ht hax) fun e a3 W3 hp=>?_
  cases e with
  | normal=>exact⟨hp.1,hp.2.1,hp.2.2,hi.2.1.step ⟨hp.2.1.size,fun k cur ty fr hk hc=>hp.2.1.same k cur ty fr (.inl hk) hc⟩,m8 hi.2.2 hp.1.size⟩
  | ret=>exact hp
  | exit id=>exact hp
  | goto t=>exact hp
  | panic ch=>exact hp
  | outgrown=>exact hp
 ·rintro D xs V hD rfl hi hK;exact hdone D V hD hi.1 hi.2.1 hK
end
section
open Go Go.RowKit Go.Shelf
def aH7{α:Type}(n:Nat)(P:Program)(gf:Nat)(lb:Array Value)(encs:α->Array Value)(Kp:α->World->World->Prop)(Told:List α->α->World->Prop)(S Sp:List α->Prop)(w:World):Prop:=
 ∀ (l:Nat) (J Jx:List α->World->Prop) (W:World),wBl w W->OwnFrom W.heap.size J->OwnFrom W.heap.size Jx->(∀ pre V,J pre V->pre.length<=1000000) ->
  (∀ pre x V,J pre V->Told pre x V->YieldAt Fence.wide (n-1) P l (encs x) V fun e V'=>KeepsFrom W.heap.size V V'/\((e=.returned (.bool true)/\J (pre++[x]) V'/\Kp x V V')\/(e=.returned (.bool false)/\Jx (pre++[x]) V'))) ->
  J [] W->CallsIn Fence.wide n P gf (#[.func (.yield l) #[] #[]]++lb) W fun e V=>(∃ v,e=.returned v)/\((∃ xs,S xs/\J xs V)\/(∃ pre,Sp pre/\Jx pre V))
section
variable {α:Type} {P:Program}
theorem yS{D:Nat}{Kp:World->World->Prop}{r:Loop}{I:List α->World->Prop}{Ix:Code->List α->World->Prop}{xs:List α}{V W W3:World}{e:Exit}{a3:Act}
  (hKt:∀ {A B C:World},Kp A B->Kp B C->Kp A C) (hKp:∀ {W:World} {l:Nat} {o:Obj} (o':Obj),W.heap[l]?=some o->o.isCells=false->Kp W (W.putObj l o')) (hI:OwnFrom D I) (hIx:∀ c,OwnFrom D (Ix c)) (hr:Rc D { r with state:=.busy } W)
  (hv:KeepsFrom (D+2) V W) (hp:ownPostG D (fun _ W'=>Kp V W') I Ix xs W e a3 W3):roundPost P (D+1) (fun e V'=>KeepsFrom (D+2) V V'/\((e=.returned (.bool true)/\(I xs V'/\Rc D { r with state:=.ready,pending:=none } V')/\Kp V V')\/(e=.returned (.bool false)/\∃ c,Ix c xs V'/\Rc D { r with state:=.done,pending:=some c } V'))) e a3 W3:=by
 have out:∀ c:Code,KeepsFrom D W W3->Ix c xs W3->∃ v V',(Instr.endRound (D+1) (some c)).run P W3=.ok v V'/\(KeepsFrom (D+2) V V'/\((Ending.returned v=.returned (.bool true)/\(I xs V'/\Rc D { r with state:=.ready,pending:=none } V')/\Kp V V')\/(Ending.returned v=.returned (.bool false)/\∃ c,Ix c xs V'/\Rc D { r with state:=.done,pending:=some c } V'))):=fun c hk hi=>by
  have h3:=hr.from hk;exact⟨_,_,run_endRound (some c) h3.1,(hv.trans (oV hk (by omega))).trans (iE _ _ (by omega)),.inr ⟨rfl,c,(hIx c).putObj _ hi (by omega) h3.1 rfl,h3.put _⟩⟩
 cases e with
 | normal=>
  obtain⟨hk,hkp,hi⟩:=hp;have h3:=hr.from hk;exact⟨_,_,run_endRound none h3.1,(hv.trans (oV hk (by omega))).trans (iE _ _ (by omega)),.inl ⟨rfl,⟨hI.putObj _ hi (by omega) h3.1 rfl,h3.put _⟩,hKt hkp (hKp _ h3.1 rfl)⟩⟩
 | ret=>exact out .ret hp.1 hp.2
 | exit id=>exact out (.exit id) hp.1 hp.2
 | goto t=>exact out (.goto t) hp.1 hp.2
 | panic ch=>exact hp.elim
 | outgrown=>exact hp.elim
theorem qQ{g:Operand}{ps:Array Tmp}{assign body:Code}{Q:Exit->Act->World->Prop}{a:Act}{w:World}{n:Nat}(h1:1<=n){gf:Nat}{lb:Array Value}
  (hg:a.eval g=.func (.func gf) #[] lb) (eg:∀ args w,(callFunc gf args).run P w=.ok (.enter gf args) w) {encs:α->Array Value} (hps:∀ x,(encs x).size=ps.size)
  {Kp:α->World->World->Prop} {Told:List α->α->World->Prop} {S Sp:List α->Prop} (hKt:∀ {x:α} {A B C:World},Kp x A B->Kp x B C->Kp x A C) (hKp:∀ {x:α} {W:World} {l:Nat} {o:Obj} (o':Obj),W.heap[l]?=some o->o.isCells=false->Kp x W (W.putObj l o')) (hKb:∀ {x:α} {W W':World},wBl W W'->Kp x W W') (hseq:aH7 (n-1) P gf lb encs Kp Told S Sp w)
  (I:List α->World->Prop) (Ix:Code->List α->World->Prop) (hI:OwnFrom w.heap.size I) (hIx:∀ c,OwnFrom w.heap.size (Ix c)) (hT:∀ pre x,OwnFrom w.heap.size (fun (_:Unit) W=>Told pre x W)) (hbd:∀ pre W,I pre W->pre.length<=1000000) (h0:I [] w) (Ax:Nat->α->Act->World->Prop) (hAx:∀ s x a',OwnFrom w.heap.size (fun (_:Unit) W=>Ax s x a' W))
  (hassign:∀ (l:Nat) (pre:List α) (x:α) (W:World) (K:Act->World->Prop),I pre W->Told pre x W->(∀ a' W',wBl W W'->Ax W.heap.size x a' W'->K a' W') ->
   assign.wpIn (Fence.wide.inRound l) (n-1-1) P (Exit.then K (fun _ _ _=>False)) { tmps:=(ps.zip (encs x)).foldl (fun t (p,v)=>t.setIfInBounds p v) a.tmps,defers:=[] } W)
  (hbody:∀ (l:Nat) (pre:List α) (x:α) (a':Act) (V0 W:World),I pre W->Told pre x W->Ax V0.heap.size x a' W->Kp x V0 W->V0.heap.size<=W.heap.size->body.wpIn (Fence.wide.inRound l) (n-1-1) P (ownPostG w.heap.size (fun _ W'=>Kp x V0 W') I Ix (pre++[x]) W) a' W)
  (hdone:∀ (D:Nat) (xs:List α) (W:World),w.heap.size<=D->S xs->I xs W->W.heap[D]?=some (.deferred (some []))->Q .normal { a with defers:={ target:=.collected D,args:=#[] } :: a.defers } W)
  (hstop:∀ (D:Nat) (c:Code) (pre:List α) (W:World),w.heap.size<=D->Sp pre->Ix c pre W->W.heap[D]?=some (.deferred (some []))->c.wpIn Fence.wide n P Q { a with defers:={ target:=.collected D,args:=#[] } :: a.defers } W) :
  (Code.rangeFunc g ps assign body).wpIn Fence.wide n P Q a w:=by
 refine wpIn_rangeFunc fun fn hfn=>?_
 let r:Loop:={ state:=.ready,pending:=none,fn:=fn,tmps:=a.tmps,params:=ps,assign:=assign,body:=body,defers:=w.heap.size }
 have hB:wBl w ((w.alloc (.deferred (some []))).alloc (.loop r)):=(bz9).alloc (by simp) _;have hz:((w.alloc (.deferred (some []))).alloc (.loop r)).heap.size=w.heap.size+2:=by simp
 have hR:Rc w.heap.size r ((w.alloc (.deferred (some []))).alloc (.loop r)):=by
  refine⟨?_,(Below.heap_alloc _ _ _ (by simp)).trans (World.alloc_heap_new w _)⟩;have:=World.alloc_heap_new (w.alloc (.deferred (some []))) (.loop r);rwa [f4] at this
 refine⟨w.heap.size+1,[{ target:=.collected w.heap.size,args:=#[] }],((w.alloc (.deferred (some []))).alloc (.loop r)),{ target:=.fn (.func gf) lb,args:=#[.func (.yield (w.heap.size+1)) #[] #[]] },((w.alloc (.deferred (some []))).alloc (.loop r)),gf,#[.func (.yield (w.heap.size+1)) #[] #[]]++lb,((w.alloc (.deferred (some []))).alloc (.loop r)),
  run_enterLoop_outer _ _ _ _ _,?_,fun _ _=>trivial,?_,fun _=>h1,?_⟩
 ·simp only [resolve,hg];simp [go_sem]
 ·simp [invoke,go_sem,eg]
 ·refine(hseq (w.heap.size+1) (fun pre W=>I pre W/\Rc w.heap.size r W) (fun pre W=>∃ c,Ix c pre W/\Rc w.heap.size { r with state:=.done,pending:=some c } W) _ hB
   ?_ ?_ (fun pre V h=>hbd pre V h.1) ?_ ⟨hI.alloc _ (hI.alloc _ h0),hR⟩).mono ?_
  ·rw [hz];exact(kG hI (by omega)).and (wP _)
  ·rw [hz];rintro pre A B row ⟨c,hi,hr⟩ hg hrow;exact⟨c,kG (hIx c) (by omega) pre A B row hi hg hrow,wP (β:=Unit) _ () A B row hr hg hrow⟩
  ·rw [hz];rintro pre x V ⟨hi,hr⟩ ht;refine⟨fn,_,assign,body,run_yield hr.1 (hps x),roundIn_of_wpIn hfn (hassign _ pre x V _ hi ht ?_)⟩;intro a' W' hb hax;have hr':=hr.below hb;refine⟨_,run_beginRound hr'.1 rfl,?_⟩;have hr2:Rc w.heap.size { r with state:=.busy } (W'.putObj (w.heap.size+1) (.loop { r with state:=.busy })):=hr'.put _;exact wpIn_mono (hbody _ pre x a' V _ (hI.putObj _ (eX hI hi hb) (by omega) hr'.1 rfl) ((hT pre x).putObj (s:=()) _ (eX (hT pre x) (s:=()) ht hb) (by omega) hr'.1 rfl) ((hAx _ x a').putObj (s:=()) _ hax (by omega) hr'.1 rfl) (hKt (hKb hb) (hKp _ hr'.1 rfl)) (m8 hb.size (grownBy_putObj' _ _ _).size)) fun e a3 W3 hp=>
    yS (r:=r) (Kp:=Kp x) hKt hKp hI hIx hr2 ((lK hb).trans (iE _ _ (by omega))) hp
  ·rintro e V ⟨⟨v,rfl⟩,(⟨xs,hS,hi,hr⟩ | ⟨pre,hSp,c,hi,hr⟩)⟩
   ·exact⟨none,_,run_endLoop hr.1 (by simp [r]),hdone _ xs _ lz9 hS (hI.putObj _ hi (by omega) hr.1 rfl) ((World.putObj_heap_other (by omega)).trans hr.2)⟩
   ·exact⟨some c,_,run_endLoop hr.1 (by simp),hstop _ c pre _ lz9 hSp ((hIx c).putObj _ hi (by omega) hr.1 rfl) ((World.putObj_heap_other (by omega)).trans hr.2)⟩
end
theorem bN3{w0:World}{L:List El}{l b1:Nat}{J Jx:List El->World->Prop}{B:Nat}{Kp:World->World->Prop}(hK1:∀ {V V':World},Kp V V'->CKeep (fun k=>k<w0.heap.size) V V')(hK2:∀ {V V':World} {k:Nat} {f:Fl},Kp V V'->b1<=k->BoxN V k f->BoxN V' k f)(hJ:OwnFrom B J)(n:Nat)(hL:∀ pre V,J pre V->pre.length<=1000000)
  (hY:∀ pre x V,J pre V->pre++[x] <+: L->YieldAt Fence.wide (n-1) Tryz.prog l (uL x) V fun e V'=>KeepsFrom B V V'/\((e=.returned (.bool true)/\J (pre++[x]) V'/\Kp V V')\/(e=.returned (.bool false)/\Jx (pre++[x]) V'))) :
  ∀ (m:Nat) (t:Tr) (p:Way) (pre:List El) (V:World),t.sz<=m->pre++pp p t <+: L->TB w0 t->CK w0 V->J pre V->p.length<=pre.length->b1<=V.heap.size ->
   CallsIn Fence.wide n Tryz.prog 100 #[.agg (nDf t.f),.I ((p.length:Int)+1),.func (.yield l) #[] #[]] V (aB5 w0 b1 L J Jx (pre++pp p t)):=by
 intro m
 induction m with
 | zero=>intro t p pre V hm;exact absurd (dQ t) (by omega)
 | succ m ih=>
  intro t p pre V hm hpre hta hck hj hpl hb1;have hfn:∀ f,Fence.wide.fn f:=fun _=>trivial;have IH:=aC ih;have HL:=aC hL;have HPRE:=aC hpre;have HTA:=aC hta;have HM:=aC hm;have hlen:=hL pre V hj;obtain⟨q,cap,hkv,hk1,hk2,hk3⟩:=hta.node.k.slice;injection hkv with hkq hkl hkc;subst hkq;have HKL:=aC hkl;have HK3:=aC hk3;have hkm:t.ks.length<=9223372036854775807:=hk1;clear hkl hkc hk3 hk1;have B1:Hid (wBl V (V.alloc (.cells (nDf t.f) 25))):=bz9;have N1:Hid (BoxN (V.alloc (.cells (nDf t.f) 25)) V.heap.size t.f):=aE V _;have J1:Hid (J pre (V.alloc (.cells (nDf t.f) 25))):=hJ.alloc _ hj;have C1:Hid (CK w0 (V.alloc (.cells (nDf t.f) 25))):=hck.trans (CK.of_below B1.o);have Hb1:=aC hb1;clear ih hL hpre hta hm hj hck hb1;refine callsIn_of_wp Tryz.func100 rfl trivial ?_ rfl;simp only [Tryz.ntmps100,aBK,o5,List.length_nil,Nat.reduceAdd,Nat.reduceSub,aBQ,aBV,aCA,aBW,aAO,aAF];have cs:=N1.o.six;obtain⟨fn,tmps,assign,body,hy,hR⟩:=hY pre (p,t) _ J1.o (jN HPRE.o aCM);simp only [uL] at hy;obtain⟨c0,c1,c2,c3,c4,c5⟩:=cs;simp only [m9] at c1 c2 c3 c4 c5
  gi_wp2
  refine⟨(fun z=>by cases z),hR.mono ?_⟩;rintro e W3 ⟨-,(⟨rfl,hJ3,hk3⟩ | ⟨rfl,hJx3⟩)⟩
  ·have cc5:W3.cell? (aDr V.heap.size 5)=some (.slice t.f.kq t.f.kl t.f.kc):=(hK2 hk3 Hb1.o N1.o).six.2.2.2.2.2;have J3:=aC hJ3;have C3:Hid (CK w0 W3):=C1.o.step (hK1 hk3);have S3:Hid (b1<=W3.heap.size):=m8 Hb1.o (m8 B1.o.size (hK1 hk3).size);rw [HKL.o] at cc5;clear hJ3 hk3 hy hR c0 c1 c2 c3 c4 c5 J1 C1 N1 B1
   gi_wp2
   gi_loopw [17] (fun i wr=>∃ j:Nat,j<=t.ks.length/\i=.I (j:Int)/\J (pre++(p,t) :: pps t p 0 (t.ks.take j)) wr/\CK w0 wr/\b1<=wr.heap.size) (fun i _=>t.ks.length-(intOf i).toNat)
   case atStart=>exact⟨0,o9 _,rfl,by rw [v9,cP];exact J3.o,C3.o,S3.o⟩
   case round=>
    clear J3 C3 S3 cc5;obtain⟨j,hj,rfl,hj1,hj2,hj3⟩:=hrel;have HJ:=aC hj1;have HC:=aC hj2;have HS:=aC hj3;clear hj1 hj2 hj3;by_cases hjl:j<t.ks.length
    ·have e0:(j:Int)<(t.ks.length:Int):=by omega
     obtain⟨u,hu⟩:∃ u,t.ks[j]?=some u:=⟨_,i9 hjl⟩;obtain⟨g,off,hq,hg,hsix⟩:=HK3.o j u hu;rw [hq];have HU:=aC hu;have hin:u∈t.ks:=n7 hu;obtain⟨c0,c1,c2,c3,c4,c5⟩:=hsix.ck HC.o hg;have B4:Hid (wBl wr (wr.alloc (.cells (nDf u.f) 25))):=bz9;have N4:Hid (BoxN (wr.alloc (.cells (nDf u.f) 25)) wr.heap.size u.f):=aE wr _;obtain⟨d0,d1,d2,d3,d4,d5⟩:=N4.o.six;simp only [m9] at d1 d2 d3 d4 d5;have hj1:=HL.o _ _ HJ.o;have IHU:=aC (IH.o u ((t,j) :: p) (pre++(p,t) :: pps t p 0 (t.ks.take j)) (wr.alloc (.cells (nDf u.f) 25)) (by have:=cK hin;have:=HM.o;omega)
      (by rw [aAM,aAF,<- lG hu];exact jN HPRE.o (wU _)) (HTA.o.kid hin) (HC.o.trans (CK.of_below B4.o)) (hJ.alloc _ HJ.o) (by simp;omega) (m8 HS.o B4.o.size))
     have e1:((((t,j) :: p).length:Nat):Int)+1=((p.length:Int)+1)+1:=(by simp);rw [e1] at IHU;clear hsix hu
     gi_wp2
     refine⟨(fun z=>by cases z),(callsIn_wide.2 (callsIn_wide.1 IHU.o)).mono ?_⟩;rintro e W5 ⟨r5,rfl,h5⟩;have H5:=aC h5;clear h5 c0 c1 c2 c3 c4 c5 d0 d1 d2 d3 d4 d5 IHU N4 B4
     cases r5 with
     | true=>
      rcases H5.o with⟨-,h51,h52,h53⟩ | ⟨z,-⟩
      ·have HN:Hid (J (pre++(p,t) :: pps t p 0 (t.ks.take (j+1))) W5):=(by rw [lG HU.o,<- aAF,<- aAM];exact h51);have H52:=aC h52;have H53:=aC h53;clear h51 h52 h53 H5
       gi_wp2
       go_roundw
       case rel=>exact⟨j+1,by omega,by go_num,HN.o,H52.o,H53.o⟩
       case measure=>simp only [intOf];omega
      ·cases z
     | false=>
      rcases H5.o with⟨z,-⟩ | ⟨-,pre',h51,h52⟩
      ·cases z
      ·have HN:=aC (⟨pre',h51,h52⟩:∃ pre',pre' <+: L/\Jx pre' W5);clear H5 h51 h52
       gi_wp2
       go_ret;exact⟨false,rfl,.inr ⟨rfl,HN.o⟩⟩
    ·have e0:¬ (j:Int)<(t.ks.length:Int):=by omega
     have HN:Hid (J (pre++pp p t) wr):=(by rw [cM,show t.ks=t.ks.take j by rw [n8 (by omega)]];exact HJ.o)
     gi_wp2
     go_ret;exact⟨true,rfl,.inl ⟨rfl,HN.o,HC.o,HS.o⟩⟩
  ·have HN:=aC hJx3;clear hJx3
   gi_wp2
   go_ret;exact⟨false,rfl,.inr ⟨rfl,_,jN HPRE.o aCM,HN.o⟩⟩
theorem wX(n:Nat){w0 w:World}{b:Nat}{t:Tr}(hB:BoxN w b t.f)(hta:TB w0 t)(hck:CK w0 w){Kp:World->World->Prop}(hK1:∀ {V V':World},Kp V V'->CKeep (fun k=>k<w0.heap.size) V V')(hK2:∀ {V V':World} {k:Nat} {f:Fl},Kp V V'->w.heap.size<=k->BoxN V k f->BoxN V' k f) :
  aH7 n Tryz.prog 99 #[.pointer (some (aDr b 0))] uL (fun _=>Kp) (tQ t) (fun xs=>xs=pp [] t) (fun pre=>pre <+: pp [] t) w:=by
 intro l J Jx V hV hJ hJx hb hY h0;have hfn:∀ f,Fence.wide.fn f:=fun _=>trivial;have D:=aC (bN3 (w0:=w0) (L:=pp [] t) (b1:=w.heap.size) (Jx:=Jx) (Kp:=Kp) hK1 hK2 hJ n hb (fun pre x V=>hY pre x V) t.sz t [] [] V lz9 (by rw [aAO];exact List.prefix_refl _) hta (hck.step ⟨hV.size,fun k _ _ _ _ hc=>(hV.block k (aB hc)).trans hc⟩) h0 lz9 hV.size);have HB:Hid (BoxN V b t.f):=(hV.block _ (aB hB)).trans hB;obtain⟨c0,c1,c2,c3,c4,c5⟩:=HB.o.six;simp only [m9] at c1 c2 c3 c4 c5;clear hJ hJx hb hY h0 hB hta hck hV;refine callsIn_of_wp Tryz.func99 rfl trivial ?_ rfl;simp only [Tryz.ntmps99,aBK,o5,List.length_nil,Nat.reduceAdd,Nat.reduceSub,aBQ,aBV,aCA,aBW,aAO,aAF]
 gi_wp2
 refine⟨(fun z=>by cases z),(callsIn_wide.2 (callsIn_wide.1 D.o)).mono ?_⟩;rintro e W5 ⟨r5,rfl,h5⟩;have H5:=aC h5;clear h5 D
 gi_wp2
 go_end0
 refine⟨⟨_,rfl⟩,?_⟩;rcases H5.o with⟨-,h51,-,-⟩ | ⟨-,pre',h51,h52⟩
 ·exact .inl ⟨_,rfl,by rw [aAO] at h51;exact h51⟩
 ·exact .inr ⟨pre',h51,h52⟩
theorem bK6{g:Operand}{ps:Array Tmp}{assign body:Code}{Q:Exit->Act->World->Prop}{a:Act}{w:World}{n:Nat}(hn:1<=n)(q d:Nat)(b:Nat){w0:World}{t:Tr}
  (hg:a.eval g=.func (.func 99) #[] #[.pointer (some (aDr b 0))]) (hps:ps=#[q,d]) (hB:BoxN w b t.f) (hta:TB w0 t) (hck:CK w0 w) {Kp:World->World->Prop} (hKt:∀ {A B C:World},Kp A B->Kp B C->Kp A C) (hKp:∀ {W:World} {l:Nat} {o:Obj} (o':Obj),W.heap[l]?=some o->o.isCells=false->Kp W (W.putObj l o')) (hKb:∀ {W W':World},wBl W W'->Kp W W') (hK1:∀ {V V':World},Kp V V'->CKeep (fun k=>k<w0.heap.size) V V') (hK2:∀ {V V':World} {k:Nat} {f:Fl},Kp V V'->w.heap.size<=k->BoxN V k f->BoxN V' k f)
  (I:List El->World->Prop) (Ix:Code->List El->World->Prop) (hI:OwnFrom w.heap.size I) (hIx:∀ c,OwnFrom w.heap.size (Ix c)) (hbd:∀ pre W,I pre W->pre.length<=1000000) (h0:I [] w)
  (Ax:Nat->Act->El->Act->World->Prop) (hAx:∀ s y x a',OwnFrom w.heap.size (fun (_:Unit) W=>Ax s y x a' W))
  (hassign:∀ (l:Nat) (pre:List El) (x:El) (W:World) (K:Act->World->Prop),I pre W->CK w0 W->w.heap.size<=W.heap.size->tQ t pre x W->(∀ a' W',wBl W W'->Ax W.heap.size (fN a q d x) x a' W'->K a' W') ->
   assign.wpIn (Fence.wide.inRound l) (n-1-1) Tryz.prog (Exit.then K (fun _ _ _=>False)) (fN a q d x) W)
  (hbody:∀ (l:Nat) (pre:List El) (x:El) (a':Act) (V0 V:World),I pre V->CK w0 V->w.heap.size<=V.heap.size->tQ t pre x V->Ax V0.heap.size (fN a q d x) x a' V->Kp V0 V->V0.heap.size<=V.heap.size->body.wpIn (Fence.wide.inRound l) (n-1-1) Tryz.prog (ownPostG w.heap.size (fun _ V'=>Kp V0 V'/\CK w0 V') I Ix (pre++[x]) V) a' V)
  (hdone:∀ (D:Nat) (V:World),w.heap.size<=D->I (pp [] t) V->CK w0 V->V.heap[D]?=some (.deferred (some []))->Q .normal (fV a D) V)
  (hstop:∀ (D:Nat) (c:Code) (pre:List El) (V:World),w.heap.size<=D->pre <+: pp [] t->Ix c pre V->V.heap[D]?=some (.deferred (some []))->c.wpIn Fence.wide n Tryz.prog Q (fV a D) V) :
  (Code.rangeFunc g ps assign body).wpIn Fence.wide n Tryz.prog Q a w:=by
 subst hps;refine qQ (α:=El) (Kp:=fun _=>Kp) (Told:=tQ t) hn (gf:=99) hg (enters_of Tryz.func99 (by kernel_rfl) rfl) (encs:=uL) (fun _=>rfl)
  hKt hKp hKb (wX (n-1) hB hta hck (Kp:=Kp) hK1 hK2) (fun pre V=>I pre V/\CK w0 V/\w.heap.size<=V.heap.size) Ix ?_ hIx (fun pre x _ _ _ _ h _ _=>h) (fun pre W h=>hbd pre W h.1) ⟨h0,hck,t9 _⟩ (fun s x=>Ax s (fN a q d x) x) (fun s x=>hAx s _ x) ?_ ?_ ?_ hstop
 ·intro pre A A' row hi hg hr;exact⟨hI pre A A' row hi.1 hg hr,bE7 hi.2.1 hg hr,m8 hi.2.2 hg.size⟩
 ·intro l pre x V K hi ht hK;have:=hassign l pre x V K hi.1 hi.2.1 hi.2.2 ht hK;simpa [uL,fN] using this
 ·intro l pre x a' V0 V hi ht hax hk0 hs0;refine wpIn_mono (hbody l pre x a' V0 V hi.1 hi.2.1 hi.2.2 ht hax hk0 hs0) fun e a3 W3 hp=>?_
  cases e with
  | normal=>exact⟨hp.1,hp.2.1.1,hp.2.2,hp.2.1.2,m8 hi.2.2 hp.1.size⟩
  | ret=>exact hp
  | exit id=>exact hp
  | goto t=>exact hp
  | panic ch=>exact hp
  | outgrown=>exact hp
 ·rintro D xs V hD rfl hi hK;exact hdone D V hD hi.1 hi.2.1 hK
end
inductive Er where
 | mk (k n mn mx:Int) (rs:lIi) (ks:List Er)
mutual
def er:Tr->Er | .mk f ks=>.mk f.k f.n f.mn f.mx f.rs (ers ks)
def ers:List Tr->List Er | []=>[] | t :: ts=>er t :: ers ts
end
def eL(k:Int):Bool:=decide (1<=k)&&decide (k<=9)
def cA(k:Int):Bool:=k==2||k==7||k==8||k==9
def fI(a b:Int):Bool:=decide (0<=a)&&decide (a<=255)&&(b==-1 ||(decide (a<=b)&&decide (b<=255)))
def iO(k:Int)(n:Nat):Bool:=if k=5\/k=6 then decide (2<=n) else if k=7\/k=9 then n==1 else n==0
theorem zO(k:Int)(w:World):Calls Tryz.prog 127 #[.I k] w fun e w'=>e=.returned (.bool (eL k))/\w'=w:=by
 have hid:∀ b,eL k=b->Calls Tryz.prog 127 #[.I k] w fun e w'=>e=.returned (.bool b)/\w'=w:=by
  intro b hb;by_cases h1:(1:Int)<=k
  ·by_cases h2:k<=9
   ·have e:b=true:=by rw [<- hb];simp [eL,h1,h2]
    subst e;clear hb;go_enter Tryz.func127,Tryz.ntmps127;go_wp2;go_ret;exact⟨rfl,rfl⟩
   ·have e:b=false:=by rw [<- hb];simp [eL,h2]
    subst e;clear hb;go_enter Tryz.func127,Tryz.ntmps127;go_wp2;go_ret;exact⟨rfl,rfl⟩
  ·have e:b=false:=by rw [<- hb];simp [eL,h1]
   subst e;clear hb;go_enter Tryz.func127,Tryz.ntmps127;go_wp2;go_ret;exact⟨rfl,rfl⟩
 exact hid _ rfl
theorem qR(k:Int)(w:World):Calls Tryz.prog 126 #[.I k] w fun e w'=>e=.returned (.bool (cA k))/\w'=w:=by
 have hid:∀ b,cA k=b->Calls Tryz.prog 126 #[.I k] w fun e w'=>e=.returned (.bool b)/\w'=w:=by
  intro b hb;unfold cA at hb;cases h1:(k==2) <;> cases h2:(k==7) <;> cases h3:(k==8) <;> cases h4:(k==9) <;> rw [h1,h2,h3,h4] at hb <;> simp at hb <;> subst hb
  all_goals
   go_enter Tryz.func126,Tryz.ntmps126;go_wp2;go_ret;exact⟨rfl,rfl⟩
 exact hid _ rfl
theorem uI(a b:Int)(w:World):Calls Tryz.prog 129 #[.I a,.I b] w fun e w'=>e=.returned (.bool (fI a b))/\w'=w:=by
 have hid:∀ r,fI a b=r->Calls Tryz.prog 129 #[.I a,.I b] w fun e w'=>e=.returned (.bool r)/\w'=w:=by
  intro r hb;unfold fI at hb;by_cases h1:(0:Int)<=a
  ·by_cases h2:a<=255
   ·cases h3:(b==-1) with
    | true=>
     simp [h1,h2,h3] at hb;subst hb;go_enter Tryz.func129,Tryz.ntmps129;go_wp2;go_ret;exact⟨rfl,rfl⟩
    | false=>
     by_cases h4:a<=b
     ·by_cases h5:b<=255
      ·simp [h1,h2,h3,h4,h5] at hb;subst hb;go_enter Tryz.func129,Tryz.ntmps129;go_wp2;go_ret;exact⟨rfl,rfl⟩
      ·simp [h1,h2,h3,h4,h5] at hb;subst hb;go_enter Tryz.func129,Tryz.ntmps129;go_wp2;go_ret;exact⟨rfl,rfl⟩
     ·simp [h1,h2,h3,h4] at hb;subst hb;go_enter Tryz.func129,Tryz.ntmps129;go_wp2;go_ret;exact⟨rfl,rfl⟩
   ·simp [h1,h2] at hb;subst hb;go_enter Tryz.func129,Tryz.ntmps129;go_wp2;go_ret;exact⟨rfl,rfl⟩
  ·simp [h1] at hb;subst hb;go_enter Tryz.func129,Tryz.ntmps129;go_wp2;go_ret;exact⟨rfl,rfl⟩
 exact hid _ rfl
theorem bG0(n:Nat):((n:Int)==0)=(n==0):=by cases n <;> rfl
theorem bO0(n:Nat):((n:Int)==1)=(n==1):=by rw [aBL];simp;omega
theorem yT(f:Fl)(w:World):Calls Tryz.prog 103 #[.agg (nDf f)] w fun e w'=>e=.returned (.bool (iO f.k f.kl))/\wBl w w':=by
 obtain⟨r,hr⟩:∃ r,iO f.k f.kl=r:=⟨_,rfl⟩;rw [hr];have HR:=aC hr;have B1:Hid (wBl w (w.alloc (.cells (nDf f) 25))):=bz9;have N1:Hid (BoxN (w.alloc (.cells (nDf f) 25)) w.heap.size f):=aE w _;obtain⟨c0,-,-,-,-,c5⟩:=N1.o.six;simp only [m9] at c5;clear hr;cases h5:(f.k==5) <;> cases h6:(f.k==6) <;> cases h7:(f.k==7) <;> cases h9:(f.k==9)
 all_goals
  go_enter Tryz.func103,Tryz.ntmps103;go_wp2;go_ret;refine⟨?_,B1.o⟩;rw [<- HR.o];unfold iO;simp at h5 h6 h7 h9;simp [h5,h6,h7,h9]
  try first | exact bG0 _ | exact bO0 _ | omega
section
open Go Go.RowKit Go.Shelf
attribute [local go_sem] Oper.semAt_some
theorem mQ{n B:Nat}{w W W':World}{row:Option Nat}(h:Below n w W)(hn:n<=w.heap.size)(hB:n<=B)(hg:W.grownBy W' row)(hr:∀ r,row=some r->B<=r/\∃ o:Obj,W.heap[r]?=some o/\o.isCells=false):Below n w W':=
 h.trans ⟨hg.os,hg.tape,hg.output,hg.size,fun k hk=>hg.block k (by have:=h.size;omega) (fun e=>by have:=(hr k e.symm).1;omega)⟩
theorem pP{n:Nat}{w W:World}{D:Nat}(o:Obj)(h:Below n w W)(hD:n<=D):Below n w (W.putObj D o):=
 h.trans ⟨rfl,rfl,rfl,(grownBy_putObj' W D o).size,fun k hk=>World.putObj_heap_other (by omega)⟩
end
structure dV where
 f:Fl
 s:Int
def Seven(W:World)(g o:Nat)(x:dV):Prop:=Six W g o x.f/\W.cell? ⟨g,o+6,none⟩=some (.I x.s)
structure CB(W:World)(b:Nat)(c f:Bool)(ah gr:Int)(A:Nat->dV):Prop where
 blk:∃ cur,W.heap[b]?=some (.cells cur 146 (0,0))
 c0:W.cell? (aDr b 0)=some (.bool c)
 c1:W.cell? (aDr b 1)=some (.bool f)
 c2:W.cell? (aDr b 2)=some (.I ah)
 c3:W.cell? (aDr b 3)=some (.I gr)
 sp:∀ d,d<41->Seven W b (4+d*7) (A d)
theorem CB.lt{W:World}{b:Nat}{c f:Bool}{ah gr:Int}{A:Nat->dV}(h:CB W b c f ah gr A):b<W.heap.size:=by
 obtain⟨cur,h⟩:=h.blk;exact aB h
theorem CB.ck{N:Nat->Prop}{W W':World}{b:Nat}{c f:Bool}{ah gr:Int}{A:Nat->dV}(h:CB W b c f ah gr A)(hk:CKeep N W W')(hb:N b):CB W' b c f ah gr A:=by
 obtain⟨cur,hc⟩:=h.blk;exact⟨⟨cur,hk.same _ _ _ _ hb hc⟩,dI hk (p:=(aDr b 0)) hb h.c0,dI hk (p:=(aDr b 1)) hb h.c1,dI hk (p:=(aDr b 2)) hb h.c2,dI hk (p:=(aDr b 3)) hb h.c3,fun d hd=>⟨(h.sp d hd).1.ck hk hb,dI hk (p:=⟨b,4+d*7+6,none⟩) hb (h.sp d hd).2⟩⟩
theorem CB.kept{W W':World}{b:Nat}{c f:Bool}{ah gr:Int}{A:Nat->dV}(h:CB W b c f ah gr A)(hb:wBl W W'):CB W' b c f ah gr A:=h.ck (CK.of_below hb) h.lt
theorem CB.row{W W':World}{b B:Nat}{c f:Bool}{ah gr:Int}{A:Nat->dV}{row:Option Nat}(h:CB W b c f ah gr A)(hg:W.grownBy W' row)(hr:∀ r,row=some r->B<=r/\∃ o:Obj,W.heap[r]?=some o/\o.isCells=false):CB W' b c f ah gr A:=
 h.ck (N:=fun _=>True) ⟨hg.size,fun _ _ _ _ _ hc=>cU hg hr hc⟩ trivial
theorem bU0{b i j:Nat}(h:i≠j):((aDr b i):Addr)≠(aDr b j):=fun e=>h (by injection e)
theorem aI{W:World}{b i j:Nat}{u v:Value}(h:W.cell? (aDr b i)=some v)(hij:i≠j):(W.setCell (aDr b j) u).cell? (aDr b i)=some v:=by
 rw [World.cell?_setCell_other]
 ·exact h
 ·exact bU0 hij.symm
theorem Six.off{W:World}{b o j:Nat}{u:Value}{f:Fl}(h:Six W b o f)(hj:j<o\/o+6<=j):Six (W.setCell (aDr b j) u) b o f:=
 ⟨aI h.1 (by omega),aI h.2.1 (by omega),aI h.2.2.1 (by omega),aI h.2.2.2.1 (by omega),aI h.2.2.2.2.1 (by omega),aI h.2.2.2.2.2 (by omega)⟩
theorem gG{W:World}{b:Nat}{t:TypeId}(h:∃ cur,W.heap[b]?=some (.cells cur t (0,0)))(j:Nat)(u:Value):∃ cur,(W.setCell (aDr b j) u).heap[b]?=some (.cells cur t (0,0)):=by
 obtain⟨cur,hc⟩:=h;exact⟨_,aN hc j u⟩
theorem Seven.off{W:World}{b o j:Nat}{u:Value}{x:dV}(h:Seven W b o x)(hj:j<o\/o+7<=j):Seven (W.setCell (aDr b j) u) b o x:=
 ⟨h.1.off (by omega),aI h.2 (by omega)⟩
theorem CB.setAh{W:World}{b:Nat}{c f:Bool}{ah gr:Int}{A:Nat->dV}(h:CB W b c f ah gr A)(x:Int):CB (W.setCell (aDr b 2) (.I x)) b c f x gr A:=
 ⟨gG h.blk _ _,aI h.c0 (by omega),aI h.c1 (by omega),aAB _ _ _ h.c2,aI h.c3 (by omega),fun d hd=>(h.sp d hd).off (by omega)⟩
theorem CB.setGr{W:World}{b:Nat}{c f:Bool}{ah gr:Int}{A:Nat->dV}(h:CB W b c f ah gr A)(x:Int):CB (W.setCell (aDr b 3) (.I x)) b c f ah x A:=
 ⟨gG h.blk _ _,aI h.c0 (by omega),aI h.c1 (by omega),aI h.c2 (by omega),aAB _ _ _ h.c3,fun d hd=>(h.sp d hd).off (by omega)⟩
def pY(A:Nat->dV)(d:Nat)(x:dV):Nat->dV:=fun i=>if i=d then x else A i
theorem CB.setSeen{W:World}{b:Nat}{c f:Bool}{ah gr:Int}{A:Nat->dV}(h:CB W b c f ah gr A){d:Nat}(hd:d<41)(x:Int):CB (W.setCell ⟨b,4+d*7+6,none⟩ (.I x)) b c f ah gr (pY A d ⟨(A d).f,x⟩):=
 ⟨gG h.blk _ _,aI h.c0 (by omega),aI h.c1 (by omega),aI h.c2 (by omega),aI h.c3 (by omega),fun i hi=>by
  unfold pY;by_cases e:i=d
  ·subst e;rw [if_pos rfl];exact⟨(h.sp i hi).1.off (by omega),aAB _ _ _ (h.sp i hi).2⟩
  ·rw [if_neg e];exact(h.sp i hi).off (by omega)⟩
def lF(W:World)(b o:Nat)(x:dV):World:=
 ((((((W.setCell (aDr b o) (.I x.f.k)).setCell ⟨b,o+1,none⟩ (.I x.f.n)).setCell ⟨b,o+2,none⟩ (.I x.f.mn)).setCell ⟨b,o+3,none⟩ (.I x.f.mx)).setCell ⟨b,o+4,none⟩ (.slice x.f.rq x.f.rs.length x.f.rc)).setCell ⟨b,o+5,none⟩ (.slice x.f.kq x.f.kl x.f.kc)).setCell ⟨b,o+6,none⟩ (.I x.s)
theorem CB.setSpot{W:World}{b:Nat}{c f:Bool}{ah gr:Int}{A:Nat->dV}(h:CB W b c f ah gr A){d:Nat}(hd:d<41)(x:dV):CB (lF W b (4+d*7) x) b c f ah gr (pY A d x):=by
 have off:∀ {i:Nat} {v:Value},W.cell? (aDr b i)=some v->(i<4+d*7\/4+d*7+7<=i)->(lF W b (4+d*7) x).cell? (aDr b i)=some v:=by
  intro i v hv hi;unfold lF;exact aI (aI (aI (aI (aI (aI (aI hv (by omega)) (by omega)) (by omega)) (by omega)) (by omega)) (by omega)) (by omega)
 refine⟨?_,off h.c0 (by omega),off h.c1 (by omega),off h.c2 (by omega),off h.c3 (by omega),fun i hi=>?_⟩
 ·unfold lF;exact gG (gG (gG (gG (gG (gG (gG h.blk _ _) _ _) _ _) _ _) _ _) _ _) _ _
 ·unfold pY;by_cases e:i=d
  ·subst e;rw [if_pos rfl];obtain⟨⟨k0,k1,k2,k3,k4,k5⟩,k6⟩:=h.sp i hi;unfold lF;refine⟨⟨?_,?_,?_,?_,?_,?_⟩,?_⟩
   ·exact aI (aI (aI (aI (aI (aI (aAB _ _ _ k0) (by omega)) (by omega)) (by omega)) (by omega)) (by omega)) (by omega)
   ·exact aI (aI (aI (aI (aI (aAB _ _ _ (aI k1 (by omega))) (by omega)) (by omega)) (by omega)) (by omega)) (by omega)
   ·exact aI (aI (aI (aI (aAB _ _ _ (aI (aI k2 (by omega)) (by omega))) (by omega)) (by omega)) (by omega)) (by omega)
   ·exact aI (aI (aI (aAB _ _ _ (aI (aI (aI k3 (by omega)) (by omega)) (by omega))) (by omega)) (by omega)) (by omega)
   ·exact aI (aI (aAB _ _ _ (aI (aI (aI (aI k4 (by omega)) (by omega)) (by omega)) (by omega))) (by omega)) (by omega)
   ·exact aI (aAB _ _ _ (aI (aI (aI (aI (aI k5 (by omega)) (by omega)) (by omega)) (by omega)) (by omega))) (by omega)
   ·exact aAB _ _ _ (aI (aI (aI (aI (aI (aI k6 (by omega)) (by omega)) (by omega)) (by omega)) (by omega)) (by omega))
  ·rw [if_neg e];obtain⟨⟨k0,k1,k2,k3,k4,k5⟩,k6⟩:=h.sp i hi;exact⟨⟨off k0 (by omega),off k1 (by omega),off k2 (by omega),off k3 (by omega),off k4 (by omega),off k5 (by omega)⟩,off k6 (by omega)⟩
theorem aK1(W:World)(b o:Nat)(x:dV):Fr (fun z=>z=b) W (lF W b o x):=by
 unfold lF;exact(((((((Fr.refl (fun z=>z=b) W).setCell (p:=(aDr b o)) rfl _).setCell (p:=⟨b,o+1,none⟩) rfl _).setCell (p:=⟨b,o+2,none⟩) rfl _).setCell (p:=⟨b,o+3,none⟩) rfl _).setCell (p:=⟨b,o+4,none⟩) rfl _).setCell (p:=⟨b,o+5,none⟩) rfl _).setCell (p:=⟨b,o+6,none⟩) rfl _
def Fl.cells(f:Fl):List Value:=[.I f.k,.I f.n,.I f.mn,.I f.mx,.slice f.rq f.rs.length f.rc,.slice f.kq f.kl f.kc]
theorem aN3(b o j:Nat):((aDr b o):Addr).add j=⟨b,o+j,none⟩:=by unfold Addr.add;split <;> simp_all
theorem vL(W:World)(a:Option Addr)(l c:Nat):(binOp .eql 22 (.slice a l c) (.slice none 0 0)).run Tryz.prog W=.ok (.bool a.isNone) W:=by
 unfold binOp;simp [run_equal_slice_nil W _ _ a l c bG]
theorem bE6{w:World}{q:Option Addr}{k:Nat}{L:lIi}(h:ArgR w (.slice q L.length k) L)(hl:L.length+3<=8796093022208) :
  Calls Tryz.prog 130 #[.slice q L.length k] w fun e w'=>∃ q' k',e=.returned (.slice q' L.length k')/\RR w.heap.size w' (.slice q' L.length k') L/\wBl w w':=by
 obtain⟨t0,hi,hz0,hz1,hz2⟩:=aV dB
 cases q with
 | none=>
  have hLn:L=[]/\k=0:=by
   rcases h with⟨p,cap,e,rfl,hp⟩ | ⟨g,off,cap,e,-⟩
   ·cases e;exact⟨rfl,hp rfl⟩
   ·cases e
  obtain⟨rfl,rfl⟩:=hLn;have hq:=fun W=>vL W none 0 0;clear h;go_enter Tryz.func130,Tryz.ntmps130;go_wp2;go_ret;exact⟨none,0,rfl,RR.nil _ _,Below.refl _ _⟩
 | some ad=>
  have hq:=fun W=>vL W (some ad) L.length k;have B0:wBl w (w.alloc (.cells #[] 92)):=bz9;have OW:Hid ((w.alloc (.cells #[] 92)).ownsRow w.heap.size 92 2 (.slice (some (aDr w.heap.size 0)) 0 0) 0 []):=⟨rfl,.inr ⟨w.heap.size,0,#[],rfl,t9 _,aE w _,t9 _,o9 _,rfl,rfl⟩⟩;have HG:=aC (h.kept B0).news;clear h B0;go_enter Tryz.func130,Tryz.ntmps130;go_wp2_with (at_builtin;refine wpList_append_own_at _ rfl _ _ 22 rfl w.heap.size 92 t0 (.agg #[.I 0,.I 0]) 2 16 bG hi hz0 hz1 hz2 rfl (by decide) (.slice (some (aDr w.heap.size 0)) 0 0) 0 [] rfl OW.o ad L.length k (aT L) rfl (by rw [eC]) HG.o (nT L) (by unfold maxLen;omega) (by omega) (by simp) ?_;intro v' w6 hown' hgrow _ hblk;obtain⟨q6,cap6,rfl⟩:=aR hown';have O6:Hid (w6.ownsRow w.heap.size 92 2 (.slice q6 (0+L.length) cap6) (0+L.length) ([]++aT L)):=hown';have B6:Hid (wBl w w6):=((((Fr.refl (fun k=>k=w.heap.size) w).alloc _).grown hgrow (fun k hk=>by(simp [Value.ownBlock] at hk;exact hk.symm))).below lz9 (fun k hk=>by omega));clear hown' hgrow hblk)
  go_ret;have:=O6.o;rw [m9,aAO] at this;exact⟨q6,cap6,by simp,this,B6.o⟩
def bC3(N:Nat->Prop)(t:Tr):Prop:=(∀ a,t.f.rq=some a->t.f.rs≠[]->N a.block)/\(∀ a,t.f.kq=some a->t.ks≠[]->N a.block)
def bW8(N:Nat->Prop)(t:Tr):Prop:=bK (bC3 N) t
theorem aS8{P Q R:Tr->Prop}(h:∀ t,P t->Q t->R t)(t:Tr):bK P t->bK Q t->bK R t:=by
 refine Tr.ind (P:=fun t=>bK P t->bK Q t->bK R t) (fun t ih hp hq=>?_) t;exact(aQ t).2 ⟨h t ((aQ t).1 hp).1 ((aQ t).1 hq).1,(bS _).2 fun u hu=>ih u hu (bC hp hu) (bC hq hu)⟩
section
open Go Go.RowKit Go.Shelf
attribute [local go_sem] Oper.semAt_some
theorem aC6:Tryz.prog.underlying 179=some (.slice 182):=by kernel_rfl
theorem aD6:(Tryz.prog.info? 182).map (fun i=>(i.zero,i.size,i.bytes))=some (some (.agg #[.I 0,.I 0,.I 0,.I 0,.I 0,.slice none 0 0,.slice none 0 0]),7,88):=by kernel_rfl
def KP(b0 b1:Nat)(V V':World):Prop:=V.heap.size<=V'.heap.size/\∀ (k:Nat) (cur:Array Value) (ty:TypeId) (fr:Nat×Nat),(k<b0\/(b1<=k/\ty=25))->V.heap[k]?=some (.cells cur ty fr)->V'.heap[k]?=some (.cells cur ty fr)
theorem KP.trans{b0 b1:Nat}{A B C:World}(h:KP b0 b1 A B)(k:KP b0 b1 B C):KP b0 b1 A C:=⟨m8 h.1 k.1,fun i cur ty fr hi hc=>k.2 i cur ty fr hi (h.2 i cur ty fr hi hc)⟩
theorem KP.put{b0 b1:Nat}{W:World}{l:Nat}{o:Obj}(o':Obj)(h:W.heap[l]?=some o)(hc:o.isCells=false):KP b0 b1 W (W.putObj l o'):=
 ⟨(grownBy_putObj' W l o').size,fun k cur ty fr _ hk=>by
  have hne:k≠l:=fun e=>by subst e;rw [hk] at h;cases h;cases hc
  exact(World.putObj_heap_other hne).trans hk⟩
theorem KP.below{b0 b1:Nat}{W W':World}(hb:wBl W W'):KP b0 b1 W W':=⟨hb.size,fun k _ _ _ _ hc=>(hb.block k (aB hc)).trans hc⟩
structure PlOk(b:Nat)(V:World)(x:El)(m:Fl):Prop where
 k:m.k=x.2.f.k
 n:m.n=x.2.f.n
 mn:m.mn=x.2.f.mn
 mx:m.mx=x.2.f.mx
 rs:m.rs=x.2.f.rs
 kq:m.kq=none/\m.kl=0/\m.kc=0
 rr:RR b V (.slice m.rq m.rs.length m.rc) m.rs
def Ap8(a b:El×Fl):Prop:=∀ k,(Value.slice a.2.rq a.2.rs.length a.2.rc).ownBlock=some k->(Value.slice b.2.rq b.2.rs.length b.2.rc).ownBlock≠some k
def plC(z:El×Fl):List Value:=.I ((z.1.1.length:Int)+1) :: z.2.cells
def eO(l:List (El×Fl)):List Value:=l.flatMap plC
theorem aA7(l:List (El×Fl))(z:El×Fl):eO (l++[z])=eO l++plC z:=by simp [eO]
structure PlI(w:World)(t:Tr)(b1 bl:Nat)(pre:List El)(V:World):Prop where
 ms:∃ (ms:List (El×Fl)) (q:Option Addr) (c:Nat),ms.map (·.1)=pre/\V.heap[bl]?=some (.cells #[.slice q ms.length c] 179 (0,0))/\V.ownsRow b1 182 7 (.slice q ms.length c) ms.length (eO ms)/\(∀ z∈ms,PlOk b1 V z.1 z.2)/\ms.Pairwise Ap8
 pfx:pre <+: pp [] t
 len:pre.length<=2000
 bel:wBl w V
theorem PlI.row{w:World}{t:Tr}{b1 bl B:Nat}{pre:List El}{V V':World}{row:Option Nat}(h:PlI w t b1 bl pre V)(hn:w.heap.size<=B)(hg:V.grownBy V' row)(hr:∀ r,row=some r->B<=r/\∃ o:Obj,V.heap[r]?=some o/\o.isCells=false):PlI w t b1 bl pre V':=by
 obtain⟨ms,q,c,h1,h2,h3,h4,h5⟩:=h.ms;have own:∀ {e:TypeId} {size n:Nat} {v:Value} {xs:List Value},V.ownsRow b1 e size v n xs->V'.ownsRow b1 e size v n xs:=fun {e size n v xs} hh=>by
  refine⟨hh.1,?_⟩;rcases hh.2 with z | ⟨g,cap,cur,z1,z2,z3,z4⟩
  ·exact .inl z
  ·exact .inr ⟨g,cap,cur,z1,z2,cU hg hr z3,z4⟩
 exact⟨⟨ms,q,c,h1,cU hg hr h2,own h3,fun z hz=>⟨(h4 z hz).k,(h4 z hz).n,(h4 z hz).mn,(h4 z hz).mx,(h4 z hz).rs,(h4 z hz).kq,own (h4 z hz).rr⟩,h5⟩,h.pfx,h.len,mQ h.bel lz9 hn hg hr⟩
theorem rH{V:World}{D b:Nat}{o:Obj}(o':Obj)(hD:V.heap[D]?=some o)(hc:o.isCells=false){e:TypeId}{size n:Nat}{v:Value}{xs:List Value}(h:V.ownsRow b e size v n xs):(V.putObj D o').ownsRow b e size v n xs:=by
 refine⟨h.1,?_⟩;rcases h.2 with z | ⟨g,cap,cur,z1,z2,z3,z4⟩
 ·exact .inl z
 ·refine .inr ⟨g,cap,cur,z1,z2,?_,z4⟩;have hne:g≠D:=fun e=>by subst e;rw [z3] at hD;cases hD;cases hc
  exact(World.putObj_heap_other hne).trans z3
theorem PlOk.put{V:World}{D b b':Nat}{o:Obj}{x:El}{m:Fl}(o':Obj)(hD:V.heap[D]?=some o)(hc:o.isCells=false)(hb:b'<=b)(h:PlOk b V x m):PlOk b' (V.putObj D o') x m:=
 ⟨h.k,h.n,h.mn,h.mx,h.rs,h.kq,(RR.mono (rH o' hD hc h.rr) hb)⟩
theorem lN{S:Nat->Prop}{V W:World}(hf:Fr S V W){k:Nat}{cur:Array Value}{ty:TypeId}{fr:Nat×Nat}(hk:V.heap[k]?=some (.cells cur ty fr))(hs:¬ S k):W.heap[k]?=some (.cells cur ty fr):=(hf.block _ (aB hk) hs).trans hk
theorem aV9{V:World}{j k:Nat}{c1 c2:Array Value}{t1 t2:TypeId}{f1 f2:Nat×Nat}(h1:V.heap[j]?=some (.cells c1 t1 f1))(h2:V.heap[k]?=some (.cells c2 t2 f2))(ht:t1≠t2):j≠k:=fun e=>by subst e;rw [h1] at h2;cases h2;exact ht rfl
theorem sS{V:World}{b b':Nat}{e1 e2:TypeId}{s1 s2 n1 n2:Nat}{v1 v2:Value}{x1 x2:List Value}(h1:V.ownsRow b e1 s1 v1 n1 x1)(h2:V.ownsRow b' e2 s2 v2 n2 x2)(ht:e1≠e2){k:Nat}(hk:v1.ownBlock=some k):v2.ownBlock≠some k:=fun hk2=>by
 obtain⟨_,_,c1,q1⟩:=aF h1 hk;obtain⟨_,_,c2,q2⟩:=aF h2 hk2;rw [q1] at q2;cases q2;exact ht rfl
theorem aZ2{w V V0 V5 W7 w6:World}{t:Tr}{b1 bl bx:Nat}{pre:List El}{x:El}{ms:List (El×Fl)}{q q5 q6:Option Addr}{c k5 c6:Nat}{ob:Obj}(hn:w.heap.size<=bl)(hb1:w.heap.size<=b1)(hbv:b1<=V.heap.size)
  (e1:ms.map (·.1)=pre) (h2:V.heap[bl]?=some (.cells #[.slice q ms.length c] 179 (0,0))) (h3:V.ownsRow b1 182 7 (.slice q ms.length c) ms.length (eO ms)) (h4:∀ z∈ms,PlOk b1 V z.1 z.2) (hap:ms.Pairwise Ap8) (hpfx:pre++[x] <+: pp [] t) (hlen:pre.length<2000) (hbel:wBl w V) (hck:CK w V)
  (hbx:BoxN V bx x.2.f) (hbx1:b1<=bx) (hs0:V0.heap.size<=bx) (hk0:KP w.heap.size b1 V0 V) (x5:RR V.heap.size V5 (.slice q5 x.2.f.rs.length k5) x.2.f.rs) (b5:wBl V V5) (f7:Fr (fun z=>z=bx) V5 W7)
  (o6:w6.ownsRow b1 182 7 (.slice q6 (ms.length+1) c6) (ms.length+1) (eO ms++plC (x,⟨x.2.f.k,x.2.f.n,x.2.f.mn,x.2.f.mx,x.2.f.rs,q5,k5,none,0,0⟩)))
  (hg:(W7.alloc ob).grownBy w6 (Value.slice q ms.length c).ownBlock) :
  KeepsFrom b1 V (w6.setCell (aDr bl 0) (.slice q6 (ms.length+1) c6))/\(KP w.heap.size b1 V0 (w6.setCell (aDr bl 0) (.slice q6 (ms.length+1) c6))/\CK w (w6.setCell (aDr bl 0) (.slice q6 (ms.length+1) c6)))/\PlI w t b1 bl (pre++[x]) (w6.setCell (aDr bl 0) (.slice q6 (ms.length+1) c6)):=by
 have F6:Fr (fun z=>z=bx\/(Value.slice q ms.length c).ownBlock=some z) V5 w6:=((f7.mono fun k hk=>.inl hk).alloc ob).grown hg fun k hk=>.inr hk;have F8:Fr (fun z=>z=bl\/z=bx\/(Value.slice q ms.length c).ownBlock=some z) V5 (w6.setCell (aDr bl 0) (.slice q6 (ms.length+1) c6)):=(F6.mono fun k hk=>.inr hk).setCell (p:=(aDr bl 0)) (.inl rfl) _;have FV:Fr (fun z=>z=bl\/z=bx\/(Value.slice q ms.length c).ownBlock=some z) V (w6.setCell (aDr bl 0) (.slice q6 (ms.length+1) c6)):=(Fr.of_below b5).trans F8;have lo:∀ k,(k=bl\/k=bx\/(Value.slice q ms.length c).ownBlock=some k)->w.heap.size<=k:=fun k hk=>by
  rcases hk with rfl | rfl | hk
  ·exact hn
  ·omega
  ·exact m8 hb1 (aF h3 hk).1
 have bl6:w6.heap[bl]?=some (.cells #[.slice q ms.length c] 179 (0,0)):=lN ((Fr.of_below b5).trans F6) h2 (fun hk=>by
  rcases hk with e | hk
  ·exact aV9 h2 hbx (by decide) e
  ·exact aO h3 h2 (by decide) hk)
 have bl8:=aN bl6 0 (.slice q6 (ms.length+1) c6);have own9:∀ {v:Value} {L:lIi},RR b1 V v L->RR b1 (w6.setCell (aDr bl 0) (.slice q6 (ms.length+1) c6)) v L:=fun {v L} h=>RR.fr h FV fun k hk hs=>by
  rcases hs with rfl | rfl | hs
  ·exact aO h h2 (by decide) hk
  ·exact aO h hbx (by decide) hk
  ·exact sS h h3 (by decide) hk hs
 refine⟨⟨FV.size,fun k o hk ho hc=>(FV.block k (aB ho) fun hs=>?_).trans ho⟩,⟨⟨m8 hk0.1 FV.size,fun k cur ty fr hk hc=>?_⟩,⟨m8 hck.size FV.size,fun k cur ty fr hk hc=>lN FV (hck.same k cur ty fr hk hc) fun hs=>by have:=lo k hs;omega⟩⟩,⟨ms++[(x,⟨x.2.f.k,x.2.f.n,x.2.f.mn,x.2.f.mx,x.2.f.rs,q5,k5,none,0,0⟩)],q6,c6,by simp [e1],?_,?_,?_,?_⟩,hpfx,by simp;omega,hbel.trans (FV.below (by have:=hbel.size;omega) lo)⟩
 ·rcases hs with rfl | rfl | hs
  ·rw [h2] at ho;cases ho;cases hc
  ·rw [hbx] at ho;cases ho;cases hc
  ·obtain⟨_,_,cur,q1⟩:=aF h3 hs;rw [q1] at ho;cases ho;cases hc
 ·have hv:=hk0.2 k cur ty fr hk hc;refine lN FV hv fun hs=>?_;rcases hk with hk | ⟨hk,rfl⟩
  ·have:=lo k hs;omega
  ·rcases hs with rfl | rfl | hs
   ·exact aV9 h2 hv (by decide) rfl
   ·have:=aB hc;omega
   ·obtain⟨_,_,c9,q9⟩:=aF h3 hs;exact aV9 q9 hv (by decide) rfl
 ·rw [o4];exact bl8
 ·rw [o4,aA7];exact aH o6 ((Fr.refl (fun z=>z=bl) w6).setCell (p:=(aDr bl 0)) rfl _) fun k hk e=>by subst e;exact aO o6 bl6 (by decide) hk
 ·intro z hz;rcases o3.1 hz with hz | hz
  ·exact⟨(h4 z hz).k,(h4 z hz).n,(h4 z hz).mn,(h4 z hz).mx,(h4 z hz).rs,(h4 z hz).kq,own9 (h4 z hz).rr⟩
  ·rw [t8] at hz;subst hz;refine⟨rfl,rfl,rfl,rfl,rfl,⟨rfl,rfl,rfl⟩,?_⟩;have x5':=x5;exact RR.mono (RR.fr x5' F8 fun k hk hs=>by
    have:=(aF x5 hk).1;rcases hs with rfl | rfl | hs
    ·have:=aB h2;omega
    ·have:=aB hbx;omega
    ·have:=(aF h3 hs).2.1;omega) hbv
 ·rw [List.pairwise_append];refine⟨hap,List.pairwise_singleton _ _,fun a ha b hb k hk hk2=>?_⟩;rw [t8] at hb;subst hb;have y1:=(aF (h4 a ha).rr hk).2.1;have y2:=(aF x5 hk2).1;omega
theorem aQ9(n:Nat)(hn:3<=n){w:World}{t:Tr}(hta:TB w t) :
  CallsIn Fence.wide n Tryz.prog 107 #[.agg (nDf t.f)] w fun e w'=>∃ (ms:List (El×Fl)) (q:Option Addr) (c:Nat),e=.returned (.slice q ms.length c)/\ms.map (·.1)=(pp [] t).take 2000/\w'.ownsRow w.heap.size 182 7 (.slice q ms.length c) ms.length (eO ms)/\(∀ z∈ms,PlOk w.heap.size w' z.1 z.2)/\ms.Pairwise Ap8/\wBl w w':=by
 have hfn:∀ f,Fence.wide.fn f:=fun _=>trivial;refine callsIn_of_wp_marks Tryz.func107 rfl trivial ?_ rfl;simp only [Tryz.ntmps107,aBK,o5,List.length_nil,Nat.reduceAdd,Nat.reduceSub,aBQ,aBV,aCA,aBW,aAO,aAF];refine wpIn_wide.2 ?_;have HTA:=aC hta;have B1:Hid (wBl w ((w.alloc (.cells (nDf t.f) 25)).alloc (.cells #[.slice none 0 0] 179))):=(bz9).alloc (by simp) _;have N1:Hid (BoxN ((w.alloc (.cells (nDf t.f) 25)).alloc (.cells #[.slice none 0 0] 179)) w.heap.size t.f):=(Below.heap_alloc _ _ _ (by simp)).trans (aE w _);have N2:Hid (((w.alloc (.cells (nDf t.f) 25)).alloc (.cells #[.slice none 0 0] 179)).heap[w.heap.size+1]?=some (.cells #[.slice none 0 0] 179 (0,0))):=(by
  have:=aE (w.alloc (.cells (nDf t.f) 25)) (.cells #[.slice none 0 0] 179);rwa [f4] at this)
 obtain⟨c0,c1,c2,c3,c4,c5⟩:=N1.o.six;simp only [m9] at c1 c2 c3 c4 c5;go_wp2_with (go_at_call 76;(with_reducible refine(aK6 _ _).mono ?_);rintro e w3 ⟨rfl,rfl⟩)
 have N3:BoxN (((w.alloc (.cells (nDf t.f) 25)).alloc (.cells #[.slice none 0 0] 179)).alloc (.cells (nDf t.f) 25)) (w.heap.size+1+1) t.f:=(by
  have:=aE ((w.alloc (.cells (nDf t.f) 25)).alloc (.cells #[.slice none 0 0] 179)) (.cells (nDf t.f) 25);rwa [f4,f4] at this)
 have I3:(((w.alloc (.cells (nDf t.f) 25)).alloc (.cells #[.slice none 0 0] 179)).alloc (.cells (nDf t.f) 25)).heap[w.heap.size+1]?=some (.cells #[.slice none 0 0] 179 (0,0)):=(Below.heap_alloc _ _ _ (by simp)).trans N2.o;have B3:wBl w (((w.alloc (.cells (nDf t.f) 25)).alloc (.cells #[.slice none 0 0] 179)).alloc (.cells (nDf t.f) 25)):=B1.o.alloc (by simp;omega) _;generalize (((w.alloc (.cells (nDf t.f) 25)).alloc (.cells #[.slice none 0 0] 179)).alloc (.cells (nDf t.f) 25))=w4 at N3 I3 B3 ⊢;have L3:=aB N3;have L4:=aB I3;obtain⟨bl,hbl⟩:∃ bl,w.heap.size+1=bl:=⟨_,rfl⟩;rw [hbl] at I3 N3 L3 L4 ⊢;obtain⟨bn,hbn⟩:∃ bn,bl+1=bn:=⟨_,rfl⟩;rw [hbn] at N3 L3 ⊢;have hwi:w.heap.size<=bl:=by omega
 clear N1 N2 B1 c0 c1 c2 c3 c4 c5 hbl hbn;refine(wpIn_wide (n:=n)).1 ?_;refine bK6 (by omega) 8 9 bn rfl rfl N3 HTA.o (CK.of_below B3) (Kp:=KP w.heap.size w4.heap.size) KP.trans KP.put KP.below (fun h=>⟨h.1,fun k cur ty fr hk hc=>h.2 k cur ty fr (.inl hk) hc⟩) (fun h hk hb=>h.2 _ _ _ _ (.inr ⟨hk,rfl⟩) hb) (PlI w t w4.heap.size bl) (fun c pre V=>c=.exit 0/\∃ p x,pre=p++[x]/\p.length=2000/\PlI w t w4.heap.size bl p V)
  ?_ ?_ (fun pre W h=>by have:=h.len;omega) ⟨⟨[],none,0,rfl,I3,aBG _ _ _ _,(fun z hz=>by cases hz),List.Pairwise.nil⟩,aCM,by simp,B3⟩ (fun s y x a' W=>∃ bx,BoxN W bx x.2.f/\w4.heap.size<=bx/\s<=bx/\a'={ y with tmps:=(y.tmps.setIfInBounds 4 (.I ((x.1.length:Int)+1))).setIfInBounds 5 (.pointer (some (aDr bx 0))) }) ?_ ?_ ?_ ?_ ?_
 ·rintro pre A A' row h hg hr;exact h.row B3.size hg hr
 ·rintro c pre A A' row ⟨h0,p,x,e,hl,h⟩ hg hr;exact⟨h0,p,x,e,hl,h.row B3.size hg hr⟩
 ·rintro s y x a' _ A A' row ⟨bx,h1,h2⟩ hg hr;exact⟨bx,cU hg hr h1,h2⟩
 ·intro l pre x V K _ _ hs _ hK;have HS:=aC hs;simp only [fN]
  gi_wp2
  exact hK _ _ (bz9) ⟨_,aE V _,HS.o,t9 _,rfl⟩
 ·rintro l pre x a' V0 V h hck hsz ht ⟨bx,hbx,hbl2,hs0,rfl⟩ hk0 hv0;obtain⟨ms,q,c,e1,h2,h3,h4,hap⟩:=h.ms;have HAP:=aC hap;have hml:ms.length=pre.length:=by rw [<- e1,aAE]
  have k0:=aA h2 (i:=0) rfl;obtain⟨n0,n1,n2,n3,n4,n5⟩:=hbx.six;simp only [m9] at n1 n2 n3 n4 n5;have HH:=aC h;have H2:=aC h2;have H3:=aC h3;have H4:=aC h4;have HBX:=aC hbx;have HT:=aC ht;have HCK:=aC hck;have HK0:=aC hk0;have hlen:=h.len;have hin:x∈pp [] t:=by obtain⟨r,hr⟩:=ht;rw [<- hr];simp
  have NX:=aC ((HTA.o.at hin).node.ck hck);have E1:=aC e1;clear hap h h2 h3 h4 hbx ht hck hk0 e1 hin;simp only [fN];by_cases h2k:ms.length=2000
  ·have e0:((ms.length:Int)==2000)=true:=by simp;omega
   have HML:=aC hml;have HP:Hid (KeepsFrom w4.heap.size V V):=lK (Below.refl _ _);have H2K:=aC h2k;clear h2k hml
   gi_wp2
   exact⟨HP.o,rfl,pre,x,rfl,by have:=HML.o;have:=H2K.o;omega,HH.o⟩
  ·have e0:((ms.length:Int)==2000)=false:=by simp;omega
   have CR:=aC (bE6 NX.o.r NX.o.len)
   gi_wp2
   refine⟨(fun z=>by cases z),(CallsIn.inRound l (callsIn_wide.2 CR.o)).mono ?_⟩;rintro e V5 ⟨q5,k5,rfl,a1,a2⟩;have X5:=aC a1;have B5:=aC a2;have N5:V5.heap[bx]?=some (.cells (nDf x.2.f) 25 (0,0)):=(a2.block _ (aB HBX.o)).trans HBX.o;have N6:(V5.setCell (aDr bx 4) (.slice q5 x.2.f.rs.length k5)).heap[bx]?=some (.cells #[.I x.2.f.k,.I x.2.f.n,.I x.2.f.mn,.I x.2.f.mx,.slice q5 x.2.f.rs.length k5,.slice x.2.f.kq x.2.f.kl x.2.f.kc] 25 (0,0)):=aN N5 4 _;have N7:((V5.setCell (aDr bx 4) (.slice q5 x.2.f.rs.length k5)).setCell (aDr bx 5) (.slice none 0 0)).heap[bx]?=some (.cells #[.I x.2.f.k,.I x.2.f.n,.I x.2.f.mn,.I x.2.f.mx,.slice q5 x.2.f.rs.length k5,.slice none 0 0] 25 (0,0)):=aN N6 5 _;have F7:Hid (Fr (fun z=>z=bx) V5 ((V5.setCell (aDr bx 4) (.slice q5 x.2.f.rs.length k5)).setCell (aDr bx 5) (.slice none 0 0))):=((Fr.refl (fun z=>z=bx) V5).setCell (p:=(aDr bx 4)) rfl _).setCell (p:=(aDr bx 5)) rfl _;have z5:=aA N5 (i:=4) rfl;have z6:=aA N6 (i:=5) rfl;have f5:=aG N5 4;have f6:=aG N6 5;have hbb:bl≠bx:=fun e=>by have:=H2.o;rw [e,HBX.o] at this;cases this
   have K7:((V5.setCell (aDr bx 4) (.slice q5 x.2.f.rs.length k5)).setCell (aDr bx 5) (.slice none 0 0)).heap[bl]?=some (.cells #[.slice q ms.length c] 179 (0,0)):=(F7.o.block _ (n9 (aB H2.o) B5.o.size) hbb).trans ((B5.o.block _ (aB H2.o)).trans H2.o);have k7:=aA K7 (i:=0) rfl;have z70:=aA N7 (i:=0) rfl;have z71:=aA N7 (i:=1) rfl;have z72:=aA N7 (i:=2) rfl;have z73:=aA N7 (i:=3) rfl;have z74:=aA N7 (i:=4) rfl;have z75:=aA N7 (i:=5) rfl;have O7:Hid (((V5.setCell (aDr bx 4) (.slice q5 x.2.f.rs.length k5)).setCell (aDr bx 5) (.slice none 0 0)).ownsRow w4.heap.size 182 7 (.slice q ms.length c) ms.length (eO ms)):=aH (aH H3.o (Fr.of_below (S:=fun _=>False) B5.o) (fun _ _ z=>z)) F7.o (fun k hk e=>aO H3.o HBX.o (by decide) (e ▸ hk));have HML:=aC hml;have HFX:=aC F7.o;clear a1 a2 n0 n1 n2 n3 n4 n5 CR hml;obtain⟨t0,hi,hz0,hz1,hz2⟩:=aV aD6;have Y7:Hid ((((V5.setCell (aDr bx 4) (.slice q5 x.2.f.rs.length k5)).setCell (aDr bx 5) (.slice none 0 0)).alloc (.cells #[.I ((x.1.length:Int)+1),.I x.2.f.k,.I x.2.f.n,.I x.2.f.mn,.I x.2.f.mx,.slice q5 x.2.f.rs.length k5,.slice none 0 0] 182)).ownsRow w4.heap.size 182 7 (.slice q ms.length c) ms.length (eO ms)):=aH O7.o (Fr.of_below (S:=fun _=>False) (bz9)) (fun _ _ z=>z);have hms:ms.length<=2000:=by have:=HML.o;omega
   gi_upto_region 8 with fail
   have HSZ:Hid (w4.heap.size<=((V5.setCell (aDr bx 4) (.slice q5 x.2.f.rs.length k5)).setCell (aDr bx 5) (.slice none 0 0)).heap.size):=m8 hsz (m8 B5.o.size F7.o.size);generalize ((V5.setCell (aDr bx 4) (.slice q5 x.2.f.rs.length k5)).setCell (aDr bx 5) (.slice none 0 0))=W7 at *;have HNEW:Hid (∀ j u,(plC (x,⟨x.2.f.k,x.2.f.n,x.2.f.mn,x.2.f.mx,x.2.f.rs,q5,k5,none,0,0⟩))[j]?=some u->(W7.alloc (.cells #[.I ((x.1.length:Int)+1),.I x.2.f.k,.I x.2.f.n,.I x.2.f.mn,.I x.2.f.mx,.slice q5 x.2.f.rs.length k5,.slice none 0 0] 182)).cell? (((aDr W7.heap.size 0):Addr).add j)=some u):=fun j u hj=>(by
    rw [aN3,m9];exact aA (aE _ _) (i:=j) (by simpa [plC,Fl.cells] using hj))
   have HB8:Hid (w4.heap.size<=(W7.alloc (.cells #[.I ((x.1.length:Int)+1),.I x.2.f.k,.I x.2.f.n,.I x.2.f.mn,.I x.2.f.mx,.slice q5 x.2.f.rs.length k5,.slice none 0 0] 182)).heap.size):=m8 HSZ.o (by simp);have K8:(W7.alloc (.cells #[.I ((x.1.length:Int)+1),.I x.2.f.k,.I x.2.f.n,.I x.2.f.mn,.I x.2.f.mx,.slice q5 x.2.f.rs.length k5,.slice none 0 0] 182)).heap[bl]?=some (.cells #[.slice q ms.length c] 179 (0,0)):=(Below.heap_alloc _ _ _ (aB K7)).trans K7;have HK8:=aC K8;clear K8 N5 N6 N7 z5 z6 f5 f6 hbb hms;have hms:ms.length<=2000:=by have:=HML.o;omega
   gi_wp2_with (gi_at_builtin;refine wpListIn_append_own_at _ rfl _ _ 179 rfl w4.heap.size 182 t0 (.agg #[.I 0,.I 0,.I 0,.I 0,.I 0,.slice none 0 0,.slice none 0 0]) 7 88 aC6 hi hz0 hz1 hz2 rfl (by decide) (.slice q ms.length c) ms.length (eO ms) rfl Y7.o (aDr W7.heap.size 0) 1 1 (plC (x,⟨x.2.f.k,x.2.f.n,x.2.f.mn,x.2.f.mx,x.2.f.rs,q5,k5,none,0,0⟩)) rfl rfl HNEW.o (fun v hv=>by simp [plC,Fl.cells] at hv;rcases hv with rfl | rfl | rfl | rfl | rfl | rfl | rfl <;> rfl) (by unfold maxLen;omega) (by omega) HB8.o ?_;intro v' w6 hown' hgrow _ _;obtain⟨q6,c6,rfl⟩:=aR hown';have O6:=aC hown';have G6:=aC hgrow;have K9:w6.heap[bl]?=some (.cells #[.slice q ms.length c] 179 (0,0)):=(hgrow.block _ (aB HK8.o) (fun e=>aO Y7.o HK8.o (by decide) e.symm)).trans HK8.o;have k9:=aA K9 (i:=0) rfl;have f9:=aG K9 0;clear hown' hgrow)
   exact aZ2 hwi B3.size hsz E1.o H2.o H3.o H4.o HAP.o HT.o (by have:=HML.o;omega) HH.o.bel HCK.o HBX.o hbl2 hs0 HK0.o X5.o B5.o HFX.o O6.o G6.o
 ·rintro D V hD h hck hK;obtain⟨ms,q,c,e1,h2,h3,h4,hap⟩:=h.ms;have HAP:=aC hap;have e2:(pp [] t).take 2000=pp [] t:=n8 h.len;have k0:=aA h2 (i:=0) rfl;have H:=aC (show ms.map (·.1)=(pp [] t).take 2000 by rw [e2];exact e1);have X3:=aC h3;have X4:=aC h4;have XB:=aC h.bel;have HK:=aC hK;have HD:=aC hD;clear hap h h2 h3 h4 e1 e2 hck hK hD;simp only [fV];go_wp2;refine⟨by simp,.inl ⟨_,_,rfl,run_takeDeferred HK.o,?_⟩⟩;exact⟨.slice q ms.length c,by simp [results,Tryz.results107,go_sem],ms,q,c,rfl,H.o,bE (rH _ HK.o rfl X3.o) B3.size,fun z hz=>(X4.o z hz).put _ HK.o rfl B3.size,HAP.o,pP _ XB.o (m8 B3.size HD.o)⟩
 ·rintro D c pre V hD hpre ⟨rfl,p,x,rfl,hl,h⟩ hK;obtain⟨ms,q,c,e1,h2,h3,h4,hap⟩:=h.ms;have HAP:=aC hap;have e2:(pp [] t).take 2000=p:=by
   obtain⟨r,hr⟩:=h.pfx;rw [<- hr,aCH (by omega),n8 (by omega)]
  have k0:=aA h2 (i:=0) rfl;have H:=aC (show ms.map (·.1)=(pp [] t).take 2000 by rw [e2];exact e1);have X3:=aC h3;have X4:=aC h4;have XB:=aC h.bel;have HK:=aC hK;have HD:=aC hD;clear hap h h2 h3 h4 e1 e2 hK hD hl hpre;refine(wpIn_wide (n:=n)).2 ?_;simp only [fV];go_wp2;refine⟨by simp,.inl ⟨_,_,rfl,run_takeDeferred HK.o,?_⟩⟩;exact⟨.slice q ms.length c,by simp [results,Tryz.results107,go_sem],ms,q,c,rfl,H.o,bE (rH _ HK.o rfl X3.o) B3.size,fun z hz=>(X4.o z hz).put _ HK.o rfl B3.size,HAP.o,pP _ XB.o (m8 B3.size HD.o)⟩
end
section
open Go Go.RowKit Go.Shelf
attribute [local go_sem] Oper.semAt_some
theorem tL:∀ (l:List (El×Fl)) (i j:Nat) (z:El×Fl),l[i]?=some z->j<7->(eO l)[i*7+j]?=(plC z)[j]?
 | y :: l,0,j,z,h,hj=>by
  simp at h;subst h;simp only [eO,aAZ];rw [aBJ,m9,aAC (by simpa [plC,Fl.cells] using hj)]
 | y :: l,i+1,j,z,h,hj=>by
  have ih:=tL l i j z (by simpa using h) hj;simp only [eO,aAZ] at ih ⊢;rw [aAD (by simp [plC,Fl.cells];omega),<- ih]
  congr 1
  simp [plC,Fl.cells];omega
theorem aQ8{W:World}{b g n c:Nat}{l:List (El×Fl)}(h:W.ownsRow b 182 7 (.slice (some (aDr g 0)) n c) n (eO l)){i:Nat}{z:El×Fl}(hi:l[i]?=some z) :
  W.cell? ⟨g,i*7,none⟩=some (.I ((z.1.1.length:Int)+1))/\Six W g (i*7+1) z.2:=by
 have at':∀ (j:Nat) (u:Value),(plC z)[j]?=some u->W.cell? ⟨g,i*7+j,none⟩=some u:=fun j u hj=>
  aM h ((tL l i j z hi (by have:=(m7.1 hj).1;simpa [plC,Fl.cells] using this)).trans hj)
 exact⟨at' 0 _ rfl,at' 1 _ rfl,at' 2 _ rfl,at' 3 _ rfl,at' 4 _ rfl,at' 5 _ rfl,at' 6 _ rfl⟩
theorem PlOk.row{W W':World}{b B:Nat}{x:El}{m:Fl}{row:Option Nat}(h:PlOk b W x m)(hg:W.grownBy W' row)(hr:∀ r,row=some r->B<=r/\∃ o:Obj,W.heap[r]?=some o/\o.isCells=false):PlOk b W' x m:=by
 refine⟨h.k,h.n,h.mn,h.mx,h.rs,h.kq,h.rr.1,?_⟩;rcases h.rr.2 with z | ⟨g,cap,cur,z1,z2,z3,z4⟩
 ·exact .inl z
 ·exact .inr ⟨g,cap,cur,z1,z2,cU hg hr z3,z4⟩
theorem PlOk.ckN{N:Nat->Prop}{W W':World}{b:Nat}{x:El}{m:Fl}(h:PlOk b W x m)(hc:CKeep N W W')(hN:∀ k,(Value.slice m.rq m.rs.length m.rc).ownBlock=some k->N k):PlOk b W' x m:=by
 refine⟨h.k,h.n,h.mn,h.mx,h.rs,h.kq,h.rr.1,?_⟩;rcases h.rr.2 with z | ⟨g,cap,cur,z1,z2,z3,z4⟩
 ·exact .inl z
 ·exact .inr ⟨g,cap,cur,z1,z2,hc.same _ _ _ _ (hN g (by rw [z1];rfl)) z3,z4⟩
theorem zC{N:Nat->Prop}{W W':World}{b:Nat}{e:TypeId}{size n:Nat}{v:Value}{xs:List Value}(h:W.ownsRow b e size v n xs)(hc:CKeep N W W')(hN:∀ k,v.ownBlock=some k->N k):W'.ownsRow b e size v n xs:=by
 refine⟨h.1,?_⟩;rcases h.2 with z | ⟨g,cap,cur,z1,z2,z3,z4⟩
 ·exact .inl z
 ·exact .inr ⟨g,cap,cur,z1,z2,hc.same _ _ _ _ (hN g (by rw [z1];rfl)) z3,z4⟩
def bN1(z:El×Fl):Array Value:=#[.I ((z.1.1.length:Int)+1),.agg (nDf z.2)]
structure aB2(b:Nat)(t:Tr)(pre:List (El×Fl))(z:El×Fl)(V:World):Prop where
 ok:PlOk b V z.1 z.2
 pfx:(pre++[z]).map (·.1) <+: (pp [] t).take 2000
def nE(a:Act)(q d:Nat)(z:El×Fl):Act:={ tmps:=(a.tmps.setIfInBounds q (.I ((z.1.1.length:Int)+1))).setIfInBounds d (.agg (nDf z.2)),defers:=[] }
theorem bY6(w:World)(f:Fl):Calls Tryz.prog 78 #[.agg (nDf f)] w fun e w'=>e=.returned (.func (.func 106) #[] #[.pointer (some (aDr w.heap.size 0))])/\w'=w.alloc (.cells (nDf f) 25):=by
 go_enter Tryz.func78,Tryz.ntmps78;go_wp2;go_ret;exact⟨rfl,rfl⟩
end
section
open Go Go.RowKit Go.Shelf
attribute [local go_sem] Oper.semAt_some
structure KXi(b:Nat)(z:El×Fl)(V V':World):Prop where
 size:V.heap.size<=V'.heap.size
 same:∀ (k:Nat) (cur:Array Value) (t:TypeId) (fr:Nat×Nat),b<=k/\(Value.slice z.2.rq z.2.rs.length z.2.rc).ownBlock≠some k->t≠3->V.heap[k]?=some (.cells cur t fr)->V'.heap[k]?=some (.cells cur t fr)
theorem KXi.trans{b:Nat}{z:El×Fl}{A B C:World}(h:KXi b z A B)(k:KXi b z B C):KXi b z A C:=⟨m8 h.size k.size,fun i cur t fr hi ht hc=>k.same i cur t fr hi ht (h.same i cur t fr hi ht hc)⟩
theorem KXi.put{b:Nat}{z:El×Fl}{W:World}{l:Nat}{o:Obj}(o':Obj)(h:W.heap[l]?=some o)(hc:o.isCells=false):KXi b z W (W.putObj l o'):=
 have q:=CKeep.put (N:=fun _=>True) o' h hc
 ⟨q.size,fun k cur t fr _ _ hk=>q.same k cur t fr trivial hk⟩
theorem KXi.below{b:Nat}{z:El×Fl}{W W':World}(hb:wBl W W'):KXi b z W W':=⟨hb.size,fun k _ _ _ _ _ hc=>(hb.block k (aB hc)).trans hc⟩
theorem zB{B:Nat}{z:El×Fl}{W W':World}{b:Nat}{e:TypeId}{size n:Nat}{v:Value}{xs:List Value}(h:W.ownsRow b e size v n xs)(hc:KXi B z W W')(he:e≠3)(hN:∀ k,v.ownBlock=some k->B<=k/\(Value.slice z.2.rq z.2.rs.length z.2.rc).ownBlock≠some k):W'.ownsRow b e size v n xs:=by
 refine⟨h.1,?_⟩;rcases h.2 with q | ⟨g,cap,cur,z1,z2,z3,z4⟩
 ·exact .inl q
 ·exact .inr ⟨g,cap,cur,z1,z2,hc.same _ _ _ _ (hN g (by rw [z1];rfl)) he z3,z4⟩
theorem PlOk.kxi{B:Nat}{z:El×Fl}{W W':World}{b:Nat}{x:El}{m:Fl}(h:PlOk b W x m)(hc:KXi B z W W')(hN:∀ k,(Value.slice m.rq m.rs.length m.rc).ownBlock=some k->B<=k/\(Value.slice z.2.rq z.2.rs.length z.2.rc).ownBlock≠some k):PlOk b W' x m:=by
 refine⟨h.k,h.n,h.mn,h.mx,h.rs,h.kq,h.rr.1,?_⟩;rcases h.rr.2 with q | ⟨g,cap,cur,z1,z2,z3,z4⟩
 ·exact .inl q
 ·exact .inr ⟨g,cap,cur,z1,z2,hc.same _ _ _ _ (hN g (by rw [z1];rfl)) (by decide) z3,z4⟩
theorem aB0(n:Nat)(hn:3<=n){w0 w:World}{b:Nat}{t:Tr}(hB:BoxN w b t.f)(hta:TB w0 t)(hck:CK w0 w) :
  aH7 n Tryz.prog 106 #[.pointer (some (aDr b 0))] bN1 (KXi w.heap.size) (aB2 w.heap.size t) (fun xs=>xs.map (·.1)=(pp [] t).take 2000) (fun pre=>pre.map (·.1) <+: (pp [] t).take 2000) w:=by
 intro l J Jx V hV hJ hJx hb hY h0;have hfn:∀ f,Fence.wide.fn f:=fun _=>trivial;have HB:Hid (BoxN V b t.f):=(hV.block _ (aB hB)).trans hB;have hck2:CK w0 V:=hck.step ⟨hV.size,fun k _ _ _ _ hc=>(hV.block k (aB hc)).trans hc⟩;have PL:=aC (aQ9 n hn (hta.ck hck2));have hVs:=hV.size;obtain⟨c0,c1,c2,c3,c4,c5⟩:=HB.o.six;simp only [m9] at c1 c2 c3 c4 c5;have HJ0:=aC h0;have HY:=aC hY;clear hb h0 hB hta hck hck2 hV;refine callsIn_of_wp Tryz.func106 rfl trivial ?_ rfl;simp only [Tryz.ntmps106,aBK,o5,List.length_nil,Nat.reduceAdd,Nat.reduceSub,aBQ,aBV,aCA,aBW,aAO,aAF]
 gi_wp2
 refine⟨(fun z=>by cases z),(callsIn_wide.2 (callsIn_wide.1 PL.o)).mono ?_⟩;rintro e W1 ⟨ms,q,c,rfl,hm1,hm2,hm3,hm4,hm5⟩;have hms:ms.length<=2000:=by
  have:=congrArg List.length hm1;rw [aAE,aAA] at this;omega
 have M1:=aC hm1;have M4:=aC hm4;have J1:Hid (J [] W1):=eX hJ HJ0.o hm5;have R1:Hid (W1.ownsRow w.heap.size 182 7 (.slice q ms.length c) ms.length (eO ms)):=bE hm2 hVs;have P1:Hid (∀ z∈ms,PlOk w.heap.size W1 z.1 z.2):=fun z hz=>⟨(hm3 z hz).k,(hm3 z hz).n,(hm3 z hz).mn,(hm3 z hz).mx,(hm3 z hz).rs,(hm3 z hz).kq,RR.mono (hm3 z hz).rr hVs⟩;clear hm1 hm2 hm3 hm4 hm5 c0 c1 c2 c3 c4 c5 PL HB HJ0
 gi_wp2
 gi_loopw [8] (fun i wr=>∃ j:Nat,j<=ms.length/\i=.I (j:Int)/\J (ms.take j) wr/\wr.ownsRow w.heap.size 182 7 (.slice q ms.length c) ms.length (eO ms)/\∀ z∈ms.drop j,PlOk w.heap.size wr z.1 z.2) (fun i _=>ms.length-(intOf i).toNat)
 case atStart=>exact⟨0,o9 _,rfl,J1.o,R1.o,P1.o⟩
 case round=>
  clear J1 R1 P1;obtain⟨j,hj,rfl,hj1,hj2,hj3⟩:=hrel;have HJ:=aC hj1;have HR:=aC hj2;have HP:=aC hj3;clear hj1 hj2 hj3;by_cases hjl:j<ms.length
  ·have e0:(j:Int)<(ms.length:Int):=by omega
   obtain⟨z,hz⟩:∃ z,ms[j]?=some z:=⟨_,i9 hjl⟩;have HZ:=aC hz;obtain⟨g,cc,hq⟩:=aL HR.o (by omega);injection hq with hq1 _ hq2;subst hq1 hq2;have hdr:ms.drop j=z :: ms.drop (j+1):=by
    rw [aBA hjl]
    congr 1
    rw [i9 hjl] at hz;injection hz
   have htk:ms.take (j+1)=ms.take j++[z]:=by
    rw [t7,hz];rfl
   have htp:(ms.take j++[z]).map (·.1) <+: (pp [] t).take 2000:=by
    rw [<- htk,<- M1.o,List.map_take];exact List.take_prefix _ _
   have HTK:=aC htk;obtain⟨c0,c1,c2,c3,c4,c5,c6⟩:=aQ8 HR.o hz;simp only [aAN,Nat.reduceAdd] at c2 c3 c4 c5 c6;have B4:Hid (wBl wr (wr.alloc (.cells #[.I ((z.1.1.length:Int)+1),.I z.2.k,.I z.2.n,.I z.2.mn,.I z.2.mx,.slice z.2.rq z.2.rs.length z.2.rc,.slice z.2.kq z.2.kl z.2.kc] 182))):=bz9;have N4:=aE wr (.cells #[.I ((z.1.1.length:Int)+1),.I z.2.k,.I z.2.n,.I z.2.mn,.I z.2.mx,.slice z.2.rq z.2.rs.length z.2.rc,.slice z.2.kq z.2.kl z.2.kc] 182);have d0:=aA N4 (i:=0) rfl;have d1:=aA N4 (i:=1) rfl;have d2:=aA N4 (i:=2) rfl;have d3:=aA N4 (i:=3) rfl;have d4:=aA N4 (i:=4) rfl;have d5:=aA N4 (i:=5) rfl;have d6:=aA N4 (i:=6) rfl;have TZ:Hid (aB2 w.heap.size t (ms.take j) z (wr.alloc (.cells #[.I ((z.1.1.length:Int)+1),.I z.2.k,.I z.2.n,.I z.2.mn,.I z.2.mx,.slice z.2.rq z.2.rs.length z.2.rc,.slice z.2.kq z.2.kl z.2.kc] 182))):=⟨(HP.o z (by rw [hdr];exact r9 ..)).ckN (CK.of_below B4.o) (fun k hk=>(aF (HP.o z (by rw [hdr];exact r9 ..)).rr hk).2.1),htp⟩;obtain⟨fn,tmps,assign,body,hy,hR⟩:=HY.o (ms.take j) z _ (hJ.alloc _ HJ.o) TZ.o;simp only [bN1] at hy;clear N4 hz htk htp
   gi_wp2
   refine⟨(fun z=>by cases z),hR.mono ?_⟩;rintro e W3 ⟨-,(⟨rfl,hJ3,hk3⟩ | ⟨rfl,hJx3⟩)⟩
   ·have HN:Hid (J (ms.take (j+1)) W3):=(by rw [HTK.o];exact hJ3);have HR3:Hid (W3.ownsRow w.heap.size 182 7 (.slice (some (aDr g 0)) ms.length c) ms.length (eO ms)):=zB (zC HR.o (CK.of_below B4.o) (fun k hk=>(aF HR.o hk).2.1)) hk3 (by decide) (fun k hk=>⟨(aF HR.o hk).1,sS HR.o (HP.o z (by rw [hdr];exact r9 ..)).rr (by decide) hk⟩);have HP3:Hid (∀ y∈ms.drop (j+1),PlOk w.heap.size W3 y.1 y.2):=fun y hy=>(by
     have hy1:=HP.o y (by rw [hdr];exact r8 _ hy);refine(hy1.ckN (CK.of_below B4.o) (fun k hk=>(aF hy1.rr hk).2.1)).kxi hk3 (fun k hk=>⟨(aF hy1.rr hk).1,fun hk2=>?_⟩);have hpw:(ms.drop j).Pairwise Ap8:=M4.o.sublist (List.drop_sublist _ _);rw [hdr,aAP] at hpw;exact hpw.1 y hy k hk2 hk)
    clear hJ3 hk3 hy hR c0 c1 c2 c3 c4 c5 c6 d0 d1 d2 d3 d4 d5 d6 TZ hdr
    gi_wp2
    go_roundw
    case rel=>exact⟨j+1,by omega,by go_num,HN.o,HR3.o,HP3.o⟩
    case measure=>simp only [intOf];omega
   ·have HN:=aC hJx3;have HT:=aC TZ.o.pfx;clear hJx3 hy hR c0 c1 c2 c3 c4 c5 c6 d0 d1 d2 d3 d4 d5 d6 TZ hdr
    gi_wp2
    ((try simp only [Exit.inBlock,Exit.then]);refine bodyPost_ret (results_none rfl _ _ _) rfl ?_)
    exact⟨⟨_,rfl⟩,.inr ⟨_,HT.o,HN.o⟩⟩
  ·have e0:¬ (j:Int)<(ms.length:Int):=by omega
   have HN:Hid (J ms wr):=(by have:=HJ.o;rw [n8 (by omega)] at this;exact this)
   gi_wp2
   go_end0
   exact⟨⟨_,rfl⟩,.inl ⟨ms,M1.o,HN.o⟩⟩
theorem aY6{g:Operand}{ps:Array Tmp}{assign body:Code}{Q:Exit->Act->World->Prop}{a:Act}{w:World}{n:Nat}(hn:4<=n)(q d:Nat)(b:Nat){w0:World}{t:Tr}
  (hg:a.eval g=.func (.func 106) #[] #[.pointer (some (aDr b 0))]) (hps:ps=#[q,d]) (hB:BoxN w b t.f) (hta:TB w0 t) (hck:CK w0 w)
  (I:List (El×Fl)->World->Prop) (Ix:Code->List (El×Fl)->World->Prop) (hI:OwnFrom w.heap.size I) (hIx:∀ c,OwnFrom w.heap.size (Ix c)) (hbd:∀ pre W,I pre W->pre.length<=1000000) (h0:I [] w)
  (Ax:Nat->Act->(El×Fl)->Act->World->Prop) (hAx:∀ s y x a',OwnFrom w.heap.size (fun (_:Unit) W=>Ax s y x a' W))
  (hassign:∀ (l:Nat) (pre:List (El×Fl)) (x:El×Fl) (W:World) (K:Act->World->Prop),I pre W->aB2 w.heap.size t pre x W->(∀ a' W',wBl W W'->Ax W.heap.size (nE a q d x) x a' W'->K a' W') ->
   assign.wpIn (Fence.wide.inRound l) (n-1-1) Tryz.prog (Exit.then K (fun _ _ _=>False)) (nE a q d x) W)
  (hbody:∀ (l:Nat) (pre:List (El×Fl)) (x:El×Fl) (a':Act) (V0 V:World),I pre V->aB2 w.heap.size t pre x V->Ax V0.heap.size (nE a q d x) x a' V->KXi w.heap.size x V0 V->V0.heap.size<=V.heap.size->body.wpIn (Fence.wide.inRound l) (n-1-1) Tryz.prog (ownPostG w.heap.size (fun _ V'=>KXi w.heap.size x V0 V') I Ix (pre++[x]) V) a' V)
  (hdone:∀ (D:Nat) (xs:List (El×Fl)) (V:World),w.heap.size<=D->xs.map (·.1)=(pp [] t).take 2000->I xs V->V.heap[D]?=some (.deferred (some []))->Q .normal (fV a D) V)
  (hstop:∀ (D:Nat) (c:Code) (pre:List (El×Fl)) (V:World),w.heap.size<=D->pre.map (·.1) <+: (pp [] t).take 2000->Ix c pre V->V.heap[D]?=some (.deferred (some []))->c.wpIn Fence.wide n Tryz.prog Q (fV a D) V) :
  (Code.rangeFunc g ps assign body).wpIn Fence.wide n Tryz.prog Q a w:=by
 subst hps;refine qQ (α:=El×Fl) (Kp:=KXi w.heap.size) (Told:=aB2 w.heap.size t) (by omega) (gf:=106) hg (enters_of Tryz.func106 (by kernel_rfl) rfl) (encs:=bN1) (fun _=>rfl)
  KXi.trans KXi.put KXi.below (aB0 (n-1) (by omega) hB hta hck) I Ix hI hIx ?_ hbd h0 (fun s x=>Ax s (nE a q d x) x) (fun s x=>hAx s _ x) ?_ hbody hdone hstop
 ·rintro pre x _ A A' row h hg hr;exact⟨h.ok.row hg hr,h.pfx⟩
 ·intro l pre x V K hi ht hK;have:=hassign l pre x V K hi ht hK;simpa [bN1,nE] using this
end
section
attribute [local go_sem] Oper.semAt_some
abbrev TWI:=TW 81 82 42 112 154 97 153
def enI(x:Int):Value:=.I x
def ceI(xs:List (Int)):List Value:=xs.flatMap fun x=>[.I x]
theorem xO(xs:List (Int))(x:Int):ceI (xs++[x])=ceI xs++[.I x]:=by simp [ceI]
theorem wF:Tryz.prog.underlying 44=some (.slice 3):=by kernel_rfl
theorem bQ7:Tryz.prog.underlying 153=some (.map 3 3):=by kernel_rfl
theorem aX4:(Tryz.prog.info? 3).map (fun i=>(i.zero,i.size,i.bytes))=some (some (.I 0),1,8):=by kernel_rfl
def RuI(Glo:World->Prop)(NP:Tr->Prop)(Good:Int->Prop)(ρ:dJ (Int))(c o:Bool):Prop:=
 ∀ (t:Tr) (xs:List (Int)) (g:Int->Int) (W:World) (v:Value) (bp bb n base:Nat),Glo W->NP t->t.ks.length<=1000000->NB W t->xs.length=t.ks.length->(∀ x∈xs,Good x)->(∀ i,Good (g i))->W.ownsRow base 3 1 v xs.length (ceI xs) ->
  W.heap[bp]?=some (.cells #[.map (some bb)] 153 (0,0))->MapV W (.I 0) bb n (fun i=>enI (g i)) ->
  Calls Tryz.prog 42 #[.agg (cX t.f c o v (.func (.func 81) #[] #[bx bp]))] W fun e w'=>e=.returned (enI (ρ t.f t.ks xs g))/\wBl W w'
def OfI(ρ:dJ (Int))(w:World)(bb n:Nat)(t:Tr)(g:Int->Int)(e:Ending)(w':World):Prop:=
 e=.returned (enI (ev ρ g t).1)/\MapV w' (.I 0) bb (n+t.sz) (fun i=>enI ((ev ρ g t).2 i))/\Fr (fun k=>k=bb) w w'
structure LpI(ρ:dJ (Int))(W0 wr:World)(b s n:Nat)(t:Tr)(c o:Bool)(g:Int->Int)(j:Nat)(v gv:Value):Prop where
 sc:wr.heap[s]?=some (.cells (cX t.f c o v gv) 156 (0,0))
 own:wr.ownsRow W0.heap.size 3 1 v j (ceI (evs ρ g (t.ks.take j)).1)
 mp:MapV wr (.I 0) b (n+szs (t.ks.take j)) (fun i=>enI ((evs ρ g (t.ks.take j)).2 i))
 fr:Fr (Wr2 b s) W0 wr
theorem bZ3{Glo:World->Prop}(hglo:∀ {A B:World},CK A B->Glo A->Glo B){NP:Tr->Prop}{Good:Int->Prop}{ρ:dJ (Int)}{c o:Bool}(hr:RuI Glo NP Good ρ c o)(hwf:∀ t,NP t->t.f.k=7->(Lit.int .i64 t.f.n).wf=true)(hg:∀ t xs g,NP t->xs.length=t.ks.length->(∀ x∈xs,Good x)->(∀ i,Good (g i))->Good (ρ t.f t.ks xs g))(bm bg bo br bp bb:Nat) :
  ∀ (m:Nat) (t:Tr) (w:World) (n:Nat) (g:Int->Int),t.sz<=m->n+t.sz<=1000000->Glo w->TB w t->bK NP t->(∀ i,Good (g i))->TWI w bm bg bo br bp bb c o->MapV w (.I 0) bb n (fun i=>enI (g i)) ->
   Calls Tryz.prog 82 #[.agg (nDf t.f),bx bm,bx bg,bx bo,bx br,bx bp] w (OfI ρ w bb n t g):=by
 intro m
 induction m with
 | zero=>intro t w n g hm;exact absurd (dQ t) (by omega)
 | succ m ih=>
  intro t w n g hm hn hgw hta hnp hgd htw hmp;have HGW:=aC hgw;clear hgw;obtain⟨t0,ti,hz0,hz1,hz2⟩:=aV aX4;have TI:Hid (Tryz.prog.info? 3=some t0/\t0.zero=some (.I 0)/\t0.size=1/\t0.bytes=8):=⟨ti,hz0,hz1,hz2⟩;clear ti hz0 hz1 hz2;have HTA:=aC hta;have HTW:=aC htw;obtain⟨q,cap,hkv,hk1,hk2,hk3⟩:=hta.node.k.slice;injection hkv with hkq hkl hkc;subst hkq;have HKL:=aC hkl;have HK3:=aC hk3;have hkm:t.ks.length<=9223372036854775807:=hk1;have hkz:=aC (show szs t.ks+1=t.sz from (fE t).symm);clear hkl hkc hk3 hk1;have m0:w.cell? (aDr bm 0)=some (.bool c):=aA htw.m (i:=0) rfl;have m1:w.cell? (aDr bm 1)=some (.bool o):=aA htw.m (i:=1) rfl;obtain⟨gv,hgv⟩:∃ gv,Value.func (.func 81) #[] #[bx bp]=gv:=⟨_,rfl⟩;have g0:w.cell? (aDr bg 0)=some (.func (.func 81) #[] #[bx bp]):=aA htw.g (i:=0) rfl;have l1:=aB htw.m;have l2:=aB htw.g;have IH:=aC ih;have HR:=aC hr;have HWF:=aC hwf;have HG:=aC hg;have HNP:=aC hnp;have HGD:=aC hgd;have HMP:=aC hmp;have HM:=aC hm;have HN:=aC hn;have HGV:=aC hgv;clear ih hr hwf hg hnp hgd hmp hm hn hta htw hgv;go_enter Tryz.func82,Tryz.ntmps82;go_upto_region 5 with fail
  have B0:Hid (wBl w ((w.alloc (.cells (nDf t.f) 25)).alloc (.cells #[.I t.f.k,.I t.f.n,.I t.f.mn,.I t.f.mx,.slice t.f.rq t.f.rs.length t.f.rc,.slice t.f.kq t.f.kl t.f.kc,.bool c,.bool o,.slice none 0 0,.func (.func 81) #[] #[bx bp]] 156))):=(bz9).alloc (by simp only [f4];omega) _;have N0:Hid (BoxN ((w.alloc (.cells (nDf t.f) 25)).alloc (.cells #[.I t.f.k,.I t.f.n,.I t.f.mn,.I t.f.mx,.slice t.f.rq t.f.rs.length t.f.rc,.slice t.f.kq t.f.kl t.f.kc,.bool c,.bool o,.slice none 0 0,.func (.func 81) #[] #[bx bp]] 156)) w.heap.size t.f):=(Below.heap_alloc _ _ _ (by simp only [f4];omega)).trans (aE w _);have S0:Hid (((w.alloc (.cells (nDf t.f) 25)).alloc (.cells #[.I t.f.k,.I t.f.n,.I t.f.mn,.I t.f.mx,.slice t.f.rq t.f.rs.length t.f.rc,.slice t.f.kq t.f.kl t.f.kc,.bool c,.bool o,.slice none 0 0,.func (.func 81) #[] #[bx bp]] 156)).heap[w.heap.size+1]?=some (.cells (cX t.f c o (.slice none 0 0) (.func (.func 81) #[] #[bx bp])) 156 (0,0))):=(by have:=aE (w.alloc (.cells (nDf t.f) 25)) (.cells #[.I t.f.k,.I t.f.n,.I t.f.mn,.I t.f.mx,.slice t.f.rq t.f.rs.length t.f.rc,.slice t.f.kq t.f.kl t.f.kc,.bool c,.bool o,.slice none 0 0,.func (.func 81) #[] #[bx bp]] 156);simp only [f4] at this;exact this);generalize hW0:((w.alloc (.cells (nDf t.f) 25)).alloc (.cells #[.I t.f.k,.I t.f.n,.I t.f.mn,.I t.f.mx,.slice t.f.rq t.f.rs.length t.f.rc,.slice t.f.kq t.f.kl t.f.kc,.bool c,.bool o,.slice none 0 0,.func (.func 81) #[] #[bx bp]] 156))=W0 at B0 N0 S0 ⊢;clear hW0;obtain⟨bs,hbs⟩:∃ bs,w.heap.size+1=bs:=⟨_,rfl⟩;have HBS:Hid (w.heap.size<=bs/\bs<W0.heap.size/\bs=w.heap.size+1):=⟨by omega,by rw [<- hbs];exact aB S0.o,hbs.symm⟩;rw [hbs] at S0 ⊢;clear hbs;have MB:Hid (∃ es clock,W0.heap[bb]?=some (.map es clock)):=aC (by obtain⟨es,cl,hb⟩:=HMP.o.block;exact⟨es,cl,(B0.o.block _ (aB hb)).trans hb⟩);go_loopw [19] (fun i wr=>∃ (j:Nat) (v:Value),j<=t.ks.length/\i=.I (j:Int)/\LpI ρ W0 wr bb bs n t c o g j v (.func (.func 81) #[] #[bx bp])) (fun i _=>t.ks.length-(intOf i).toNat)
  case atStart=>exact⟨0,_,o9 _,rfl,S0.o,(by rw [v9,cQ];exact⟨rfl,.inl ⟨rfl,rfl⟩⟩),(by rw [v9,cQ,eP];exact HMP.o.kept B0.o),Fr.refl _ _⟩
  case round=>
   clear S0;obtain⟨j,v,hj,rfl,hlp⟩:=hrel;obtain⟨qv,cv,rfl⟩:=aR hlp.own;have LP:=aC hlp;have CW:Hid (CK w wr):=fD MB.o HBS.o.1 B0.o hlp.fr;clear hlp;by_cases hjl:j<t.ks.length
   ·have e0:(j:Int)<(t.f.kl:Int):=by rw [HKL.o];omega
    obtain⟨u,hu⟩:∃ u,t.ks[j]?=some u:=⟨_,i9 hjl⟩;obtain⟨gq,off,hq,hgl,hsix⟩:=HK3.o j u hu;rw [hq];obtain⟨c0,c1,c2,c3,c4,c5⟩:=hsix.ck CW.o hgl;have HU:=aC hu;have hin:u∈t.ks:=n7 hu;clear hsix hu;have SK:Hid (Fr (Wr2 bb bs) W0 (wr.alloc (.cells (nDf u.f) 25)).drew/\BoxN (wr.alloc (.cells (nDf u.f) 25)).drew wr.heap.size u.f):=⟨(LP.o.fr.alloc _).drew,aE wr _⟩;have NE:Hid (¬ wr.heap.size=bb/\¬ bb=bs):=⟨fun e=>by have:=LP.o.mp.lt;omega,fun e=>by
     obtain⟨es,cl,hb⟩:=LP.o.mp.block;rw [e,LP.o.sc] at hb;cases hb⟩
    have NE3:Hid (wr.heap.size≠bs):=fun e=>by have:=aB LP.o.sc;omega
    have CB:Hid ((wr.alloc (.cells (nDf u.f) 25)).drew.heap[bs]?=some (.cells (cX t.f c o (.slice qv j cv) (.func (.func 81) #[] #[bx bp])) 156 (0,0))):=(Below.heap_alloc wr _ _ (aB LP.o.sc)).trans LP.o.sc;have k8:(wr.alloc (.cells (nDf u.f) 25)).drew.cell? (aDr bs 8)=some (.slice qv j cv):=aA CB.o (i:=8) rfl;have QC:Hid (∀ w',(Fr (Wr2 bb bs) W0 w'/\BoxN w' wr.heap.size u.f)->w'.cell? (aDr bo 0)=some (.func (.func 82) #[] #[bx bm,bx bg,bx bo,bx br,bx bp])/\w'.cell? (aDr wr.heap.size 0)=some (.I u.f.k)/\w'.cell? (aDr wr.heap.size 1)=some (.I u.f.n)/\w'.cell? (aDr wr.heap.size 2)=some (.I u.f.mn)/\w'.cell? (aDr wr.heap.size 3)=some (.I u.f.mx)/\w'.cell? (aDr wr.heap.size 4)=some (.slice u.f.rq u.f.rs.length u.f.rc)/\w'.cell? (aDr wr.heap.size 5)=some (.slice u.f.kq u.f.kl u.f.kc)):=fun w' hS=>by
     have six:=hS.2.six;simp only [Six,m9] at six;exact⟨aA (HTW.o.ck (fD MB.o HBS.o.1 B0.o hS.1)).o (i:=0) rfl,six⟩
    have MK:Hid (MapV (wr.alloc (.cells (nDf u.f) 25)).drew (.I 0) bb (n+szs (t.ks.take j)) (fun i=>enI ((evs ρ g (t.ks.take j)).2 i))):=LP.o.mp.kept ((bz9).drew);have OK:Hid ((wr.alloc (.cells (nDf u.f) 25)).drew.ownsRow W0.heap.size 3 1 (.slice qv j cv) j (ceI (evs ρ g (t.ks.take j)).1)):=aBY (o8 LP.o.own _);have CK2:Hid (CK w (wr.alloc (.cells (nDf u.f) 25)).drew):=fD MB.o HBS.o.1 B0.o SK.o.1;have LJ:=aC (show j<=1000000 by have:=cO t.ks;have:=hkz.o;have:=HN.o;omega);have IH0:=IH.o u (wr.alloc (.cells (nDf u.f) 25)).drew (n+szs (t.ks.take j)) (evs ρ g (t.ks.take j)).2 (by have:=cK hin;have:=HM.o;omega)
     (by have:=lB t.ks (j+1);rw [bL HU.o] at this;have:=hkz.o;have:=HN.o;omega) (hglo CK2.o HGW.o) ((HTA.o.ck CK2.o).kid hin) (bC HNP.o hin)
     (eM HG.o (t.ks.take j) g (fun u hu=>bC HNP.o (aAJ hu)) HGD.o).2 (HTW.o.ck CK2.o) MK.o
    obtain⟨x5,hx5⟩:∃ x,(ev ρ (evs ρ g (t.ks.take j)).2 u).1=x:=⟨_,rfl⟩;have IHU:Hid (Calls Tryz.prog 82 #[.agg (nDf u.f),bx bm,bx bg,bx bo,bx br,bx bp] (wr.alloc (.cells (nDf u.f) 25)).drew (fun e w'=>e=.returned (.I x5)/\MapV w' (.I 0) bb (n+szs (t.ks.take j)+u.sz) (fun i=>enI ((ev ρ (evs ρ g (t.ks.take j)).2 u).2 i))/\Fr (fun k=>k=bb) (wr.alloc (.cells (nDf u.f) 25)).drew w')):=aC (by subst hx5;exact IH0);have HX5:=aC hx5;clear hin IH0 hx5;go_wp2;refine wp_region_held_drew (S:=fun w'=>Fr (Wr2 bb bs) W0 w'/\BoxN w' wr.heap.size u.f) (by kernel_rfl) SK.o (fun hHeld=>?_);refine aCO (v:=?_) 0 ?_ ?_;rotate_left
    ·intro wz hSw;obtain⟨q0,q1,q2,q3,q4,q5,q6⟩:=QC.o wz hSw;clear hSw;go_simp;try with_reducible rfl
    dsimp only [Act.put,g9,g4,g8];simp only [f8,i8,i7];refine aCO (v:=?_) 2 ?_ ?_;rotate_left
    ·intro wz hSw;obtain⟨q0,q1,q2,q3,q4,q5,q6⟩:=QC.o wz hSw;clear hSw;go_simp;try with_reducible rfl
    dsimp only [Act.put,g9,g4,g8];simp only [f8,i8,i7];refine aCO (v:=?_) 3 ?_ ?_;rotate_left
    ·intro wz hSw;obtain⟨q0,q1,q2,q3,q4,q5,q6⟩:=QC.o wz hSw;clear hSw;go_simp;try with_reducible rfl
    dsimp only [Act.put,g9,g4,g8];simp only [f8,i8,i7];refine wpAnyH_ready (rs:=[1,4]) (by kernel_rfl) (by simp) ?_;refine AllReadyH.cons rfl (fun K hK=>?_) (AllReadyH.cons rfl (fun K hK=>?_) AllReadyH.nil)
    ·go_simp;refine hK.out _ _ SK.o (fun hHeld1=>?_);clear hK K;refine wpAnyH_ready (rs:=[4]) (by kernel_rfl) (by simp) ?_;refine AllReadyH.cons rfl (fun K hK=>?_) AllReadyH.nil;go_simp
     go_at_call 82
     refine IHU.o.mono ?_;rintro e w5 ⟨rfl,hm5,hf5⟩;have M5:=aC hm5;have F5:=aC hf5;clear hm5 hf5;have S5:Hid (Fr (Wr2 bb bs) W0 w5/\BoxN w5 wr.heap.size u.f):=⟨SK.o.1.trans (F5.o.mono (fun k e=>.inl e)),(F5.o.block _ (aB SK.o.2) (fun e=>NE.o.1 e)).trans SK.o.2⟩;refine hK.out _ _ S5.o (fun hHeld2=>?_);clear hK K;refine wpAnyH_ready (rs:=[5]) (by kernel_rfl) (by simp) ?_;refine AllReadyH.cons rfl (fun K hK=>?_) AllReadyH.nil;go_simp;have S6:Hid (Fr (Wr2 bb bs) W0 (w5.alloc (.cells #[.I x5] 3))/\BoxN (w5.alloc (.cells #[.I x5] 3)) wr.heap.size u.f):=⟨S5.o.1.alloc _,(Below.heap_alloc _ _ _ (aB S5.o.2)).trans S5.o.2⟩;refine hK.out _ _ S6.o (fun hHeld3=>?_);clear hK K;refine wpAnyH_ready (rs:=[6]) (by kernel_rfl) (by simp) ?_;refine AllReadyH.cons rfl (fun K hK=>?_) AllReadyH.nil;have O6:Hid ((w5.alloc (.cells #[.I x5] 3)).ownsRow W0.heap.size 3 1 (.slice qv j cv) j (ceI (evs ρ g (t.ks.take j)).1)):=o8 (aH OK.o F5.o (fun k e z=>bJ OK.o MK.o.block (z ▸ e))) _;refine aZ rfl _ _ 44 rfl W0.heap.size 3 t0 (.I 0) 1 8 wF TI.o.1 TI.o.2.1 TI.o.2.2.1 TI.o.2.2.2 rfl (by decide) (.slice qv j cv) j (ceI (evs ρ g (t.ks.take j)).1) (by simp [Act.eval]) O6.o (aDr w5.heap.size 0) 1 1 [.I x5] (by simp [Act.eval]) rfl (bI w5 [.I x5] _) (by simp [Value.oneCell']) (by have:=LJ.o;unfold maxLen;omega) (by have:=LJ.o;omega) (m8 S5.o.1.size (by simp only [f4];omega)) ?_;intro v' w6 hown' hgrow hblk;obtain⟨g6,cap6,rfl⟩:=aL hown' (aAL _);have O7:=aC hown';have G6:=aC hgrow;clear hown' hgrow hblk;have S7:Hid (Fr (Wr2 bb bs) W0 w6/\BoxN w6 wr.heap.size u.f):=⟨S6.o.1.grownNew G6.o (fun k e=>(aF O6.o e).1),(G6.o.block _ (aB S6.o.2) (fun e=>by
      have:=(aF LP.o.own e.symm).2.1;omega)).trans S6.o.2⟩
     have C7:Hid (w6.heap[bs]?=some (.cells (cX t.f c o (.slice qv j cv) (.func (.func 81) #[] #[bx bp])) 156 (0,0))):=(by
      have e5:=(F5.o.block _ (aB CB.o) (fun e=>NE.o.2 e.symm)).trans CB.o;have e6:=(Below.heap_alloc w5 (.cells #[.I x5] 3) _ (aB e5)).trans e5;exact(G6.o.block _ (aB e6) (fun e=>aO O6.o e6 (by decide) e.symm)).trans e6)
     have M7:Hid (MapV w6 (.I 0) bb (n+szs (t.ks.take j)+u.sz) (fun i=>enI ((ev ρ (evs ρ g (t.ks.take j)).2 u).2 i))):=(by
      have m6:=M5.o.kept ((Below.refl _ _).alloc lz9 (.cells #[.I x5] 3));exact m6.same (G6.o.block _ m6.lt (fun e=>bJ O6.o m6.block e.symm)))
     refine hK.out _ _ S7.o (fun hHeld4=>?_);clear hK K;refine aCO (v:=?_) 7 ?_ ?_;rotate_left
     ·intro wz hSw;obtain⟨q0,q1,q2,q3,q4,q5,q6⟩:=QC.o wz hSw;clear hSw;go_simp;try with_reducible rfl
     dsimp only [Act.put,g9,g4,g8];simp only [f8,i8,i7];refine wpAnyH_ready (rs:=[8]) (by kernel_rfl) (by simp) ?_;refine AllReadyH.cons rfl (fun K hK=>?_) AllReadyH.nil;have k7:w6.cell? (aDr bs 8)=some (.slice qv j cv):=aA C7.o (i:=8) rfl;have fz:=aG C7.o 8;go_simp;have S8:Hid (Fr (Wr2 bb bs) W0 (w6.setCell (aDr bs 8) (.slice (some (aDr g6 0)) (j+1) cap6))/\BoxN (w6.setCell (aDr bs 8) (.slice (some (aDr g6 0)) (j+1) cap6)) wr.heap.size u.f):=⟨S7.o.1.setCell (p:=(aDr bs 8)) (.inr rfl) _,(Below.heap_setCell _ _ _ _ (fun e=>NE3.o e)).trans S7.o.2⟩;refine hK.out _ _ S8.o (fun hHeld5=>?_);clear hK K;refine wpAnyH_done (by kernel_rfl) ?_ _;have LQ:Hid (LpI ρ W0 (w6.setCell (aDr bs 8) (.slice (some (aDr g6 0)) (j+1) cap6)) bb bs n t c o g (j+1) (.slice (some (aDr g6 0)) (j+1) cap6) (.func (.func 81) #[] #[bx bp])):=by
      obtain⟨ea,eb⟩:=dD (ρ:=ρ) HU.o g;refine⟨aN C7.o 8 _,?_,?_,S8.o.1⟩
      ·rw [ea,xO,HX5.o];exact aH O7.o ((Fr.refl (fun k=>k=bs) w6).setCell (p:=(aDr bs 8)) rfl _) (fun k e z=>aO O7.o C7.o (by decide) (z ▸ e))
      ·rw [eb,bL HU.o,<- aAN];exact M7.o.fr ((Fr.refl (fun k=>k=bs) w6).setCell (p:=(aDr bs 8)) rfl _) (fun e=>by
        obtain⟨es,cl,hb⟩:=M7.o.block;rw [e,C7.o] at hb;cases hb)
     clear k7 fz;go_wp2;go_roundw
     case rel=>exact⟨j+1,_,by omega,by go_num,LQ.o⟩
     case measure=>simp only [intOf];omega
    ·go_simp
     go_at_call 82
     refine IHU.o.mono ?_;rintro e w5 ⟨rfl,hm5,hf5⟩;have M5:=aC hm5;have F5:=aC hf5;clear hm5 hf5;have S5:Hid (Fr (Wr2 bb bs) W0 w5/\BoxN w5 wr.heap.size u.f):=⟨SK.o.1.trans (F5.o.mono (fun k e=>.inl e)),(F5.o.block _ (aB SK.o.2) (fun e=>NE.o.1 e)).trans SK.o.2⟩;refine hK.out _ _ S5.o (fun hHeld1=>?_);clear hK K;refine wpAnyH_ready (rs:=[1,5]) (by kernel_rfl) (by simp) ?_;refine AllReadyH.cons rfl (fun K hK=>?_) (AllReadyH.cons rfl (fun K hK=>?_) AllReadyH.nil)
     ·have k9:w5.cell? (aDr bs 8)=some (.slice qv j cv):=aA ((F5.o.block _ (aB CB.o) (fun e=>NE.o.2 e.symm)).trans CB.o) (i:=8) rfl;go_simp;refine hK.out _ _ S5.o (fun hHeld2=>?_);clear hK K;refine wpAnyH_ready (rs:=[5]) (by kernel_rfl) (by simp) ?_;refine AllReadyH.cons rfl (fun K hK=>?_) AllReadyH.nil;go_simp;have S6:Hid (Fr (Wr2 bb bs) W0 (w5.alloc (.cells #[.I x5] 3))/\BoxN (w5.alloc (.cells #[.I x5] 3)) wr.heap.size u.f):=⟨S5.o.1.alloc _,(Below.heap_alloc _ _ _ (aB S5.o.2)).trans S5.o.2⟩;refine hK.out _ _ S6.o (fun hHeld3=>?_);clear hK K;refine wpAnyH_ready (rs:=[6]) (by kernel_rfl) (by simp) ?_;refine AllReadyH.cons rfl (fun K hK=>?_) AllReadyH.nil;have O6:Hid ((w5.alloc (.cells #[.I x5] 3)).ownsRow W0.heap.size 3 1 (.slice qv j cv) j (ceI (evs ρ g (t.ks.take j)).1)):=o8 (aH OK.o F5.o (fun k e z=>bJ OK.o MK.o.block (z ▸ e))) _;refine aZ rfl _ _ 44 rfl W0.heap.size 3 t0 (.I 0) 1 8 wF TI.o.1 TI.o.2.1 TI.o.2.2.1 TI.o.2.2.2 rfl (by decide) (.slice qv j cv) j (ceI (evs ρ g (t.ks.take j)).1) (by simp [Act.eval]) O6.o (aDr w5.heap.size 0) 1 1 [.I x5] (by simp [Act.eval]) rfl (bI w5 [.I x5] _) (by simp [Value.oneCell']) (by have:=LJ.o;unfold maxLen;omega) (by have:=LJ.o;omega) (m8 S5.o.1.size (by simp only [f4];omega)) ?_;intro v' w6 hown' hgrow hblk;obtain⟨g6,cap6,rfl⟩:=aL hown' (aAL _);have O7:=aC hown';have G6:=aC hgrow;clear hown' hgrow hblk;have S7:Hid (Fr (Wr2 bb bs) W0 w6/\BoxN w6 wr.heap.size u.f):=⟨S6.o.1.grownNew G6.o (fun k e=>(aF O6.o e).1),(G6.o.block _ (aB S6.o.2) (fun e=>by
       have:=(aF LP.o.own e.symm).2.1;omega)).trans S6.o.2⟩
      have C7:Hid (w6.heap[bs]?=some (.cells (cX t.f c o (.slice qv j cv) (.func (.func 81) #[] #[bx bp])) 156 (0,0))):=(by
       have e5:=(F5.o.block _ (aB CB.o) (fun e=>NE.o.2 e.symm)).trans CB.o;have e6:=(Below.heap_alloc w5 (.cells #[.I x5] 3) _ (aB e5)).trans e5;exact(G6.o.block _ (aB e6) (fun e=>aO O6.o e6 (by decide) e.symm)).trans e6)
      have M7:Hid (MapV w6 (.I 0) bb (n+szs (t.ks.take j)+u.sz) (fun i=>enI ((ev ρ (evs ρ g (t.ks.take j)).2 u).2 i))):=(by
       have m6:=M5.o.kept ((Below.refl _ _).alloc lz9 (.cells #[.I x5] 3));exact m6.same (G6.o.block _ m6.lt (fun e=>bJ O6.o m6.block e.symm)))
      refine hK.out _ _ S7.o (fun hHeld4=>?_);clear hK K;refine aCO (v:=?_) 7 ?_ ?_;rotate_left
      ·intro wz hSw;obtain⟨q0,q1,q2,q3,q4,q5,q6⟩:=QC.o wz hSw;clear hSw;go_simp;try with_reducible rfl
      dsimp only [Act.put,g9,g4,g8];simp only [f8,i8,i7];refine wpAnyH_ready (rs:=[8]) (by kernel_rfl) (by simp) ?_;refine AllReadyH.cons rfl (fun K hK=>?_) AllReadyH.nil;have k7:w6.cell? (aDr bs 8)=some (.slice qv j cv):=aA C7.o (i:=8) rfl;have fz:=aG C7.o 8;go_simp;have S8:Hid (Fr (Wr2 bb bs) W0 (w6.setCell (aDr bs 8) (.slice (some (aDr g6 0)) (j+1) cap6))/\BoxN (w6.setCell (aDr bs 8) (.slice (some (aDr g6 0)) (j+1) cap6)) wr.heap.size u.f):=⟨S7.o.1.setCell (p:=(aDr bs 8)) (.inr rfl) _,(Below.heap_setCell _ _ _ _ (fun e=>NE3.o e)).trans S7.o.2⟩;refine hK.out _ _ S8.o (fun hHeld5=>?_);clear hK K;refine wpAnyH_done (by kernel_rfl) ?_ _;have LQ:Hid (LpI ρ W0 (w6.setCell (aDr bs 8) (.slice (some (aDr g6 0)) (j+1) cap6)) bb bs n t c o g (j+1) (.slice (some (aDr g6 0)) (j+1) cap6) (.func (.func 81) #[] #[bx bp])):=by
       obtain⟨ea,eb⟩:=dD (ρ:=ρ) HU.o g;refine⟨aN C7.o 8 _,?_,?_,S8.o.1⟩
       ·rw [ea,xO,HX5.o];exact aH O7.o ((Fr.refl (fun k=>k=bs) w6).setCell (p:=(aDr bs 8)) rfl _) (fun k e z=>aO O7.o C7.o (by decide) (z ▸ e))
       ·rw [eb,bL HU.o,<- aAN];exact M7.o.fr ((Fr.refl (fun k=>k=bs) w6).setCell (p:=(aDr bs 8)) rfl _) (fun e=>by
         obtain⟨es,cl,hb⟩:=M7.o.block;rw [e,C7.o] at hb;cases hb)
      clear k7 fz;go_wp2;go_roundw
      case rel=>exact⟨j+1,_,by omega,by go_num,LQ.o⟩
      case measure=>simp only [intOf];omega
     ·go_simp;have S6:Hid (Fr (Wr2 bb bs) W0 (w5.alloc (.cells #[.I x5] 3))/\BoxN (w5.alloc (.cells #[.I x5] 3)) wr.heap.size u.f):=⟨S5.o.1.alloc _,(Below.heap_alloc _ _ _ (aB S5.o.2)).trans S5.o.2⟩;refine hK.out _ _ S6.o (fun hHeld2=>?_);clear hK K;refine wpAnyH_ready (rs:=[1]) (by kernel_rfl) (by simp) ?_;refine AllReadyH.cons rfl (fun K hK=>?_) AllReadyH.nil;have k9:(w5.alloc (.cells #[.I x5] 3)).cell? (aDr bs 8)=some (.slice qv j cv):=(by have e5:=(F5.o.block _ (aB CB.o) (fun e=>NE.o.2 e.symm)).trans CB.o;exact aA ((Below.heap_alloc w5 (.cells #[.I x5] 3) _ (aB e5)).trans e5) (i:=8) rfl);go_simp;refine hK.out _ _ S6.o (fun hHeld3=>?_);clear hK K;refine wpAnyH_ready (rs:=[6]) (by kernel_rfl) (by simp) ?_;refine AllReadyH.cons rfl (fun K hK=>?_) AllReadyH.nil;have O6:Hid ((w5.alloc (.cells #[.I x5] 3)).ownsRow W0.heap.size 3 1 (.slice qv j cv) j (ceI (evs ρ g (t.ks.take j)).1)):=o8 (aH OK.o F5.o (fun k e z=>bJ OK.o MK.o.block (z ▸ e))) _;refine aZ rfl _ _ 44 rfl W0.heap.size 3 t0 (.I 0) 1 8 wF TI.o.1 TI.o.2.1 TI.o.2.2.1 TI.o.2.2.2 rfl (by decide) (.slice qv j cv) j (ceI (evs ρ g (t.ks.take j)).1) (by simp [Act.eval]) O6.o (aDr w5.heap.size 0) 1 1 [.I x5] (by simp [Act.eval]) rfl (bI w5 [.I x5] _) (by simp [Value.oneCell']) (by have:=LJ.o;unfold maxLen;omega) (by have:=LJ.o;omega) (m8 S5.o.1.size (by simp only [f4];omega)) ?_;intro v' w6 hown' hgrow hblk;obtain⟨g6,cap6,rfl⟩:=aL hown' (aAL _);have O7:=aC hown';have G6:=aC hgrow;clear hown' hgrow hblk;have S7:Hid (Fr (Wr2 bb bs) W0 w6/\BoxN w6 wr.heap.size u.f):=⟨S6.o.1.grownNew G6.o (fun k e=>(aF O6.o e).1),(G6.o.block _ (aB S6.o.2) (fun e=>by
       have:=(aF LP.o.own e.symm).2.1;omega)).trans S6.o.2⟩
      have C7:Hid (w6.heap[bs]?=some (.cells (cX t.f c o (.slice qv j cv) (.func (.func 81) #[] #[bx bp])) 156 (0,0))):=(by
       have e5:=(F5.o.block _ (aB CB.o) (fun e=>NE.o.2 e.symm)).trans CB.o;have e6:=(Below.heap_alloc w5 (.cells #[.I x5] 3) _ (aB e5)).trans e5;exact(G6.o.block _ (aB e6) (fun e=>aO O6.o e6 (by decide) e.symm)).trans e6)
      have M7:Hid (MapV w6 (.I 0) bb (n+szs (t.ks.take j)+u.sz) (fun i=>enI ((ev ρ (evs ρ g (t.ks.take j)).2 u).2 i))):=(by
       have m6:=M5.o.kept ((Below.refl _ _).alloc lz9 (.cells #[.I x5] 3));exact m6.same (G6.o.block _ m6.lt (fun e=>bJ O6.o m6.block e.symm)))
      refine hK.out _ _ S7.o (fun hHeld4=>?_);clear hK K;refine aCO (v:=?_) 7 ?_ ?_;rotate_left
      ·intro wz hSw;obtain⟨q0,q1,q2,q3,q4,q5,q6⟩:=QC.o wz hSw;clear hSw;go_simp;try with_reducible rfl
      dsimp only [Act.put,g9,g4,g8];simp only [f8,i8,i7];refine wpAnyH_ready (rs:=[8]) (by kernel_rfl) (by simp) ?_;refine AllReadyH.cons rfl (fun K hK=>?_) AllReadyH.nil;have k7:w6.cell? (aDr bs 8)=some (.slice qv j cv):=aA C7.o (i:=8) rfl;have fz:=aG C7.o 8;go_simp;have S8:Hid (Fr (Wr2 bb bs) W0 (w6.setCell (aDr bs 8) (.slice (some (aDr g6 0)) (j+1) cap6))/\BoxN (w6.setCell (aDr bs 8) (.slice (some (aDr g6 0)) (j+1) cap6)) wr.heap.size u.f):=⟨S7.o.1.setCell (p:=(aDr bs 8)) (.inr rfl) _,(Below.heap_setCell _ _ _ _ (fun e=>NE3.o e)).trans S7.o.2⟩;refine hK.out _ _ S8.o (fun hHeld5=>?_);clear hK K;refine wpAnyH_done (by kernel_rfl) ?_ _;have LQ:Hid (LpI ρ W0 (w6.setCell (aDr bs 8) (.slice (some (aDr g6 0)) (j+1) cap6)) bb bs n t c o g (j+1) (.slice (some (aDr g6 0)) (j+1) cap6) (.func (.func 81) #[] #[bx bp])):=by
       obtain⟨ea,eb⟩:=dD (ρ:=ρ) HU.o g;refine⟨aN C7.o 8 _,?_,?_,S8.o.1⟩
       ·rw [ea,xO,HX5.o];exact aH O7.o ((Fr.refl (fun k=>k=bs) w6).setCell (p:=(aDr bs 8)) rfl _) (fun k e z=>aO O7.o C7.o (by decide) (z ▸ e))
       ·rw [eb,bL HU.o,<- aAN];exact M7.o.fr ((Fr.refl (fun k=>k=bs) w6).setCell (p:=(aDr bs 8)) rfl _) (fun e=>by
         obtain⟨es,cl,hb⟩:=M7.o.block;rw [e,C7.o] at hb;cases hb)
      clear k7 fz;go_wp2;go_roundw
      case rel=>exact⟨j+1,_,by omega,by go_num,LQ.o⟩
      case measure=>simp only [intOf];omega
   ·have e0:¬ (j:Int)<(t.f.kl:Int):=by rw [HKL.o];omega
    obtain rfl:j=t.ks.length:=by omega
    have hk:t.ks.take t.ks.length=t.ks:=aBF;have XO:=aC (hk ▸ LP.o.own);have XM:=aC (hk ▸ LP.o.mp);have r0:wr.cell? (aDr br 0)=some (.func (.func 42) #[] #[]):=aA (HTW.o.ck CW.o).r (i:=0) rfl;have s0:wr.cell? (aDr bs 0)=some (.I t.f.k):=aA LP.o.sc (i:=0) rfl;have s1:wr.cell? (aDr bs 1)=some (.I t.f.n):=aA LP.o.sc (i:=1) rfl;have s2:wr.cell? (aDr bs 2)=some (.I t.f.mn):=aA LP.o.sc (i:=2) rfl;have s3:wr.cell? (aDr bs 3)=some (.I t.f.mx):=aA LP.o.sc (i:=3) rfl;have s4:wr.cell? (aDr bs 4)=some (.slice t.f.rq t.f.rs.length t.f.rc):=aA LP.o.sc (i:=4) rfl;have s5:wr.cell? (aDr bs 5)=some (.slice t.f.kq t.f.kl t.f.kc):=aA LP.o.sc (i:=5) rfl;have s6:wr.cell? (aDr bs 6)=some (.bool c):=aA LP.o.sc (i:=6) rfl;have s7:wr.cell? (aDr bs 7)=some (.bool o):=aA LP.o.sc (i:=7) rfl;have s8:wr.cell? (aDr bs 8)=some (.slice qv t.ks.length cv):=aA LP.o.sc (i:=8) rfl;have s9:wr.cell? (aDr bs 9)=some (.func (.func 81) #[] #[bx bp]):=aA LP.o.sc (i:=9) rfl;clear hk;obtain⟨gx,gy⟩:=eM HG.o t.ks g (fun u hu=>bC HNP.o hu) HGD.o;have hC:=HR.o t (evs ρ g t.ks).1 (evs ρ g t.ks).2 wr (.slice qv t.ks.length cv) bp bb (n+szs t.ks) W0.heap.size (hglo CW.o HGW.o) ((aQ t).1 HNP.o).1 (by have:=cO t.ks;have:=hkz.o;have:=HN.o;omega) ((HTA.o.ck CW.o).node) (fT _ _) gx gy (by rw [fT];exact XO.o) (HTW.o.ck CW.o).p XM.o;simp only [cX,enI] at hC;have HC:=aC hC;clear hC gx gy;have BN:Hid (BoxN wr w.heap.size t.f):=(LP.o.fr.block _ (aB N0.o) (fun z=>by
     rcases z with e | e
     ·obtain⟨es,cl,hb⟩:=MB.o;rw [<- e,show W0.heap[w.heap.size]?=_ from N0.o] at hb;cases hb
     ·have:=HBS.o.2.2;omega)).trans N0.o
    have hx:(ev ρ g t).1=ρ t.f t.ks (evs ρ g t.ks).1 (evs ρ g t.ks).2:=kN g t;rw [<- hx] at HC;have HS:=aC (lP (ρ:=ρ) g t);obtain⟨x,hxx⟩:∃ x,(ev ρ g t).1=x:=⟨_,rfl⟩;rw [hxx] at HC HS;have HX:=aC hxx;clear hx hxx;have FW:Hid (Fr (fun k=>k=bb) w wr):=tD HBS.o.1 B0.o LP.o.fr;by_cases h7:t.f.k=7
    ·have h7b:(t.f.k==7)=true:=by simp [h7]
     have WF:Hid ((Lit.int .i64 t.f.n).wf=true):=HWF.o t ((aQ t).1 HNP.o).1 h7;rw [if_pos h7] at HS;clear h7;go_wp2_with first
      |(go_at_call 42;refine HC.o.mono ?_;rintro e w5 ⟨rfl,h5⟩;have B5:=aC h5;clear h5 s0 s1 s2 s3 s4 s5 s6 s7 s8 s9 r0;have N5:Hid (BoxN w5 w.heap.size t.f):=(B5.o.block _ (aB BN.o)).trans BN.o;have k0:w5.cell? (aDr w.heap.size 0)=some (.I t.f.k):=N5.o.six.1;have k1:w5.cell? (aDr w.heap.size 1)=some (.I t.f.n):=N5.o.six.2.1;have p0:w5.cell? (aDr bp 0)=some (.map (some bb)):=aA (((HTW.o.ck CW.o).ck (CK.of_below B5.o))).p (i:=0) rfl)
      |(at_mapUpdate;refine eI _ rfl _ _ _ 153 rfl 3 bQ7 (.int .i64 0) bb (n+szs t.ks) (fun i=>enI ((evs ρ g t.ks).2 i)) rfl (XM.o.kept B5.o) (by have:=HN.o;have:=hkz.o;unfold maxLen;omega) t.f.n rfl WF.o (enI x) rfl ?_;intro w6 hm6 hg6;have M6:=aC hm6;have G6:=aC hg6;clear hm6 hg6)
     go_ret;refine⟨by rw [HX.o];rfl,?_,(FW.o.then B5.o).grown G6.o (fun k e=>by injection e with e;exact e.symm)⟩;rw [HS.o,<- rW,show n+t.sz=n+szs t.ks+1 by have:=hkz.o;omega];exact M6.o
    ·have h7b:(t.f.k==7)=false:=by simp [h7]
     rw [if_neg h7] at HS;clear h7;go_wp2_with first
      |(go_at_call 42;refine HC.o.mono ?_;rintro e w5 ⟨rfl,h5⟩;have B5:=aC h5;clear h5 s0 s1 s2 s3 s4 s5 s6 s7 s8 s9 r0;have N5:Hid (BoxN w5 w.heap.size t.f):=(B5.o.block _ (aB BN.o)).trans BN.o;have k0:w5.cell? (aDr w.heap.size 0)=some (.I t.f.k):=N5.o.six.1;have k1:w5.cell? (aDr w.heap.size 1)=some (.I t.f.n):=N5.o.six.2.1;have p0:w5.cell? (aDr bp 0)=some (.map (some bb)):=aA (((HTW.o.ck CW.o).ck (CK.of_below B5.o))).p (i:=0) rfl)
     go_ret;refine⟨by rw [HX.o];rfl,?_,FW.o.then B5.o⟩;rw [HS.o];exact(XM.o.kept B5.o).mono (by have:=hkz.o;omega)
end
end Go.Proofs.YtdgfpiekjigfnaaGreatDoor

/-
  Parts of the proof.
-/
import Derived.Test.YticfnglebbakkaaGreatDoorApartProofB10
import Derived.Test.YticfnglebbakkaaGreatDoorApartProofB1
import Derived.Test.YticfnglebbakkaaGreatDoorApartProofB11
import Derived.Test.YticfnglebbakkaaGreatDoorApartProofB0
namespace Go.Proofs.YticfnglebbakkaaGreatDoor
open Go Go.RowKit
section
mutual
def Er.sz:Er->Nat | .mk _ _ _ _ _ ks=>mG ks+1
def mG:List Er->Nat | []=>0 | x :: xs=>x.sz+mG xs
end
def Er.k:Er->Int | .mk k _ _ _ _ _=>k
def Er.ks:Er->List Er | .mk _ _ _ _ _ ks=>ks
theorem iG(x:Er):x.sz=mG x.ks+1:=by cases x;rw [Er.sz];rfl
theorem gQ(x:Er)(l:List Er):mG (x :: l)=x.sz+mG l:=by rw [mG]
theorem fC:mG []=0:=by rw [mG]
theorem aH6(t:Tr):(er t).k=t.f.k:=by rw [lK];rfl
theorem aD7(t:Tr):(er t).ks=t.ks.map er:=by rw [lK];rfl
theorem aD6(t:Tr):(er t).sz=t.sz:=by
 refine Tr.ind (P:=fun t=>(er t).sz=t.sz) (fun t ih=>?_) t
 rw [iG,aD7,oY]
 congr 1
 have:∀ l:List Tr,(∀ u∈l,(er u).sz=u.sz)->mG (l.map er)=szs l:=by
  intro l
  induction l with
  | nil=>intro _;rw [List.map_nil,fC,sY]
  | cons x l ih2=>
   intro h
   rw [List.map_cons,gQ,iM,h x (List.mem_cons_self ..),ih2 (fun u hu=>h u (List.mem_cons_of_mem _ hu))]
 exact this t.ks ih
section
variable {V:World} {g:Nat} {t1 t2 t3:Tr}
end
end
theorem gR{t:Tr}{k n mn mx:Int}{rs:List (Int × Int)}{l:List Er}(h:er t=.mk k n mn mx rs l):t.f.k=k/\t.f.n=n/\t.f.mn=mn/\t.f.mx=mx/\t.f.rs=rs/\t.ks.map er=l:=by
 rw [lK] at h
 injection h with h1 h2 h3 h4 h5 h6
 exact⟨h1,h2,h3,h4,h5,h6⟩
theorem tN{ks:List Tr}{x:Er}(h:ks.map er=[x]):∃ a,ks=[a]/\er a=x:=by
 match ks,h with
 | [a],h=>simp at h;exact⟨a,rfl,h⟩
theorem aE5(x:Ps):(te x).k=x.kd:=by
 cases x with
 | row l=>simp only [te,Ps.kd];split <;> rfl
 | _=>simp [te,Ps.kd,Er.k]
theorem aD2(x:Ps):(te x).sz=x.sz:=by
 refine Ps.ind (P:=fun x=>(te x).sz=x.sz) (fun x ih=>?_) x
 have hl:∀ l:List Ps,(∀ y∈l,(te y).sz=y.sz)->mG (tes l)=lA l:=by
  intro l
  induction l with
  | nil=>intro _;rw [tes,fC,pO]
  | cons y l ih2=>intro h;rw [tes,gQ,mT,h y (List.mem_cons_self ..),ih2 (fun z hz=>h z (List.mem_cons_of_mem _ hz))]
 cases x with
 | lf k n rs=>simp only [te,Ps.sz,iG,Er.ks,fC]
 | grp n k=>rw [te,iG,Ps.sz];simp only [Er.ks];rw [gQ,fC,ih k (by simp [Ps.kids])]
 | rep a b k=>rw [te,iG,Ps.sz];simp only [Er.ks];rw [gQ,fC,ih k (by simp [Ps.kids])]
 | row l=>
  rw [te,Ps.sz]
  split
  ·rename_i h
   rw [List.isEmpty_iff.1 h,iG,pO];simp only [Er.ks,fC]
  ·rw [iG];simp only [Er.ks];rw [hl l ih]
 | alt l=>rw [te,Ps.sz,iG];simp only [Er.ks];rw [hl l ih]
theorem jE(a b:List El):dE (a ++ b)=max (dE a) (dE b):=by
 induction a with
 | nil=>simp [dE]
 | cons x a ih=>simp only [List.cons_append,dE,ih];omega
theorem tW(x:Ps):∀ (t:Tr) (wy:Way),er t=te x->dE (pp wy t)=wy.length+x.dp:=by
 refine Ps.ind (P:=fun x=>∀ (t:Tr) (wy:Way),er t=te x->dE (pp wy t)=wy.length+x.dp) (fun x ih t wy h=>?_) x
 have hl:∀ (l:List Ps) (ks:List Tr) (i:Nat),(∀ y∈l,∀ (t:Tr) (wy:Way),er t=te y->dE (pp wy t)=wy.length+y.dp)->ks.map er=l.map te->dE (pps t wy i ks)=if l=[] then 0 else wy.length+1+jT l:=by
  intro l
  induction l with
  | nil=>
   intro ks i _ h
   obtain rfl:ks=[]:=by simpa using h
   rw [aQ,if_pos rfl];rfl
  | cons y l ih2=>
   intro ks i h hk
   match ks,hk with
   | u :: ks,hk=>
    rw [List.map_cons,List.map_cons] at hk
    injection hk with h1 h2
    rw [aT,jE,h y (List.mem_cons_self ..) u _ h1,ih2 ks (i+1) (fun z hz=>h z (List.mem_cons_of_mem _ hz)) h2,jT,List.length_cons]
    by_cases e:l=[]
    ·subst e
     rw [if_pos rfl,if_neg (by simp),jT];omega
    ·rw [if_neg e,if_neg (by simp)];omega
 rw [cN]
 simp only [dE]
 have hks:t.ks.map er=(te x).ks:=by rw [<- aD7,h]
 cases x with
 | lf k n rs=>
  rw [te] at hks
  rw [show t.ks=[] by simpa [Er.ks] using hks,aQ,Ps.dp]
  simp [dE]
 | grp n k=>
  rw [te] at hks
  rw [hl [k] t.ks 0 ih (by simpa [Er.ks] using hks),if_neg (by simp),Ps.dp,jT,jT]
  omega
 | rep a b k=>
  rw [te] at hks
  rw [hl [k] t.ks 0 ih (by simpa [Er.ks] using hks),if_neg (by simp),Ps.dp,jT,jT]
  omega
 | row l=>
  rw [te] at hks
  by_cases e:l=[]
  ·subst e
   rw [if_pos (show ([]:List Ps).isEmpty=true from rfl)] at hks
   rw [show t.ks=[] by simpa [Er.ks] using hks,aQ,Ps.dp,jT]
   simp [dE]
  ·rw [if_neg (by simpa using e)] at hks
   rw [hl l t.ks 0 ih (by rw [<- gM];simpa [Er.ks] using hks),if_neg e,Ps.dp]
   omega
 | alt l=>
  rw [te] at hks
  rw [hl l t.ks 0 ih (by rw [<- gM];simpa [Er.ks] using hks),Ps.dp]
  split
  ·rename_i e;rw [e,jT];omega
  ·omega
def fS(c f:Bool):Sgn->Prop
 | .lf k n rs=>(k=2->gY c f rs/\n=0)/\(k≠2->rs=[])/\(k=8->1<=n/\n<=9)/\(k≠8->n=0)
 | .rp a b=>eT a b=true
 | _=>True
def LKr(c f:Bool)(x:El)(gr:Nat):Prop:=
 bO x.1 x.2.f.k=true/\aG c f ((gr:Int)+1) x.2.f/\eF x.2.f.k x.2.ks.length=true/\(x.2.f.k=7->x.2.f.n<=30)/\(x.2.f.k=8->fT x.1 x.2.f.n=false/\x.2.f.n<=(gr:Int))
def RTr(c f:Bool)(gr:Nat)(L:List El):Prop:=∀ pre x post,L=pre ++ x :: post->LKr c f x (gr+aL pre)
theorem RTr.nil(c f:Bool)(gr:Nat):RTr c f gr []:=fun pre x post h=>by cases pre <;> cases h
theorem RTr.append{c f:Bool}{gr:Nat}{A B:List El}(h1:RTr c f gr A)(h2:RTr c f (gr+aL A) B):RTr c f gr (A ++ B):=by
 intro pre x post h
 rcases List.append_eq_append_iff.1 h with⟨a,e1,e2⟩ | ⟨a,e1,e2⟩
 ·rw [e1,cX,<- Nat.add_assoc]
  exact h2 a x post e2
 ·cases a with
  | nil=>
   simp at e1 e2
   subst e1
   have:=h2 [] x post (by simp [<- e2])
   simpa [aL] using this
  | cons y a=>
   simp at e2
   obtain⟨rfl,e2⟩:=e2
   exact h1 pre x a e1
theorem RTr.one{c f:Bool}{gr:Nat}{x:El}(h:LKr c f x gr):RTr c f gr [x]:=by
 intro pre y post e
 cases pre with
 | nil=>simp at e;obtain⟨rfl,-⟩:=e;simpa [aL] using h
 | cons z pre=>simp at e
theorem tQ(g:Nat)(o e:List Nat)(l:List Sgn):hk g o e (.al :: l)=hk g o e l:=rfl
theorem aJ4(g:Nat)(o e:List Nat)(a b:Int)(l:List Sgn):hk g o e (.rp a b :: l)=hk g o e l:=rfl
def Iv(gr:Nat)(e:List Nat)(wy:Way):Prop:=∀ n∈e,n<=gr/\fT wy (n:Int)=false
def Av(gr:Nat)(wy:Way):Prop:=∀ y∈wy,y.1.f.k=7->y.1.f.n<=(gr:Int)
theorem Av.mono{gr gr':Nat}{wy:Way}(h:Av gr wy)(hg:gr<=gr'):Av gr' wy:=fun y hy hk=>by have:=h y hy hk;omega
theorem cK(t:Tr)(i:Nat)(wy:Way)(n:Int):fT ((t,i) :: wy) n=((t.f.k==7 && t.f.n==n) || fT wy n):=by simp [fT]
theorem Iv.down{gr:Nat}{e:List Nat}{wy:Way}{t:Tr}(i:Nat)(h:Iv gr e wy)(hk:t.f.k≠7):Iv gr e ((t,i) :: wy):=fun n hn=>⟨(h n hn).1,by rw [cK,(h n hn).2];simp [hk]⟩
theorem Iv.up{gr:Nat}{e:List Nat}{wy:Way}{t:Tr}{i:Nat}(h:Iv gr e ((t,i) :: wy)):Iv gr e wy:=fun n hn=>⟨(h n hn).1,by have:=(h n hn).2;rw [cK] at this;simp only [Bool.or_eq_false_iff] at this;exact this.2⟩
theorem Iv.turn{gr:Nat}{e:List Nat}{wy:Way}{t:Tr}{i:Nat}(j:Nat)(h:Iv gr e ((t,i) :: wy)):Iv gr e ((t,j) :: wy):=fun n hn=>⟨(h n hn).1,by have:=(h n hn).2;rw [cK] at this ⊢;exact this⟩
theorem Av.down{gr:Nat}{wy:Way}{t:Tr}(i:Nat)(h:Av gr wy)(hk:t.f.k=7->t.f.n<=(gr:Int)):Av gr ((t,i) :: wy):=fun y hy h7=>by
 rcases List.mem_cons.1 hy with rfl | hy
 ·exact hk h7
 ·exact h y hy h7
theorem Av.end_{gr:Nat}{wy:Way}(h:Av gr wy){n:Nat}(hn:gr < n):fT wy (n:Int)=false:=by
 unfold fT
 rw [List.any_eq_false]
 intro y hy
 simp only [Bool.and_eq_true,beq_iff_eq,not_and]
 intro h7 e
 have:=h y hy h7
 omega
def RtP(c f:Bool)(x:Ps):Prop:=∀ (t:Tr) (wy:Way) (gr:Nat) (o e:List Nat) (rest:List Sgn),er t=te x->wf x->(∀ s∈pfl x,fS c f s)->bO wy x.kd=true->Iv gr e wy->Av gr wy->hk gr o e (pfl x ++ rest) ->
 RTr c f gr (pp wy t)/\∃ e',hk (gr+aL (pp wy t)) o e' rest/\Iv (gr+aL (pp wy t)) e' wy
theorem wE{c f:Bool}{par:Tr}{wy:Way}:∀ (l:List Ps) (ks:List Tr) (i gr:Nat) (o e:List Nat) (rest:List Sgn),(∀ y∈l,RtP c f y)->ks.map er=l.map te->wfs l->(∀ s∈cY l,fS c f s)->(∀ j y,l[j]?=some y->bO ((par,i+j) :: wy) y.kd=true)->Iv gr e ((par,i) :: wy)->Av gr ((par,i) :: wy)->hk gr o e (cY l ++ rest) ->
  RTr c f gr (pps par wy i ks)/\∃ e',hk (gr+aL (pps par wy i ks)) o e' rest/\Iv (gr+aL (pps par wy i ks)) e' ((par,i) :: wy)
 | [],ks,i,gr,o,e,rest,_,h,_,_,_,hI,_,hh=>by
  obtain rfl:ks=[]:=by simpa using h
  rw [aQ]
  rw [cY] at hh
  exact⟨RTr.nil _ _ _,e,by simpa [aL] using hh,by simpa [aL] using hI⟩
 | y :: l,u :: ks,i,gr,o,e,rest,ih,h,hw,hs,hst,hI,hA,hh=>by
  rw [List.map_cons,List.map_cons] at h
  injection h with h1 h2
  rw [wfs] at hw
  rw [cY] at hh hs
  rw [List.append_assoc] at hh
  obtain⟨r1,e1,k1,i1⟩:=ih y (List.mem_cons_self ..) u ((par,i) :: wy) gr o e (cY l ++ rest) h1 hw.1 (fun s hs'=>hs s (List.mem_append_left _ hs')) (by have:=hst 0 y rfl;simpa using this) hI hA hh
  obtain⟨r2,e2,k2,i2⟩:=wE l ks (i+1) _ o e1 rest (fun z hz=>ih z (List.mem_cons_of_mem _ hz)) h2 hw.2 (fun s hs'=>hs s (List.mem_append_right _ hs')) (fun j z hz=>by have:=hst (j+1) z (by simpa using hz);rwa [show i+(j+1)=i+1+j by omega] at this) (i1.turn _) ((fun y hy h7=>by
    rcases List.mem_cons.1 hy with rfl | hy
    ·have:=hA (par,i) (List.mem_cons_self ..) h7;simp only at this ⊢;omega
    ·have:=hA y (List.mem_cons_of_mem _ hy) h7;omega)) k1
  rw [aT,cX,<- Nat.add_assoc]
  exact⟨r1.append r2,e2,k2,i2.turn _⟩
 | y :: l,[],_,_,_,_,_,_,h,_,_,_,_,_,_=>by simp at h
theorem wD{c f:Bool}{par:Tr}{wy:Way}:∀ (l:List Ps) (ks:List Tr) (i gr:Nat) (o e:List Nat) (rest:List Sgn),(∀ y∈l,RtP c f y)->ks.map er=l.map te->wfs l->(∀ s∈dB l,fS c f s)->(∀ j y,l[j]?=some y->bO ((par,i+j) :: wy) y.kd=true)->Iv gr e ((par,i) :: wy)->Av gr ((par,i) :: wy)->hk gr o e (dB l ++ rest) ->
  RTr c f gr (pps par wy i ks)/\∃ e',hk (gr+aL (pps par wy i ks)) o e' rest/\Iv (gr+aL (pps par wy i ks)) e' ((par,i) :: wy)
 | [],ks,i,gr,o,e,rest,_,h,_,_,_,hI,_,hh=>by
  obtain rfl:ks=[]:=by simpa using h
  rw [aQ]
  rw [dB] at hh
  exact⟨RTr.nil _ _ _,e,by simpa [aL] using hh,by simpa [aL] using hI⟩
 | y :: l,u :: ks,i,gr,o,e,rest,ih,h,hw,hs,hst,hI,hA,hh=>by
  rw [List.map_cons,List.map_cons] at h
  injection h with h1 h2
  rw [wfs] at hw
  rw [dB] at hh hs
  rw [List.cons_append,tQ,List.append_assoc] at hh
  obtain⟨r1,e1,k1,i1⟩:=ih y (List.mem_cons_self ..) u ((par,i) :: wy) gr o e (dB l ++ rest) h1 hw.1 (fun s hs'=>hs s (List.mem_cons_of_mem _ (List.mem_append_left _ hs'))) (by have:=hst 0 y rfl;simpa using this) hI hA hh
  obtain⟨r2,e2,k2,i2⟩:=wD l ks (i+1) _ o e1 rest (fun z hz=>ih z (List.mem_cons_of_mem _ hz)) h2 hw.2 (fun s hs'=>hs s (List.mem_cons_of_mem _ (List.mem_append_right _ hs'))) (fun j z hz=>by have:=hst (j+1) z (by simpa using hz);rwa [show i+(j+1)=i+1+j by omega] at this) (i1.turn _) ((fun y hy h7=>by
    rcases List.mem_cons.1 hy with rfl | hy
    ·have:=hA (par,i) (List.mem_cons_self ..) h7;simp only at this ⊢;omega
    ·have:=hA y (List.mem_cons_of_mem _ hy) h7;omega)) k1
  rw [aT,cX,<- Nat.add_assoc]
  exact⟨r1.append r2,e2,k2,i2.turn _⟩
 | y :: l,[],_,_,_,_,_,_,h,_,_,_,_,_,_=>by simp at h
theorem aD4{x:Ps}(h:sD x=true)(hw:wf x):bX x.kd=true/\x.kd≠6:=by
 cases x with
 | lf k n rs=>
  rw [wf] at hw
  rcases hw with rfl | rfl | rfl | rfl <;> simp [Ps.kd,bX]
 | grp=>simp [Ps.kd,bX]
 | rep=>simp [Ps.kd,bX]
 | row l=>simp only [Ps.kd];split <;> simp [bX]
 | alt=>simp [sD] at h
theorem xG{x:Ps}(hw:wf x):bX x.kd=true:=by
 cases x with
 | alt=>simp [Ps.kd,bX]
 | _=>exact(aD4 rfl hw).1
theorem aG4{x:Ps}(h:eM x=true):bG x.kd=true:=by
 cases x with
 | lf k n rs=>
  simp [eM] at h
  rcases h with rfl | rfl <;> simp [Ps.kd,bG]
 | grp=>simp [Ps.kd,bG]
 | rep=>simp [Ps.kd,bG]
 | row=>simp [eM] at h
 | alt=>simp [eM] at h
theorem aI8(c f:Bool)(x:Ps):RtP c f x:=by
 refine Ps.ind (P:=RtP c f) (fun x ih=>?_) x
 intro t wy gr o e rest h hw hs hst hI hA hh
 have hft:t.f.k=x.kd:=by rw [<- aH6,h,aE5]
 rw [cN]
 cases x with
 | lf k n rs=>
  rw [te] at h
  obtain⟨f1,f2,f3,f4,f5,f6⟩:=gR h
  rw [show t.ks=[] by simpa using f6,aQ]
  have hs:=hs (.lf k n rs) (by rw [pfl];simp)
  rw [pfl,List.singleton_append,hk] at hh
  rw [wf] at hw
  have g0:aL [(wy,t)]=0:=by
   simp only [aL,f1]
   rcases hw with rfl | rfl | rfl | rfl <;> simp
  rw [g0,Nat.add_zero]
  refine⟨RTr.one ⟨by rw [hft];exact hst,?_,?_,fun z=>?_,fun z=>?_⟩,e,hh.2,hI⟩
  ·simp only
   unfold aG
   rw [f1,f2,f3,f4,f5]
   rcases hw with rfl | rfl | rfl | rfl
   ·rw [if_pos rfl];exact⟨(hs.1 rfl).1,(hs.1 rfl).2,rfl,rfl⟩
   ·rw [if_neg (by decide),if_neg (by decide),if_neg (by decide),if_neg (by decide),hs.2.1 (by decide),hs.2.2.2 (by decide)];simp
   ·rw [if_neg (by decide),if_neg (by decide),if_neg (by decide),if_neg (by decide),hs.2.1 (by decide),hs.2.2.2 (by decide)];simp
   ·rw [if_neg (by decide),if_neg (by decide),if_pos rfl,hs.2.1 (by decide)];exact⟨hs.2.2.1 rfl,rfl,rfl,rfl⟩
  ·simp only
   rw [show t.ks=[] by simpa using f6,f1]
   rcases hw with rfl | rfl | rfl | rfl <;> simp [eF]
  ·simp only at z
   rcases hw with rfl | rfl | rfl | rfl <;> (rw [f1] at z;cases z)
  ·simp only at z ⊢
   obtain⟨i,hi,e1⟩:=hh.1 (f1.symm.trans z)
   have:=hI i hi
   rw [f2,e1]
   exact⟨this.2,by omega⟩
 | grp n k=>
  rw [te] at h
  obtain⟨f1,f2,f3,f4,f5,f6⟩:=gR h
  obtain⟨u,e1,hu⟩:=tN f6
  rw [wf] at hw
  rw [pfl] at hh hs
  rw [List.cons_append,hk] at hh
  obtain⟨rfl,hg,hh⟩:=hh
  rw [List.append_assoc] at hh
  have hA':Av (gr+1) ((t,0) :: wy):=(hA.mono (by omega)).down 0 (fun _=>by rw [f2];omega)
  have hI':Iv (gr+1) e ((t,0) :: wy):=fun m hm=>⟨by have:=(hI m hm).1;omega,by
   rw [cK,(hI m hm).2,f2]
   have:=(hI m hm).1
   have e2:(((gr+1:Nat):Int)==(m:Int))=false:=by rw [beq_eq_false_iff_ne];omega
   rw [e2];simp⟩
  have hst':bO ((t,0) :: wy) k.kd=true:=by
   simp only [bO,bT]
   rw [f1,if_neg (by decide),if_neg (by decide),if_neg (by decide)]
   exact xG hw
  obtain⟨r1,e',k1,i1⟩:=ih k (by simp [Ps.kids]) u ((t,0) :: wy) (gr+1) ((gr+1) :: o) e ([.cl] ++ rest) hu hw (fun s hs'=>hs s (List.mem_cons_of_mem _ (List.mem_append_left _ hs'))) hst' hI' hA' hh
  rw [List.singleton_append,hk] at k1
  obtain⟨n2,o2,eo,k2⟩:=k1
  injection eo with eo1 eo2
  subst eo1 eo2
  rw [e1,aT,aQ,List.append_nil]
  have g1:aL ((wy,t) :: pp ((t,0) :: wy) u)=1+aL (pp ((t,0) :: wy) u):=by simp only [aL,f1,if_pos]
  rw [g1,show gr+(1+aL (pp ((t,0) :: wy) u))=gr+1+aL (pp ((t,0) :: wy) u) by omega]
  refine⟨?_,(gr+1) :: e',k2,?_⟩
  ·refine RTr.append (A:=[(wy,t)]) (RTr.one ⟨by rw [hft];exact hst,?_,?_,fun _=>by rw [f2];omega,fun z=>by simp only at z;rw [f1] at z;cases z⟩) ?_
   ·simp only
    unfold aG
    rw [f1,f2,f3,f4,f5,if_neg (by decide),if_pos rfl]
    exact⟨by omega,rfl,rfl,rfl⟩
   ·simp only
    rw [e1,f1]
    rfl
   ·have g2:aL [(wy,t)]=1:=by simp [aL,f1]
    rw [g2]
    exact r1
  ·intro m hm
   rcases List.mem_cons.1 hm with rfl | hm
   ·exact⟨by omega,hA.end_ (by omega)⟩
   ·exact i1.up m hm
 | rep a b k=>
  rw [te] at h
  obtain⟨f1,f2,f3,f4,f5,f6⟩:=gR h
  obtain⟨u,e1,hu⟩:=tN f6
  rw [wf] at hw
  rw [pfl] at hh hs
  rw [List.append_assoc] at hh
  have hb:eT a b=true:=hs (.rp a b) (by simp)
  have hst':bO ((t,0) :: wy) k.kd=true:=by
   simp only [bO,bT]
   rw [f1,if_neg (by decide),if_pos rfl]
   exact aG4 hw.1
  obtain⟨r1,e',k1,i1⟩:=ih k (by simp [Ps.kids]) u ((t,0) :: wy) gr o e ([.rp a b] ++ rest) hu hw.2 (fun s hs'=>hs s (List.mem_append_left _ hs')) hst' (hI.down 0 (by rw [f1];decide)) (hA.down 0 (fun z=>by rw [f1] at z;cases z)) hh
  rw [List.singleton_append,aJ4] at k1
  rw [e1,aT,aQ,List.append_nil]
  have g1:aL ((wy,t) :: pp ((t,0) :: wy) u)=aL (pp ((t,0) :: wy) u):=by simp [aL,f1]
  rw [g1]
  refine⟨?_,e',k1,i1.up⟩
  refine RTr.append (A:=[(wy,t)]) (RTr.one ⟨by rw [hft];exact hst,?_,?_,fun z=>(by simp only at z;rw [f1] at z;cases z),fun z=>(by simp only at z;rw [f1] at z;cases z)⟩) ?_
  ·simp only
   unfold aG
   rw [f1,f2,f3,f4,f5,if_neg (by decide),if_neg (by decide),if_neg (by decide),if_pos rfl]
   exact⟨hb,rfl,rfl⟩
  ·simp only
   rw [e1,f1]
   rfl
  ·have g2:aL [(wy,t)]=0:=by simp [aL,f1]
   rw [g2]
   exact r1
 | row l=>
  rw [wf] at hw
  obtain⟨hw1,hw2,hw3⟩:=hw
  rw [pfl] at hh hs
  rw [te] at h
  by_cases hl:l=[]
  ·subst hl
   rw [if_pos (show ([]:List Ps).isEmpty=true from rfl)] at h
   obtain⟨f1,f2,f3,f4,f5,f6⟩:=gR h
   rw [show t.ks=[] by simpa using f6,aQ]
   rw [cY] at hh
   have g0:aL [(wy,t)]=0:=by simp [aL,f1]
   rw [g0,Nat.add_zero]
   refine⟨RTr.one ⟨by rw [hft];exact hst,?_,?_,fun z=>(by simp only at z;rw [f1] at z;cases z),fun z=>(by simp only at z;rw [f1] at z;cases z)⟩,e,hh,hI⟩
   ·simp only
    unfold aG
    rw [f1,f2,f3,f4,f5,if_neg (by decide),if_neg (by decide),if_neg (by decide),if_neg (by decide)]
    exact⟨rfl,rfl,rfl,rfl⟩
   ·simp only
    rw [show t.ks=[] by simpa using f6,f1]
    rfl
  ·rw [if_neg (by simpa using hl)] at h
   obtain⟨f1,f2,f3,f4,f5,f6⟩:=gR h
   rw [gM] at f6
   have hlen:t.ks.length=l.length:=by have:=congrArg List.length f6;simpa using this
   have h2:2<=l.length:=by
    have:l.length≠0:=fun z=>hl (List.eq_nil_of_length_eq_zero z)
    omega
   obtain⟨r1,e',k1,i1⟩:=wE (par:=t) (wy:=wy) l t.ks 0 gr o e rest ih f6 hw3 hs (fun j y hy=>by
    have hy':=hw2 j y hy
    rw [Nat.zero_add]
    simp only [bO,bT]
    rw [f1,if_pos rfl,hlen]
    have hwy:=(iL l).1 hw3 y (List.mem_of_getElem? hy)
    have hj:=(List.getElem?_eq_some_iff.1 hy).1
    cases y with
    | lf k n rs=>
     rw [wf] at hwy
     rcases hwy with rfl | rfl | rfl | rfl
     ·simp [Ps.kd,bG]
     ·have:=hy'.2.1 rfl
      subst this
      simp [Ps.kd]
     ·have:=hy'.2.2 rfl
      have e3:((j:Int)==(l.length:Int) - 1)=true:=by rw [beq_iff_eq];omega
      rw [e3]
      simp [Ps.kd]
     ·simp [Ps.kd,bG]
    | grp=>simp [Ps.kd,bG]
    | rep=>simp [Ps.kd,bG]
    | row=>simp [dN] at hy'
    | alt=>simp [dN] at hy') (hI.down 0 (by rw [f1];decide)) (hA.down 0 (fun z=>by rw [f1] at z;cases z)) hh
   have g1:aL ((wy,t) :: pps t wy 0 t.ks)=aL (pps t wy 0 t.ks):=by simp [aL,f1]
   rw [g1]
   refine⟨?_,e',k1,i1.up⟩
   refine RTr.append (A:=[(wy,t)]) (RTr.one ⟨by rw [hft];exact hst,?_,?_,fun z=>(by simp only at z;rw [f1] at z;cases z),fun z=>(by simp only at z;rw [f1] at z;cases z)⟩) ?_
   ·simp only
    unfold aG
    rw [f1,f2,f3,f4,f5,if_neg (by decide),if_neg (by decide),if_neg (by decide),if_neg (by decide)]
    exact⟨rfl,rfl,rfl,rfl⟩
   ·simp only
    rw [f1,hlen]
    simp [eF,h2]
   ·have g2:aL [(wy,t)]=0:=by simp [aL,f1]
    rw [g2]
    exact r1
 | alt l=>
  rw [wf] at hw
  obtain⟨hw1,hw2,hw3⟩:=hw
  rw [pfl] at hh hs
  rw [te] at h
  obtain⟨f1,f2,f3,f4,f5,f6⟩:=gR h
  rw [gM] at f6
  have hlen:t.ks.length=l.length:=by have:=congrArg List.length f6;simpa using this
  have hh2:hk gr o e (dB l ++ rest):=by
   cases l with
   | nil=>simp at hw1
   | cons y l=>rw [mD] at hh;rw [dB,List.cons_append,tQ];exact hh
  have hs2:∀ s∈dB l,fS c f s:=by
   cases l with
   | nil=>simp at hw1
   | cons y l=>
    rw [mD] at hs
    rw [dB]
    intro s hs'
    rcases List.mem_cons.1 hs' with rfl | hs'
    ·trivial
    ·exact hs s hs'
  obtain⟨r1,e',k1,i1⟩:=wD (par:=t) (wy:=wy) l t.ks 0 gr o e rest ih f6 hw3 hs2 (fun j y hy=>by
   have hy':=aD4 (hw2 y (List.mem_of_getElem? hy)) ((iL l).1 hw3 y (List.mem_of_getElem? hy))
   simp only [bO,bT]
   rw [f1,if_neg (by decide),if_neg (by decide),if_pos rfl,hy'.1]
   simpa using hy'.2) (hI.down 0 (by rw [f1];decide)) (hA.down 0 (fun z=>by rw [f1] at z;cases z)) hh2
  have g1:aL ((wy,t) :: pps t wy 0 t.ks)=aL (pps t wy 0 t.ks):=by simp [aL,f1]
  rw [g1]
  refine⟨?_,e',k1,i1.up⟩
  refine RTr.append (A:=[(wy,t)]) (RTr.one ⟨by rw [hft];exact hst,?_,?_,fun z=>(by simp only at z;rw [f1] at z;cases z),fun z=>(by simp only at z;rw [f1] at z;cases z)⟩) ?_
  ·simp only
   unfold aG
   rw [f1,f2,f3,f4,f5,if_neg (by decide),if_neg (by decide),if_neg (by decide),if_neg (by decide)]
   exact⟨rfl,rfl,rfl,rfl⟩
  ·simp only
   rw [f1,hlen]
   simp [eF,hw1]
  ·have g2:aL [(wy,t)]=0:=by simp [aL,f1]
   rw [g2]
   exact r1
theorem wL{c f:Bool}{x:Ps}{t:Tr}(h:er t=te x)(hw:wf x)(hs:∀ s∈pfl x,fS c f s)(hh:hk 0 [] [] (pfl x))(h1:x.dp<=40)(h2:x.sz<=2000):aM c f 0 0 (pp [] t)=0:=by
 have hr:=(aI8 c f x t [] 0 [] [] [] h hw hs (xG hw) (fun n hn=>by cases hn) (fun y hy=>by cases hy) (by simpa using hh)).1
 have hd:=tW x t [] h
 have hl:(pp [] t).length<=2000:=by rw [rU,<- aD6,h,aD2];exact h2
 refine nM _ 0 0 fun pre y post e=>?_
 obtain⟨l1,l2,l3,l4,l5⟩:=hr pre y post e
 rw [Nat.zero_add] at l2 l5
 rw [Nat.zero_add,Nat.zero_add]
 have hpl:pre.length < 2000:=by rw [e] at hl;simp at hl;omega
 have hdp:y.1.length+1<=40:=by
  have:dE (pp [] t)<=40:=by rw [hd];simpa using h1
  rw [e,jE] at this
  simp only [dE] at this
  omega
 unfold dD
 rw [if_neg (by omega),if_neg (by omega),if_neg (fun z=>z ⟨l1,l2,l3⟩),if_neg (fun z=>by have:=l4 z.1;omega),if_neg (fun z=>z.2 (l5 z.1))]
end Go.Proofs.YticfnglebbakkaaGreatDoor

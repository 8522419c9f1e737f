/-
  Parts of the proof.
-/
import Derived.Test.YticfnglebbakkaaGreatDoorAgainProofB13
import Derived.Test.YticfnglebbakkaaGreatDoorAgainProofB14
import Derived.Test.YticfnglebbakkaaGreatDoorAgainProofB11
import Derived.Test.YticfnglebbakkaaGreatDoorAgainProofB1
namespace Go.Proofs.YticfnglebbakkaaGreatDoor
open Go Go.RowKit
section
mutual
def Er.sz:Er->Nat | .mk _ _ _ _ _ ks=>rN ks+1
def rN:List Er->Nat | []=>0 | x :: xs=>x.sz+rN xs
end
def Er.k:Er->Int | .mk k _ _ _ _ _=>k
def Er.ks:Er->List Er | .mk _ _ _ _ _ ks=>ks
theorem lZ(x:Er):x.sz=rN x.ks+1:=by cases x;rw [Er.sz];rfl
theorem kX(x:Er)(l:List Er):rN (x :: l)=x.sz+rN l:=by rw [rN]
theorem jC:rN []=0:=by rw [rN]
theorem aV3(t:Tr):(er t).k=t.f.k:=by rw [gF];rfl
theorem aG8(t:Tr):(er t).ks=t.ks.map er:=by rw [gF];rfl
theorem xQ(t:Tr):(er t).sz=t.sz:=by
 refine Tr.ind (P:=fun t=>(er t).sz=t.sz) (fun t ih=>?_) t
 rw [lZ,aG8,mI]
 congr 1
 have:∀ l:List Tr,(∀ u∈l,(er u).sz=u.sz)->rN (l.map er)=szs l:=by
  intro l
  induction l with
  | nil=>intro _;rw [List.map_nil,jC,hU]
  | cons x l ih2=>
   intro h
   rw [List.map_cons,kX,cU,h x (List.mem_cons_self ..),ih2 (fun u hu=>h u (List.mem_cons_of_mem _ hu))]
 exact this t.ks ih
def bF0(x:Er):List Er:=if x.k=1 then [] else if x.k=5 then x.ks else [x]
def bG1(x:Er):List Er:=if x.k=6 then x.ks else [x]
theorem bE9(t:Tr):(eY t).map er=bF0 (er t):=by
 unfold eY bF0
 rw [aV3,aG8]
 split
 ·rfl
 ·split <;> rfl
theorem bG0(t:Tr):(fG t).map er=bG1 (er t):=by
 unfold fG bG1
 rw [aV3,aG8]
 split <;> rfl
theorem aX2{x:Er}(h1:x.k≠1)(h5:x.k≠5):bF0 x=[x]:=by unfold bF0;rw [if_neg h1,if_neg h5]
theorem aX9{x:Er}(h6:x.k≠6):bG1 x=[x]:=by unfold bG1;rw [if_neg h6]
section
variable {V:World} {g:Nat} {t1 t2 t3:Tr}
end
end
theorem kY{t:Tr}{k n mn mx:Int}{rs:List (Int × Int)}{l:List Er}(h:er t=.mk k n mn mx rs l):t.f.k=k/\t.f.n=n/\t.f.mn=mn/\t.f.mx=mx/\t.f.rs=rs/\t.ks.map er=l:=by
 rw [gF] at h
 injection h with h1 h2 h3 h4 h5 h6
 exact⟨h1,h2,h3,h4,h5,h6⟩
theorem aF5{ks:List Tr}{x:Er}(h:ks.map er=[x]):∃ a,ks=[a]/\er a=x:=by
 match ks,h with
 | [a],h=>simp at h;exact⟨a,rfl,h⟩
theorem aI7(x:Ps):(te x).k=x.kd:=by
 cases x with
 | row l=>simp only [te,Ps.kd];split <;> rfl
 | _=>simp [te,Ps.kd,Er.k]
theorem aO7(x:Ps):(te x).sz=x.sz:=by
 refine Ps.ind (P:=fun x=>(te x).sz=x.sz) (fun x ih=>?_) x
 have hl:∀ l:List Ps,(∀ y∈l,(te y).sz=y.sz)->rN (tes l)=eP l:=by
  intro l
  induction l with
  | nil=>intro _;rw [tes,jC,iW]
  | cons y l ih2=>intro h;rw [tes,kX,dU,h y (List.mem_cons_self ..),ih2 (fun z hz=>h z (List.mem_cons_of_mem _ hz))]
 cases x with
 | lf k n rs=>simp only [te,Ps.sz,lZ,Er.ks,jC]
 | grp n k=>rw [te,lZ,Ps.sz];simp only [Er.ks];rw [kX,jC,ih k (by simp [Ps.kids])]
 | rep a b k=>rw [te,lZ,Ps.sz];simp only [Er.ks];rw [kX,jC,ih k (by simp [Ps.kids])]
 | row l=>
  rw [te,Ps.sz]
  split
  ·rename_i h
   rw [List.isEmpty_iff.1 h,lZ,iW];simp only [Er.ks,jC]
  ·rw [lZ];simp only [Er.ks];rw [hl l ih]
 | alt l=>rw [te,Ps.sz,lZ];simp only [Er.ks];rw [hl l ih]
theorem nG(a b:List El):fK (a ++ b)=max (fK a) (fK b):=by
 induction a with
 | nil=>simp [fK]
 | cons x a ih=>simp only [List.cons_append,fK,ih];omega
theorem aH1(x:Ps):∀ (t:Tr) (wy:Way),er t=te x->fK (pp wy t)=wy.length+x.dp:=by
 refine Ps.ind (P:=fun x=>∀ (t:Tr) (wy:Way),er t=te x->fK (pp wy t)=wy.length+x.dp) (fun x ih t wy h=>?_) x
 have hl:∀ (l:List Ps) (ks:List Tr) (i:Nat),(∀ y∈l,∀ (t:Tr) (wy:Way),er t=te y->fK (pp wy t)=wy.length+y.dp)->ks.map er=l.map te->fK (pps t wy i ks)=if l=[] then 0 else wy.length+1+eQ l:=by
  intro l
  induction l with
  | nil=>
   intro ks i _ h
   obtain rfl:ks=[]:=by simpa using h
   rw [bU,if_pos rfl];rfl
  | cons y l ih2=>
   intro ks i h hk
   match ks,hk with
   | u :: ks,hk=>
    rw [List.map_cons,List.map_cons] at hk
    injection hk with h1 h2
    rw [bY,nG,h y (List.mem_cons_self ..) u _ h1,ih2 ks (i+1) (fun z hz=>h z (List.mem_cons_of_mem _ hz)) h2,eQ,List.length_cons]
    by_cases e:l=[]
    ·subst e
     rw [if_pos rfl,if_neg (by simp),eQ];omega
    ·rw [if_neg e,if_neg (by simp)];omega
 rw [fU]
 simp only [fK]
 have hks:t.ks.map er=(te x).ks:=by rw [<- aG8,h]
 cases x with
 | lf k n rs=>
  rw [te] at hks
  rw [show t.ks=[] by simpa [Er.ks] using hks,bU,Ps.dp]
  simp [fK]
 | grp n k=>
  rw [te] at hks
  rw [hl [k] t.ks 0 ih (by simpa [Er.ks] using hks),if_neg (by simp),Ps.dp,eQ,eQ]
  omega
 | rep a b k=>
  rw [te] at hks
  rw [hl [k] t.ks 0 ih (by simpa [Er.ks] using hks),if_neg (by simp),Ps.dp,eQ,eQ]
  omega
 | row l=>
  rw [te] at hks
  by_cases e:l=[]
  ·subst e
   rw [if_pos (show ([]:List Ps).isEmpty=true from rfl)] at hks
   rw [show t.ks=[] by simpa [Er.ks] using hks,bU,Ps.dp,eQ]
   simp [fK]
  ·rw [if_neg (by simpa using e)] at hks
   rw [hl l t.ks 0 ih (by rw [<- gZ];simpa [Er.ks] using hks),if_neg e,Ps.dp]
   omega
 | alt l=>
  rw [te] at hks
  rw [hl l t.ks 0 ih (by rw [<- gZ];simpa [Er.ks] using hks),Ps.dp]
  split
  ·rename_i e;rw [e,eQ];omega
  ·omega
def fI(c f:Bool):Sgn->Prop
 | .lf k n rs=>(k=2->mL c f rs/\n=0)/\(k≠2->rs=[])/\(k=8->1<=n/\n<=9)/\(k≠8->n=0)
 | .rp a b=>jD a b=true
 | _=>True
def LKr(c f:Bool)(x:El)(gr:Nat):Prop:=
 cV x.1 x.2.f.k=true/\aY c f ((gr:Int)+1) x.2.f/\gS x.2.f.k x.2.ks.length=true/\(x.2.f.k=7->x.2.f.n<=30)/\(x.2.f.k=8->jU x.1 x.2.f.n=false/\x.2.f.n<=(gr:Int))
def RTr(c f:Bool)(gr:Nat)(L:List El):Prop:=∀ pre x post,L=pre ++ x :: post->LKr c f x (gr+bE pre)
theorem RTr.nil(c f:Bool)(gr:Nat):RTr c f gr []:=fun pre x post h=>by cases pre <;> cases h
theorem RTr.append{c f:Bool}{gr:Nat}{A B:List El}(h1:RTr c f gr A)(h2:RTr c f (gr+bE A) B):RTr c f gr (A ++ B):=by
 intro pre x post h
 rcases List.append_eq_append_iff.1 h with⟨a,e1,e2⟩ | ⟨a,e1,e2⟩
 ·rw [e1,fA,<- Nat.add_assoc]
  exact h2 a x post e2
 ·cases a with
  | nil=>
   simp at e1 e2
   subst e1
   have:=h2 [] x post (by simp [<- e2])
   simpa [bE] using this
  | cons y a=>
   simp at e2
   obtain⟨rfl,e2⟩:=e2
   exact h1 pre x a e1
theorem RTr.one{c f:Bool}{gr:Nat}{x:El}(h:LKr c f x gr):RTr c f gr [x]:=by
 intro pre y post e
 cases pre with
 | nil=>simp at e;obtain⟨rfl,-⟩:=e;simpa [bE] using h
 | cons z pre=>simp at e
theorem aG0(g:Nat)(o e:List Nat)(l:List Sgn):hk g o e (.al :: l)=hk g o e l:=rfl
theorem bN5(g:Nat)(o e:List Nat)(a b:Int)(l:List Sgn):hk g o e (.rp a b :: l)=hk g o e l:=rfl
def Iv(gr:Nat)(e:List Nat)(wy:Way):Prop:=∀ n∈e,n<=gr/\jU wy (n:Int)=false
def Av(gr:Nat)(wy:Way):Prop:=∀ y∈wy,y.1.f.k=7->y.1.f.n<=(gr:Int)
theorem Av.mono{gr gr':Nat}{wy:Way}(h:Av gr wy)(hg:gr<=gr'):Av gr' wy:=fun y hy hk=>by have:=h y hy hk;omega
theorem dY(t:Tr)(i:Nat)(wy:Way)(n:Int):jU ((t,i) :: wy) n=((t.f.k==7 && t.f.n==n) || jU wy n):=by simp [jU]
theorem Iv.down{gr:Nat}{e:List Nat}{wy:Way}{t:Tr}(i:Nat)(h:Iv gr e wy)(hk:t.f.k≠7):Iv gr e ((t,i) :: wy):=fun n hn=>⟨(h n hn).1,by rw [dY,(h n hn).2];simp [hk]⟩
theorem Iv.up{gr:Nat}{e:List Nat}{wy:Way}{t:Tr}{i:Nat}(h:Iv gr e ((t,i) :: wy)):Iv gr e wy:=fun n hn=>⟨(h n hn).1,by have:=(h n hn).2;rw [dY] at this;simp only [Bool.or_eq_false_iff] at this;exact this.2⟩
theorem Iv.turn{gr:Nat}{e:List Nat}{wy:Way}{t:Tr}{i:Nat}(j:Nat)(h:Iv gr e ((t,i) :: wy)):Iv gr e ((t,j) :: wy):=fun n hn=>⟨(h n hn).1,by have:=(h n hn).2;rw [dY] at this ⊢;exact this⟩
theorem Av.down{gr:Nat}{wy:Way}{t:Tr}(i:Nat)(h:Av gr wy)(hk:t.f.k=7->t.f.n<=(gr:Int)):Av gr ((t,i) :: wy):=fun y hy h7=>by
 rcases List.mem_cons.1 hy with rfl | hy
 ·exact hk h7
 ·exact h y hy h7
theorem Av.end_{gr:Nat}{wy:Way}(h:Av gr wy){n:Nat}(hn:gr < n):jU wy (n:Int)=false:=by
 unfold jU
 rw [List.any_eq_false]
 intro y hy
 simp only [Bool.and_eq_true,beq_iff_eq,not_and]
 intro h7 e
 have:=h y hy h7
 omega
def RtP(c f:Bool)(x:Ps):Prop:=∀ (t:Tr) (wy:Way) (gr:Nat) (o e:List Nat) (rest:List Sgn),er t=te x->wf x->(∀ s∈pfl x,fI c f s)->cV wy x.kd=true->Iv gr e wy->Av gr wy->hk gr o e (pfl x ++ rest) ->
 RTr c f gr (pp wy t)/\∃ e',hk (gr+bE (pp wy t)) o e' rest/\Iv (gr+bE (pp wy t)) e' wy
theorem aP9{c f:Bool}{par:Tr}{wy:Way}:∀ (l:List Ps) (ks:List Tr) (i gr:Nat) (o e:List Nat) (rest:List Sgn),(∀ y∈l,RtP c f y)->ks.map er=l.map te->wfs l->(∀ s∈bS l,fI c f s)->(∀ j y,l[j]?=some y->cV ((par,i+j) :: wy) y.kd=true)->Iv gr e ((par,i) :: wy)->Av gr ((par,i) :: wy)->hk gr o e (bS l ++ rest) ->
  RTr c f gr (pps par wy i ks)/\∃ e',hk (gr+bE (pps par wy i ks)) o e' rest/\Iv (gr+bE (pps par wy i ks)) e' ((par,i) :: wy)
 | [],ks,i,gr,o,e,rest,_,h,_,_,_,hI,_,hh=>by
  obtain rfl:ks=[]:=by simpa using h
  rw [bU]
  rw [bS] at hh
  exact⟨RTr.nil _ _ _,e,by simpa [bE] using hh,by simpa [bE] using hI⟩
 | y :: l,u :: ks,i,gr,o,e,rest,ih,h,hw,hs,hst,hI,hA,hh=>by
  rw [List.map_cons,List.map_cons] at h
  injection h with h1 h2
  rw [wfs] at hw
  rw [bS] at hh hs
  rw [List.append_assoc] at hh
  obtain⟨r1,e1,k1,i1⟩:=ih y (List.mem_cons_self ..) u ((par,i) :: wy) gr o e (bS l ++ rest) h1 hw.1 (fun s hs'=>hs s (List.mem_append_left _ hs')) (by have:=hst 0 y rfl;simpa using this) hI hA hh
  obtain⟨r2,e2,k2,i2⟩:=aP9 l ks (i+1) _ o e1 rest (fun z hz=>ih z (List.mem_cons_of_mem _ hz)) h2 hw.2 (fun s hs'=>hs s (List.mem_append_right _ hs')) (fun j z hz=>by have:=hst (j+1) z (by simpa using hz);rwa [show i+(j+1)=i+1+j by omega] at this) (i1.turn _) ((fun y hy h7=>by
    rcases List.mem_cons.1 hy with rfl | hy
    ·have:=hA (par,i) (List.mem_cons_self ..) h7;simp only at this ⊢;omega
    ·have:=hA y (List.mem_cons_of_mem _ hy) h7;omega)) k1
  rw [bY,fA,<- Nat.add_assoc]
  exact⟨r1.append r2,e2,k2,i2.turn _⟩
 | y :: l,[],_,_,_,_,_,_,h,_,_,_,_,_,_=>by simp at h
theorem aP8{c f:Bool}{par:Tr}{wy:Way}:∀ (l:List Ps) (ks:List Tr) (i gr:Nat) (o e:List Nat) (rest:List Sgn),(∀ y∈l,RtP c f y)->ks.map er=l.map te->wfs l->(∀ s∈bZ l,fI c f s)->(∀ j y,l[j]?=some y->cV ((par,i+j) :: wy) y.kd=true)->Iv gr e ((par,i) :: wy)->Av gr ((par,i) :: wy)->hk gr o e (bZ l ++ rest) ->
  RTr c f gr (pps par wy i ks)/\∃ e',hk (gr+bE (pps par wy i ks)) o e' rest/\Iv (gr+bE (pps par wy i ks)) e' ((par,i) :: wy)
 | [],ks,i,gr,o,e,rest,_,h,_,_,_,hI,_,hh=>by
  obtain rfl:ks=[]:=by simpa using h
  rw [bU]
  rw [bZ] at hh
  exact⟨RTr.nil _ _ _,e,by simpa [bE] using hh,by simpa [bE] using hI⟩
 | y :: l,u :: ks,i,gr,o,e,rest,ih,h,hw,hs,hst,hI,hA,hh=>by
  rw [List.map_cons,List.map_cons] at h
  injection h with h1 h2
  rw [wfs] at hw
  rw [bZ] at hh hs
  rw [List.cons_append,aG0,List.append_assoc] at hh
  obtain⟨r1,e1,k1,i1⟩:=ih y (List.mem_cons_self ..) u ((par,i) :: wy) gr o e (bZ l ++ rest) h1 hw.1 (fun s hs'=>hs s (List.mem_cons_of_mem _ (List.mem_append_left _ hs'))) (by have:=hst 0 y rfl;simpa using this) hI hA hh
  obtain⟨r2,e2,k2,i2⟩:=aP8 l ks (i+1) _ o e1 rest (fun z hz=>ih z (List.mem_cons_of_mem _ hz)) h2 hw.2 (fun s hs'=>hs s (List.mem_cons_of_mem _ (List.mem_append_right _ hs'))) (fun j z hz=>by have:=hst (j+1) z (by simpa using hz);rwa [show i+(j+1)=i+1+j by omega] at this) (i1.turn _) ((fun y hy h7=>by
    rcases List.mem_cons.1 hy with rfl | hy
    ·have:=hA (par,i) (List.mem_cons_self ..) h7;simp only at this ⊢;omega
    ·have:=hA y (List.mem_cons_of_mem _ hy) h7;omega)) k1
  rw [bY,fA,<- Nat.add_assoc]
  exact⟨r1.append r2,e2,k2,i2.turn _⟩
 | y :: l,[],_,_,_,_,_,_,h,_,_,_,_,_,_=>by simp at h
theorem aT2{x:Ps}(h:oV x=true)(hw:wf x):eD x.kd=true/\x.kd≠6:=by
 cases x with
 | lf k n rs=>
  rw [wf] at hw
  rcases hw with rfl | rfl | rfl | rfl <;> simp [Ps.kd,eD]
 | grp=>simp [Ps.kd,eD]
 | rep=>simp [Ps.kd,eD]
 | row l=>simp only [Ps.kd];split <;> simp [eD]
 | alt=>simp [oV] at h
theorem aT3{x:Ps}(hw:wf x):eD x.kd=true:=by
 cases x with
 | alt=>simp [Ps.kd,eD]
 | _=>exact(aT2 rfl hw).1
theorem bK3{x:Ps}(h:eG x=true):cO x.kd=true:=by
 cases x with
 | lf k n rs=>
  simp [eG] at h
  rcases h with rfl | rfl <;> simp [Ps.kd,cO]
 | grp=>simp [Ps.kd,cO]
 | rep=>simp [Ps.kd,cO]
 | row=>simp [eG] at h
 | alt=>simp [eG] at h
theorem bN0(c f:Bool)(x:Ps):RtP c f x:=by
 refine Ps.ind (P:=RtP c f) (fun x ih=>?_) x
 intro t wy gr o e rest h hw hs hst hI hA hh
 have hft:t.f.k=x.kd:=by rw [<- aV3,h,aI7]
 rw [fU]
 cases x with
 | lf k n rs=>
  rw [te] at h
  obtain⟨f1,f2,f3,f4,f5,f6⟩:=kY h
  rw [show t.ks=[] by simpa using f6,bU]
  have hs:=hs (.lf k n rs) (by rw [pfl];simp)
  rw [pfl,List.singleton_append,hk] at hh
  rw [wf] at hw
  have g0:bE [(wy,t)]=0:=by
   simp only [bE,f1]
   rcases hw with rfl | rfl | rfl | rfl <;> simp
  rw [g0,Nat.add_zero]
  refine⟨RTr.one ⟨by rw [hft];exact hst,?_,?_,fun z=>?_,fun z=>?_⟩,e,hh.2,hI⟩
  ·simp only
   unfold aY
   rw [f1,f2,f3,f4,f5]
   rcases hw with rfl | rfl | rfl | rfl
   ·rw [if_pos rfl];exact⟨(hs.1 rfl).1,(hs.1 rfl).2,rfl,rfl⟩
   ·rw [if_neg (by decide),if_neg (by decide),if_neg (by decide),if_neg (by decide),hs.2.1 (by decide),hs.2.2.2 (by decide)];simp
   ·rw [if_neg (by decide),if_neg (by decide),if_neg (by decide),if_neg (by decide),hs.2.1 (by decide),hs.2.2.2 (by decide)];simp
   ·rw [if_neg (by decide),if_neg (by decide),if_pos rfl,hs.2.1 (by decide)];exact⟨hs.2.2.1 rfl,rfl,rfl,rfl⟩
  ·simp only
   rw [show t.ks=[] by simpa using f6,f1]
   rcases hw with rfl | rfl | rfl | rfl <;> simp [gS]
  ·simp only at z
   rcases hw with rfl | rfl | rfl | rfl <;> (rw [f1] at z;cases z)
  ·simp only at z ⊢
   obtain⟨i,hi,e1⟩:=hh.1 (f1.symm.trans z)
   have:=hI i hi
   rw [f2,e1]
   exact⟨this.2,by omega⟩
 | grp n k=>
  rw [te] at h
  obtain⟨f1,f2,f3,f4,f5,f6⟩:=kY h
  obtain⟨u,e1,hu⟩:=aF5 f6
  rw [wf] at hw
  rw [pfl] at hh hs
  rw [List.cons_append,hk] at hh
  obtain⟨rfl,hg,hh⟩:=hh
  rw [List.append_assoc] at hh
  have hA':Av (gr+1) ((t,0) :: wy):=(hA.mono (by omega)).down 0 (fun _=>by rw [f2];omega)
  have hI':Iv (gr+1) e ((t,0) :: wy):=fun m hm=>⟨by have:=(hI m hm).1;omega,by
   rw [dY,(hI m hm).2,f2]
   have:=(hI m hm).1
   have e2:(((gr+1:Nat):Int)==(m:Int))=false:=by rw [beq_eq_false_iff_ne];omega
   rw [e2];simp⟩
  have hst':cV ((t,0) :: wy) k.kd=true:=by
   simp only [cV,dH]
   rw [f1,if_neg (by decide),if_neg (by decide),if_neg (by decide)]
   exact aT3 hw
  obtain⟨r1,e',k1,i1⟩:=ih k (by simp [Ps.kids]) u ((t,0) :: wy) (gr+1) ((gr+1) :: o) e ([.cl] ++ rest) hu hw (fun s hs'=>hs s (List.mem_cons_of_mem _ (List.mem_append_left _ hs'))) hst' hI' hA' hh
  rw [List.singleton_append,hk] at k1
  obtain⟨n2,o2,eo,k2⟩:=k1
  injection eo with eo1 eo2
  subst eo1 eo2
  rw [e1,bY,bU,List.append_nil]
  have g1:bE ((wy,t) :: pp ((t,0) :: wy) u)=1+bE (pp ((t,0) :: wy) u):=by simp only [bE,f1,if_pos]
  rw [g1,show gr+(1+bE (pp ((t,0) :: wy) u))=gr+1+bE (pp ((t,0) :: wy) u) by omega]
  refine⟨?_,(gr+1) :: e',k2,?_⟩
  ·refine RTr.append (A:=[(wy,t)]) (RTr.one ⟨by rw [hft];exact hst,?_,?_,fun _=>by rw [f2];omega,fun z=>by simp only at z;rw [f1] at z;cases z⟩) ?_
   ·simp only
    unfold aY
    rw [f1,f2,f3,f4,f5,if_neg (by decide),if_pos rfl]
    exact⟨by omega,rfl,rfl,rfl⟩
   ·simp only
    rw [e1,f1]
    rfl
   ·have g2:bE [(wy,t)]=1:=by simp [bE,f1]
    rw [g2]
    exact r1
  ·intro m hm
   rcases List.mem_cons.1 hm with rfl | hm
   ·exact⟨by omega,hA.end_ (by omega)⟩
   ·exact i1.up m hm
 | rep a b k=>
  rw [te] at h
  obtain⟨f1,f2,f3,f4,f5,f6⟩:=kY h
  obtain⟨u,e1,hu⟩:=aF5 f6
  rw [wf] at hw
  rw [pfl] at hh hs
  rw [List.append_assoc] at hh
  have hb:jD a b=true:=hs (.rp a b) (by simp)
  have hst':cV ((t,0) :: wy) k.kd=true:=by
   simp only [cV,dH]
   rw [f1,if_neg (by decide),if_pos rfl]
   exact bK3 hw.1
  obtain⟨r1,e',k1,i1⟩:=ih k (by simp [Ps.kids]) u ((t,0) :: wy) gr o e ([.rp a b] ++ rest) hu hw.2 (fun s hs'=>hs s (List.mem_append_left _ hs')) hst' (hI.down 0 (by rw [f1];decide)) (hA.down 0 (fun z=>by rw [f1] at z;cases z)) hh
  rw [List.singleton_append,bN5] at k1
  rw [e1,bY,bU,List.append_nil]
  have g1:bE ((wy,t) :: pp ((t,0) :: wy) u)=bE (pp ((t,0) :: wy) u):=by simp [bE,f1]
  rw [g1]
  refine⟨?_,e',k1,i1.up⟩
  refine RTr.append (A:=[(wy,t)]) (RTr.one ⟨by rw [hft];exact hst,?_,?_,fun z=>(by simp only at z;rw [f1] at z;cases z),fun z=>(by simp only at z;rw [f1] at z;cases z)⟩) ?_
  ·simp only
   unfold aY
   rw [f1,f2,f3,f4,f5,if_neg (by decide),if_neg (by decide),if_neg (by decide),if_pos rfl]
   exact⟨hb,rfl,rfl⟩
  ·simp only
   rw [e1,f1]
   rfl
  ·have g2:bE [(wy,t)]=0:=by simp [bE,f1]
   rw [g2]
   exact r1
 | row l=>
  rw [wf] at hw
  obtain⟨hw1,hw2,hw3⟩:=hw
  rw [pfl] at hh hs
  rw [te] at h
  by_cases hl:l=[]
  ·subst hl
   rw [if_pos (show ([]:List Ps).isEmpty=true from rfl)] at h
   obtain⟨f1,f2,f3,f4,f5,f6⟩:=kY h
   rw [show t.ks=[] by simpa using f6,bU]
   rw [bS] at hh
   have g0:bE [(wy,t)]=0:=by simp [bE,f1]
   rw [g0,Nat.add_zero]
   refine⟨RTr.one ⟨by rw [hft];exact hst,?_,?_,fun z=>(by simp only at z;rw [f1] at z;cases z),fun z=>(by simp only at z;rw [f1] at z;cases z)⟩,e,hh,hI⟩
   ·simp only
    unfold aY
    rw [f1,f2,f3,f4,f5,if_neg (by decide),if_neg (by decide),if_neg (by decide),if_neg (by decide)]
    exact⟨rfl,rfl,rfl,rfl⟩
   ·simp only
    rw [show t.ks=[] by simpa using f6,f1]
    rfl
  ·rw [if_neg (by simpa using hl)] at h
   obtain⟨f1,f2,f3,f4,f5,f6⟩:=kY h
   rw [gZ] at f6
   have hlen:t.ks.length=l.length:=by have:=congrArg List.length f6;simpa using this
   have h2:2<=l.length:=by
    have:l.length≠0:=fun z=>hl (List.eq_nil_of_length_eq_zero z)
    omega
   obtain⟨r1,e',k1,i1⟩:=aP9 (par:=t) (wy:=wy) l t.ks 0 gr o e rest ih f6 hw3 hs (fun j y hy=>by
    have hy':=hw2 j y hy
    rw [Nat.zero_add]
    simp only [cV,dH]
    rw [f1,if_pos rfl,hlen]
    have hwy:=(cL l).1 hw3 y (List.mem_of_getElem? hy)
    have hj:=(List.getElem?_eq_some_iff.1 hy).1
    cases y with
    | lf k n rs=>
     rw [wf] at hwy
     rcases hwy with rfl | rfl | rfl | rfl
     ·simp [Ps.kd,cO]
     ·have:=hy'.2.1 rfl
      subst this
      simp [Ps.kd]
     ·have:=hy'.2.2 rfl
      have e3:((j:Int)==(l.length:Int) - 1)=true:=by rw [beq_iff_eq];omega
      rw [e3]
      simp [Ps.kd]
     ·simp [Ps.kd,cO]
    | grp=>simp [Ps.kd,cO]
    | rep=>simp [Ps.kd,cO]
    | row=>simp [cD] at hy'
    | alt=>simp [cD] at hy') (hI.down 0 (by rw [f1];decide)) (hA.down 0 (fun z=>by rw [f1] at z;cases z)) hh
   have g1:bE ((wy,t) :: pps t wy 0 t.ks)=bE (pps t wy 0 t.ks):=by simp [bE,f1]
   rw [g1]
   refine⟨?_,e',k1,i1.up⟩
   refine RTr.append (A:=[(wy,t)]) (RTr.one ⟨by rw [hft];exact hst,?_,?_,fun z=>(by simp only at z;rw [f1] at z;cases z),fun z=>(by simp only at z;rw [f1] at z;cases z)⟩) ?_
   ·simp only
    unfold aY
    rw [f1,f2,f3,f4,f5,if_neg (by decide),if_neg (by decide),if_neg (by decide),if_neg (by decide)]
    exact⟨rfl,rfl,rfl,rfl⟩
   ·simp only
    rw [f1,hlen]
    simp [gS,h2]
   ·have g2:bE [(wy,t)]=0:=by simp [bE,f1]
    rw [g2]
    exact r1
 | alt l=>
  rw [wf] at hw
  obtain⟨hw1,hw2,hw3⟩:=hw
  rw [pfl] at hh hs
  rw [te] at h
  obtain⟨f1,f2,f3,f4,f5,f6⟩:=kY h
  rw [gZ] at f6
  have hlen:t.ks.length=l.length:=by have:=congrArg List.length f6;simpa using this
  have hh2:hk gr o e (bZ l ++ rest):=by
   cases l with
   | nil=>simp at hw1
   | cons y l=>rw [cJ] at hh;rw [bZ,List.cons_append,aG0];exact hh
  have hs2:∀ s∈bZ l,fI c f s:=by
   cases l with
   | nil=>simp at hw1
   | cons y l=>
    rw [cJ] at hs
    rw [bZ]
    intro s hs'
    rcases List.mem_cons.1 hs' with rfl | hs'
    ·trivial
    ·exact hs s hs'
  obtain⟨r1,e',k1,i1⟩:=aP8 (par:=t) (wy:=wy) l t.ks 0 gr o e rest ih f6 hw3 hs2 (fun j y hy=>by
   have hy':=aT2 (hw2 y (List.mem_of_getElem? hy)) ((cL l).1 hw3 y (List.mem_of_getElem? hy))
   simp only [cV,dH]
   rw [f1,if_neg (by decide),if_neg (by decide),if_pos rfl,hy'.1]
   simpa using hy'.2) (hI.down 0 (by rw [f1];decide)) (hA.down 0 (fun z=>by rw [f1] at z;cases z)) hh2
  have g1:bE ((wy,t) :: pps t wy 0 t.ks)=bE (pps t wy 0 t.ks):=by simp [bE,f1]
  rw [g1]
  refine⟨?_,e',k1,i1.up⟩
  refine RTr.append (A:=[(wy,t)]) (RTr.one ⟨by rw [hft];exact hst,?_,?_,fun z=>(by simp only at z;rw [f1] at z;cases z),fun z=>(by simp only at z;rw [f1] at z;cases z)⟩) ?_
  ·simp only
   unfold aY
   rw [f1,f2,f3,f4,f5,if_neg (by decide),if_neg (by decide),if_neg (by decide),if_neg (by decide)]
   exact⟨rfl,rfl,rfl,rfl⟩
  ·simp only
   rw [f1,hlen]
   simp [gS,hw1]
  ·have g2:bE [(wy,t)]=0:=by simp [bE,f1]
   rw [g2]
   exact r1
theorem vY{c f:Bool}{x:Ps}{t:Tr}(h:er t=te x)(hw:wf x)(hs:∀ s∈pfl x,fI c f s)(hh:hk 0 [] [] (pfl x))(h1:x.dp<=40)(h2:x.sz<=2000):bT c f 0 0 (pp [] t)=0:=by
 have hr:=(bN0 c f x t [] 0 [] [] [] h hw hs (aT3 hw) (fun n hn=>by cases hn) (fun y hy=>by cases hy) (by simpa using hh)).1
 have hd:=aH1 x t [] h
 have hl:(pp [] t).length<=2000:=by rw [pX,<- xQ,h,aO7];exact h2
 refine tC _ 0 0 fun pre y post e=>?_
 obtain⟨l1,l2,l3,l4,l5⟩:=hr pre y post e
 rw [Nat.zero_add] at l2 l5
 rw [Nat.zero_add,Nat.zero_add]
 have hpl:pre.length < 2000:=by rw [e] at hl;simp at hl;omega
 have hdp:y.1.length+1<=40:=by
  have:fK (pp [] t)<=40:=by rw [hd];simpa using h1
  rw [e,nG] at this
  simp only [fK] at this
  omega
 unfold fV
 rw [if_neg (by omega),if_neg (by omega),if_neg (fun z=>z ⟨l1,l2,l3⟩),if_neg (fun z=>by have:=l4 z.1;omega),if_neg (fun z=>z.2 (l5 z.1))]
end Go.Proofs.YticfnglebbakkaaGreatDoor

/-
  Parts of the proof.
-/
import Derived.Test.YtlamifbjklpdbaaGreatSameProofA0
import Derived.Test.YtlamifbjklpdbaaGreatSameProofB17
import Derived.Test.YtlamifbjklpdbaaGreatSameProofB18
import Derived.Test.YtlamifbjklpdbaaGreatSameProofB8
import Derived.Test.YtlamifbjklpdbaaGreatSameProofB14
import Derived.Test.YtlamifbjklpdbaaGreatSameProofB15
import Derived.Test.YtlamifbjklpdbaaGreatSameProofB0
import Derived.Test.YtlamifbjklpdbaaGreatSameProofB4
import Derived.Test.YtlamifbjklpdbaaGreatSameProofB12
import Derived.Test.YtlamifbjklpdbaaGreatSameProofB11
import Derived.Deep.RegionHeld
import Derived.Laws.EntriesVeiled
import Derived.Test.YtlamifbjklpdbaaGreatSameProofB9
import Derived.BigQuiet
import Derived.Test.YtlamifbjklpdbaaGreatSameProofB10
import Derived.Test.YtlamifbjklpdbaaGreatSameProofB5
import Derived.Test.YtlamifbjklpdbaaGreatSameProofB6
import Derived.Laws.AppendOwnNone
set_option linter.unusedSimpArgs false
set_option maxRecDepth 100000
set_option maxHeartbeats 8000000
namespace Go.Proofs.YtlamifbjklpdbaaGreat
open Go Go.RowKit
section
mutual
def Er.sz:Er->Nat | .mk _ _ _ _ _ ks=>qS ks+1
def qS:List Er->Nat | []=>0 | x :: xs=>x.sz+qS xs
end
def Er.k:Er->Int | .mk k _ _ _ _ _=>k
def Er.ks:Er->List Er | .mk _ _ _ _ _ ks=>ks
theorem lM(x:Er):x.sz=qS x.ks+1:=by cases x;rw [Er.sz];rfl
theorem kJ(x:Er)(l:List Er):qS (x :: l)=x.sz+qS l:=by rw [qS]
theorem iE:qS []=0:=by rw [qS]
theorem bM8(t:Tr):(er t).k=t.f.k:=by rw [bY];rfl
theorem bF1(t:Tr):(er t).ks=t.ks.map er:=by rw [bY];rfl
theorem mT(t:Tr):(er t).sz=t.sz:=by
 refine Tr.ind (P:=fun t=>(er t).sz=t.sz) (fun t ih=>?_) t
 rw [lM,bF1,dA]
 congr 1
 have:∀ l:List Tr,(∀ u∈l,(er u).sz=u.sz)->qS (l.map er)=szs l:=by
  intro l
  induction l with
  | nil=>intro _;rw [List.map_nil,iE,cM]
  | cons x l ih2=>
   intro h
   rw [s6,kJ,bE,h x (n9 ..),ih2 (fun u hu=>h u (m9 _ hu))]
 exact this t.ks ih
section
variable {V:World} {g:Nat} {t1 t2 t3:Tr}
end
end
theorem iR{t:Tr}{k n mn mx:Int}{rs:List (Int×Int)}{l:List Er}(h:er t=.mk k n mn mx rs l):t.f.k=k/\t.f.n=n/\t.f.mn=mn/\t.f.mx=mx/\t.f.rs=rs/\t.ks.map er=l:=by
 rw [bY] at h
 injection h with h1 h2 h3 h4 h5 h6
 exact⟨h1,h2,h3,h4,h5,h6⟩
theorem sV{ks:List Tr}{x:Er}(h:ks.map er=[x]):∃ a,ks=[a]/\er a=x:=by
 match ks,h with
 | [a],h=>simp at h;exact⟨a,rfl,h⟩
theorem bG6(x:Ps):(te x).k=x.kd:=by
 cases x with
 | row l=>simp only [te,Ps.kd];split <;> rfl
 | _=>simp [te,Ps.kd,Er.k]
theorem pJ(x:Ps):(te x).sz=x.sz:=by
 refine Ps.ind (P:=fun x=>(te x).sz=x.sz) (fun x ih=>?_) x
 have hl:∀ l:List Ps,(∀ y∈l,(te y).sz=y.sz)->qS (tes l)=bU l:=by
  intro l
  induction l with
  | nil=>intro _;rw [tes,iE,gZ]
  | cons y l ih2=>intro h;rw [tes,kJ,bH,h y (n9 ..),ih2 (fun z hz=>h z (m9 _ hz))]
 cases x with
 | lf k n rs=>simp only [te,Ps.sz,lM,Er.ks,iE]
 | grp n k=>rw [te,lM,Ps.sz];simp only [Er.ks];rw [kJ,iE,ih k (by simp [Ps.kids])]
 | rep a b k=>rw [te,lM,Ps.sz];simp only [Er.ks];rw [kJ,iE,ih k (by simp [Ps.kids])]
 | row l=>
  rw [te,Ps.sz]
  split
  ·rename_i h
   rw [List.isEmpty_iff.1 h,lM,gZ];simp only [Er.ks,iE]
  ·rw [lM];simp only [Er.ks];rw [hl l ih]
 | alt l=>rw [te,Ps.sz,lM];simp only [Er.ks];rw [hl l ih]
theorem mU(a b:List El):eR (a++b)=max (eR a) (eR b):=by
 induction a with
 | nil=>simp [eR]
 | cons x a ih=>simp only [t4,eR,ih];omega
theorem aA1(x:Ps):∀ (t:Tr) (wy:Way),er t=te x->eR (pp wy t)=wy.length+x.dp:=by
 refine Ps.ind (P:=fun x=>∀ (t:Tr) (wy:Way),er t=te x->eR (pp wy t)=wy.length+x.dp) (fun x ih t wy h=>?_) x
 have hl:∀ (l:List Ps) (ks:List Tr) (i:Nat),(∀ y∈l,∀ (t:Tr) (wy:Way),er t=te y->eR (pp wy t)=wy.length+y.dp)->ks.map er=l.map te->eR (pps t wy i ks)=if l=[] then 0 else wy.length+1+gK l:=by
  intro l
  induction l with
  | nil=>
   intro ks i _ h
   obtain rfl:ks=[]:=by simpa using h
   rw [bA,if_pos rfl];rfl
  | cons y l ih2=>
   intro ks i h hk
   match ks,hk with
   | u :: ks,hk=>
    rw [s6,s6] at hk
    injection hk with h1 h2
    rw [aX,mU,h y (n9 ..) u _ h1,ih2 ks (i+1) (fun z hz=>h z (m9 _ hz)) h2,gK,o7]
    by_cases e:l=[]
    ·subst e
     rw [if_pos rfl,if_neg (by simp),gK];omega
    ·rw [if_neg e,if_neg (by simp)];omega
 rw [bX]
 simp only [eR]
 have hks:t.ks.map er=(te x).ks:=by rw [<- bF1,h]
 cases x with
 | lf k n rs=>
  rw [te] at hks
  rw [show t.ks=[] by simpa [Er.ks] using hks,bA,Ps.dp]
  simp [eR]
 | grp n k=>
  rw [te] at hks
  rw [hl [k] t.ks 0 ih (by simpa [Er.ks] using hks),if_neg (by simp),Ps.dp,gK,gK]
  omega
 | rep a b k=>
  rw [te] at hks
  rw [hl [k] t.ks 0 ih (by simpa [Er.ks] using hks),if_neg (by simp),Ps.dp,gK,gK]
  omega
 | row l=>
  rw [te] at hks
  by_cases e:l=[]
  ·subst e
   rw [if_pos (show ([]:List Ps).isEmpty=true from rfl)] at hks
   rw [show t.ks=[] by simpa [Er.ks] using hks,bA,Ps.dp,gK]
   simp [eR]
  ·rw [if_neg (by simpa using e)] at hks
   rw [hl l t.ks 0 ih (by rw [<- bP];simpa [Er.ks] using hks),if_neg e,Ps.dp]
   omega
 | alt l=>
  rw [te] at hks
  rw [hl l t.ks 0 ih (by rw [<- bP];simpa [Er.ks] using hks),Ps.dp]
  split
  ·rename_i e;rw [e,gK];omega
  ·omega
def dG(c f:Bool):Sgn->Prop
 | .lf k n rs=>(k=2->lC c f rs/\n=0)/\(k≠2->rs=[])/\(k=8->1<=n/\n<=9)/\(k≠8->n=0)
 | .rp a b=>eX a b=true
 | _=>True
def LKr(c f:Bool)(x:El)(gr:Nat):Prop:=
 bQ x.1 x.2.f.k=true/\aS c f ((gr:Int)+1) x.2.f/\dY x.2.f.k x.2.ks.length=true/\(x.2.f.k=7->x.2.f.n<=30)/\(x.2.f.k=8->fJ x.1 x.2.f.n=false/\x.2.f.n<=(gr:Int))
def RTr(c f:Bool)(gr:Nat)(L:List El):Prop:=∀ pre x post,L=pre++x :: post->LKr c f x (gr+aN pre)
theorem RTr.nil(c f:Bool)(gr:Nat):RTr c f gr []:=fun pre x post h=>by cases pre <;> cases h
theorem RTr.append{c f:Bool}{gr:Nat}{A B:List El}(h1:RTr c f gr A)(h2:RTr c f (gr+aN A) B):RTr c f gr (A++B):=by
 intro pre x post h
 rcases List.append_eq_append_iff.1 h with⟨a,e1,e2⟩ | ⟨a,e1,e2⟩
 ·rw [e1,dB,<- aAU]
  exact h2 a x post e2
 ·cases a with
  | nil=>
   simp at e1 e2
   subst e1
   have:=h2 [] x post (by simp [<- e2])
   simpa [aN] using this
  | cons y a=>
   simp at e2
   obtain⟨rfl,e2⟩:=e2
   exact h1 pre x a e1
theorem RTr.one{c f:Bool}{gr:Nat}{x:El}(h:LKr c f x gr):RTr c f gr [x]:=by
 intro pre y post e
 cases pre with
 | nil=>simp at e;obtain⟨rfl,-⟩:=e;simpa [aN] using h
 | cons z pre=>simp at e
theorem zS(g:Nat)(o e:List Nat)(l:List Sgn):hk g o e (.al :: l)=hk g o e l:=rfl
theorem bP0(g:Nat)(o e:List Nat)(a b:Int)(l:List Sgn):hk g o e (.rp a b :: l)=hk g o e l:=rfl
def Iv(gr:Nat)(e:List Nat)(wy:Way):Prop:=∀ n∈e,n<=gr/\fJ wy (n:Int)=false
def Av(gr:Nat)(wy:Way):Prop:=∀ y∈wy,y.1.f.k=7->y.1.f.n<=(gr:Int)
theorem Av.mono{gr gr':Nat}{wy:Way}(h:Av gr wy)(hg:gr<=gr'):Av gr' wy:=fun y hy hk=>by have:=h y hy hk;omega
theorem eN(t:Tr)(i:Nat)(wy:Way)(n:Int):fJ ((t,i) :: wy) n=((t.f.k==7&&t.f.n==n)||fJ wy n):=by simp [fJ]
theorem Iv.down{gr:Nat}{e:List Nat}{wy:Way}{t:Tr}(i:Nat)(h:Iv gr e wy)(hk:t.f.k≠7):Iv gr e ((t,i) :: wy):=fun n hn=>⟨(h n hn).1,by rw [eN,(h n hn).2];simp [hk]⟩
theorem Iv.up{gr:Nat}{e:List Nat}{wy:Way}{t:Tr}{i:Nat}(h:Iv gr e ((t,i) :: wy)):Iv gr e wy:=fun n hn=>⟨(h n hn).1,by have:=(h n hn).2;rw [eN] at this;simp only [Bool.or_eq_false_iff] at this;exact this.2⟩
theorem Iv.turn{gr:Nat}{e:List Nat}{wy:Way}{t:Tr}{i:Nat}(j:Nat)(h:Iv gr e ((t,i) :: wy)):Iv gr e ((t,j) :: wy):=fun n hn=>⟨(h n hn).1,by have:=(h n hn).2;rw [eN] at this ⊢;exact this⟩
theorem Av.down{gr:Nat}{wy:Way}{t:Tr}(i:Nat)(h:Av gr wy)(hk:t.f.k=7->t.f.n<=(gr:Int)):Av gr ((t,i) :: wy):=fun y hy h7=>by
 rcases u0.1 hy with rfl | hy
 ·exact hk h7
 ·exact h y hy h7
theorem Av.end_{gr:Nat}{wy:Way}(h:Av gr wy){n:Nat}(hn:gr<n):fJ wy (n:Int)=false:=by
 unfold fJ
 rw [List.any_eq_false]
 intro y hy
 simp only [aBY,beq_iff_eq,not_and]
 intro h7 e
 have:=h y hy h7
 omega
def RtP(c f:Bool)(x:Ps):Prop:=∀ (t:Tr) (wy:Way) (gr:Nat) (o e:List Nat) (rest:List Sgn),er t=te x->wf x->(∀ s∈pfl x,dG c f s)->bQ wy x.kd=true->Iv gr e wy->Av gr wy->hk gr o e (pfl x++rest) ->
 RTr c f gr (pp wy t)/\∃ e',hk (gr+aN (pp wy t)) o e' rest/\Iv (gr+aN (pp wy t)) e' wy
theorem aL6{c f:Bool}{par:Tr}{wy:Way}:∀ (l:List Ps) (ks:List Tr) (i gr:Nat) (o e:List Nat) (rest:List Sgn),(∀ y∈l,RtP c f y)->ks.map er=l.map te->wfs l->(∀ s∈eK l,dG c f s)->(∀ j y,l[j]?=some y->bQ ((par,i+j) :: wy) y.kd=true)->Iv gr e ((par,i) :: wy)->Av gr ((par,i) :: wy)->hk gr o e (eK l++rest) ->
  RTr c f gr (pps par wy i ks)/\∃ e',hk (gr+aN (pps par wy i ks)) o e' rest/\Iv (gr+aN (pps par wy i ks)) e' ((par,i) :: wy)
 | [],ks,i,gr,o,e,rest,_,h,_,_,_,hI,_,hh=>by
  obtain rfl:ks=[]:=by simpa using h
  rw [bA]
  rw [eK] at hh
  exact⟨RTr.nil _ _ _,e,by simpa [aN] using hh,by simpa [aN] using hI⟩
 | y :: l,u :: ks,i,gr,o,e,rest,ih,h,hw,hs,hst,hI,hA,hh=>by
  rw [s6,s6] at h
  injection h with h1 h2
  rw [wfs] at hw
  rw [eK] at hh hs
  rw [r8] at hh
  obtain⟨r1,e1,k1,i1⟩:=ih y (n9 ..) u ((par,i) :: wy) gr o e (eK l++rest) h1 hw.1 (fun s hs'=>hs s (List.mem_append_left _ hs')) (by have:=hst 0 y rfl;simpa using this) hI hA hh
  obtain⟨r2,e2,k2,i2⟩:=aL6 l ks (i+1) _ o e1 rest (fun z hz=>ih z (m9 _ hz)) h2 hw.2 (fun s hs'=>hs s (List.mem_append_right _ hs')) (fun j z hz=>by have:=hst (j+1) z (by simpa using hz);rwa [show i+(j+1)=i+1+j by omega] at this) (i1.turn _) ((fun y hy h7=>by
    rcases u0.1 hy with rfl | hy
    ·have:=hA (par,i) (n9 ..) h7;simp only at this ⊢;omega
    ·have:=hA y (m9 _ hy) h7;omega)) k1
  rw [aX,dB,<- aAU]
  exact⟨r1.append r2,e2,k2,i2.turn _⟩
 | y :: l,[],_,_,_,_,_,_,h,_,_,_,_,_,_=>by simp at h
theorem aL5{c f:Bool}{par:Tr}{wy:Way}:∀ (l:List Ps) (ks:List Tr) (i gr:Nat) (o e:List Nat) (rest:List Sgn),(∀ y∈l,RtP c f y)->ks.map er=l.map te->wfs l->(∀ s∈eH l,dG c f s)->(∀ j y,l[j]?=some y->bQ ((par,i+j) :: wy) y.kd=true)->Iv gr e ((par,i) :: wy)->Av gr ((par,i) :: wy)->hk gr o e (eH l++rest) ->
  RTr c f gr (pps par wy i ks)/\∃ e',hk (gr+aN (pps par wy i ks)) o e' rest/\Iv (gr+aN (pps par wy i ks)) e' ((par,i) :: wy)
 | [],ks,i,gr,o,e,rest,_,h,_,_,_,hI,_,hh=>by
  obtain rfl:ks=[]:=by simpa using h
  rw [bA]
  rw [eH] at hh
  exact⟨RTr.nil _ _ _,e,by simpa [aN] using hh,by simpa [aN] using hI⟩
 | y :: l,u :: ks,i,gr,o,e,rest,ih,h,hw,hs,hst,hI,hA,hh=>by
  rw [s6,s6] at h
  injection h with h1 h2
  rw [wfs] at hw
  rw [eH] at hh hs
  rw [t4,zS,r8] at hh
  obtain⟨r1,e1,k1,i1⟩:=ih y (n9 ..) u ((par,i) :: wy) gr o e (eH l++rest) h1 hw.1 (fun s hs'=>hs s (m9 _ (List.mem_append_left _ hs'))) (by have:=hst 0 y rfl;simpa using this) hI hA hh
  obtain⟨r2,e2,k2,i2⟩:=aL5 l ks (i+1) _ o e1 rest (fun z hz=>ih z (m9 _ hz)) h2 hw.2 (fun s hs'=>hs s (m9 _ (List.mem_append_right _ hs'))) (fun j z hz=>by have:=hst (j+1) z (by simpa using hz);rwa [show i+(j+1)=i+1+j by omega] at this) (i1.turn _) ((fun y hy h7=>by
    rcases u0.1 hy with rfl | hy
    ·have:=hA (par,i) (n9 ..) h7;simp only at this ⊢;omega
    ·have:=hA y (m9 _ hy) h7;omega)) k1
  rw [aX,dB,<- aAU]
  exact⟨r1.append r2,e2,k2,i2.turn _⟩
 | y :: l,[],_,_,_,_,_,_,h,_,_,_,_,_,_=>by simp at h
theorem bE8{x:Ps}(h:kQ x=true)(hw:wf x):cP x.kd=true/\x.kd≠6:=by
 cases x with
 | lf k n rs=>
  rw [wf] at hw
  rcases hw with rfl | rfl | rfl | rfl <;> simp [Ps.kd,cP]
 | grp=>simp [Ps.kd,cP]
 | rep=>simp [Ps.kd,cP]
 | row l=>simp only [Ps.kd];split <;> simp [cP]
 | alt=>simp [kQ] at h
theorem aP9{x:Ps}(hw:wf x):cP x.kd=true:=by
 cases x with
 | alt=>simp [Ps.kd,cP]
 | _=>exact(bE8 rfl hw).1
theorem bL7{x:Ps}(h:fW x=true):bC x.kd=true:=by
 cases x with
 | lf k n rs=>
  simp [fW] at h
  rcases h with rfl | rfl <;> simp [Ps.kd,bC]
 | grp=>simp [Ps.kd,bC]
 | rep=>simp [Ps.kd,bC]
 | row=>simp [fW] at h
 | alt=>simp [fW] at h
theorem bN8(c f:Bool)(x:Ps):RtP c f x:=by
 refine Ps.ind (P:=RtP c f) (fun x ih=>?_) x
 intro t wy gr o e rest h hw hs hst hI hA hh
 have hft:t.f.k=x.kd:=by rw [<- bM8,h,bG6]
 rw [bX]
 cases x with
 | lf k n rs=>
  rw [te] at h
  obtain⟨f1,f2,f3,f4,f5,f6⟩:=iR h
  rw [show t.ks=[] by simpa using f6,bA]
  have hs:=hs (.lf k n rs) (by rw [pfl];simp)
  rw [pfl,List.singleton_append,hk] at hh
  rw [wf] at hw
  have g0:aN [(wy,t)]=0:=by
   simp only [aN,f1]
   rcases hw with rfl | rfl | rfl | rfl <;> simp
  rw [g0,aAJ]
  refine⟨RTr.one ⟨by rw [hft];exact hst,?_,?_,fun z=>?_,fun z=>?_⟩,e,hh.2,hI⟩
  ·simp only
   unfold aS
   rw [f1,f2,f3,f4,f5]
   rcases hw with rfl | rfl | rfl | rfl
   ·rw [if_pos rfl];exact⟨(hs.1 rfl).1,(hs.1 rfl).2,rfl,rfl⟩
   ·rw [if_neg (by decide),if_neg (by decide),if_neg (by decide),if_neg (by decide),hs.2.1 (by decide),hs.2.2.2 (by decide)];simp
   ·rw [if_neg (by decide),if_neg (by decide),if_neg (by decide),if_neg (by decide),hs.2.1 (by decide),hs.2.2.2 (by decide)];simp
   ·rw [if_neg (by decide),if_neg (by decide),if_pos rfl,hs.2.1 (by decide)];exact⟨hs.2.2.1 rfl,rfl,rfl,rfl⟩
  ·simp only
   rw [show t.ks=[] by simpa using f6,f1]
   rcases hw with rfl | rfl | rfl | rfl <;> simp [dY]
  ·simp only at z
   rcases hw with rfl | rfl | rfl | rfl <;> (rw [f1] at z;cases z)
  ·simp only at z ⊢
   obtain⟨i,hi,e1⟩:=hh.1 (f1.symm.trans z)
   have:=hI i hi
   rw [f2,e1]
   exact⟨this.2,by omega⟩
 | grp n k=>
  rw [te] at h
  obtain⟨f1,f2,f3,f4,f5,f6⟩:=iR h
  obtain⟨u,e1,hu⟩:=sV f6
  rw [wf] at hw
  rw [pfl] at hh hs
  rw [t4,hk] at hh
  obtain⟨rfl,hg,hh⟩:=hh
  rw [r8] at hh
  have hA':Av (gr+1) ((t,0) :: wy):=(hA.mono (by omega)).down 0 (fun _=>by rw [f2];omega)
  have hI':Iv (gr+1) e ((t,0) :: wy):=fun m hm=>⟨by have:=(hI m hm).1;omega,by
   rw [eN,(hI m hm).2,f2]
   have:=(hI m hm).1
   have e2:(((gr+1:Nat):Int)==(m:Int))=false:=by rw [n7];omega
   rw [e2];simp⟩
  have hst':bQ ((t,0) :: wy) k.kd=true:=by
   simp only [bQ,cS]
   rw [f1,if_neg (by decide),if_neg (by decide),if_neg (by decide)]
   exact aP9 hw
  obtain⟨r1,e',k1,i1⟩:=ih k (by simp [Ps.kids]) u ((t,0) :: wy) (gr+1) ((gr+1) :: o) e ([.cl]++rest) hu hw (fun s hs'=>hs s (m9 _ (List.mem_append_left _ hs'))) hst' hI' hA' hh
  rw [List.singleton_append,hk] at k1
  obtain⟨n2,o2,eo,k2⟩:=k1
  injection eo with eo1 eo2
  subst eo1 eo2
  rw [e1,aX,bA,t9]
  have g1:aN ((wy,t) :: pp ((t,0) :: wy) u)=1+aN (pp ((t,0) :: wy) u):=by simp only [aN,f1,if_pos]
  rw [g1,show gr+(1+aN (pp ((t,0) :: wy) u))=gr+1+aN (pp ((t,0) :: wy) u) by omega]
  refine⟨?_,(gr+1) :: e',k2,?_⟩
  ·refine RTr.append (A:=[(wy,t)]) (RTr.one ⟨by rw [hft];exact hst,?_,?_,fun _=>by rw [f2];omega,fun z=>by simp only at z;rw [f1] at z;cases z⟩) ?_
   ·simp only
    unfold aS
    rw [f1,f2,f3,f4,f5,if_neg (by decide),if_pos rfl]
    exact⟨by omega,rfl,rfl,rfl⟩
   ·simp only
    rw [e1,f1]
    rfl
   ·have g2:aN [(wy,t)]=1:=by simp [aN,f1]
    rw [g2]
    exact r1
  ·intro m hm
   rcases u0.1 hm with rfl | hm
   ·exact⟨by omega,hA.end_ (by omega)⟩
   ·exact i1.up m hm
 | rep a b k=>
  rw [te] at h
  obtain⟨f1,f2,f3,f4,f5,f6⟩:=iR h
  obtain⟨u,e1,hu⟩:=sV f6
  rw [wf] at hw
  rw [pfl] at hh hs
  rw [r8] at hh
  have hb:eX a b=true:=hs (.rp a b) (by simp)
  have hst':bQ ((t,0) :: wy) k.kd=true:=by
   simp only [bQ,cS]
   rw [f1,if_neg (by decide),if_pos rfl]
   exact bL7 hw.1
  obtain⟨r1,e',k1,i1⟩:=ih k (by simp [Ps.kids]) u ((t,0) :: wy) gr o e ([.rp a b]++rest) hu hw.2 (fun s hs'=>hs s (List.mem_append_left _ hs')) hst' (hI.down 0 (by rw [f1];decide)) (hA.down 0 (fun z=>by rw [f1] at z;cases z)) hh
  rw [List.singleton_append,bP0] at k1
  rw [e1,aX,bA,t9]
  have g1:aN ((wy,t) :: pp ((t,0) :: wy) u)=aN (pp ((t,0) :: wy) u):=by simp [aN,f1]
  rw [g1]
  refine⟨?_,e',k1,i1.up⟩
  refine RTr.append (A:=[(wy,t)]) (RTr.one ⟨by rw [hft];exact hst,?_,?_,fun z=>(by simp only at z;rw [f1] at z;cases z),fun z=>(by simp only at z;rw [f1] at z;cases z)⟩) ?_
  ·simp only
   unfold aS
   rw [f1,f2,f3,f4,f5,if_neg (by decide),if_neg (by decide),if_neg (by decide),if_pos rfl]
   exact⟨hb,rfl,rfl⟩
  ·simp only
   rw [e1,f1]
   rfl
  ·have g2:aN [(wy,t)]=0:=by simp [aN,f1]
   rw [g2]
   exact r1
 | row l=>
  rw [wf] at hw
  obtain⟨hw1,hw2,hw3⟩:=hw
  rw [pfl] at hh hs
  rw [te] at h
  by_cases hl:l=[]
  ·subst hl
   rw [if_pos (show ([]:List Ps).isEmpty=true from rfl)] at h
   obtain⟨f1,f2,f3,f4,f5,f6⟩:=iR h
   rw [show t.ks=[] by simpa using f6,bA]
   rw [eK] at hh
   have g0:aN [(wy,t)]=0:=by simp [aN,f1]
   rw [g0,aAJ]
   refine⟨RTr.one ⟨by rw [hft];exact hst,?_,?_,fun z=>(by simp only at z;rw [f1] at z;cases z),fun z=>(by simp only at z;rw [f1] at z;cases z)⟩,e,hh,hI⟩
   ·simp only
    unfold aS
    rw [f1,f2,f3,f4,f5,if_neg (by decide),if_neg (by decide),if_neg (by decide),if_neg (by decide)]
    exact⟨rfl,rfl,rfl,rfl⟩
   ·simp only
    rw [show t.ks=[] by simpa using f6,f1]
    rfl
  ·rw [if_neg (by simpa using hl)] at h
   obtain⟨f1,f2,f3,f4,f5,f6⟩:=iR h
   rw [bP] at f6
   have hlen:t.ks.length=l.length:=by have:=congrArg List.length f6;simpa using this
   have h2:2<=l.length:=by
    have:l.length≠0:=fun z=>hl (aAD z)
    omega
   obtain⟨r1,e',k1,i1⟩:=aL6 (par:=t) (wy:=wy) l t.ks 0 gr o e rest ih f6 hw3 hs (fun j y hy=>by
    have hy':=hw2 j y hy
    rw [m7]
    simp only [bQ,cS]
    rw [f1,if_pos rfl,hlen]
    have hwy:=(dC l).1 hw3 y (n8 hy)
    have hj:=(m8.1 hy).1
    cases y with
    | lf k n rs=>
     rw [wf] at hwy
     rcases hwy with rfl | rfl | rfl | rfl
     ·simp [Ps.kd,bC]
     ·have:=hy'.2.1 rfl
      subst this
      simp [Ps.kd]
     ·have:=hy'.2.2 rfl
      have e3:((j:Int)==(l.length:Int)-1)=true:=by rw [beq_iff_eq];omega
      rw [e3]
      simp [Ps.kd]
     ·simp [Ps.kd,bC]
    | grp=>simp [Ps.kd,bC]
    | rep=>simp [Ps.kd,bC]
    | row=>simp [iB] at hy'
    | alt=>simp [iB] at hy') (hI.down 0 (by rw [f1];decide)) (hA.down 0 (fun z=>by rw [f1] at z;cases z)) hh
   have g1:aN ((wy,t) :: pps t wy 0 t.ks)=aN (pps t wy 0 t.ks):=by simp [aN,f1]
   rw [g1]
   refine⟨?_,e',k1,i1.up⟩
   refine RTr.append (A:=[(wy,t)]) (RTr.one ⟨by rw [hft];exact hst,?_,?_,fun z=>(by simp only at z;rw [f1] at z;cases z),fun z=>(by simp only at z;rw [f1] at z;cases z)⟩) ?_
   ·simp only
    unfold aS
    rw [f1,f2,f3,f4,f5,if_neg (by decide),if_neg (by decide),if_neg (by decide),if_neg (by decide)]
    exact⟨rfl,rfl,rfl,rfl⟩
   ·simp only
    rw [f1,hlen]
    simp [dY,h2]
   ·have g2:aN [(wy,t)]=0:=by simp [aN,f1]
    rw [g2]
    exact r1
 | alt l=>
  rw [wf] at hw
  obtain⟨hw1,hw2,hw3⟩:=hw
  rw [pfl] at hh hs
  rw [te] at h
  obtain⟨f1,f2,f3,f4,f5,f6⟩:=iR h
  rw [bP] at f6
  have hlen:t.ks.length=l.length:=by have:=congrArg List.length f6;simpa using this
  have hh2:hk gr o e (eH l++rest):=by
   cases l with
   | nil=>simp at hw1
   | cons y l=>rw [lH] at hh;rw [eH,t4,zS];exact hh
  have hs2:∀ s∈eH l,dG c f s:=by
   cases l with
   | nil=>simp at hw1
   | cons y l=>
    rw [lH] at hs
    rw [eH]
    intro s hs'
    rcases u0.1 hs' with rfl | hs'
    ·trivial
    ·exact hs s hs'
  obtain⟨r1,e',k1,i1⟩:=aL5 (par:=t) (wy:=wy) l t.ks 0 gr o e rest ih f6 hw3 hs2 (fun j y hy=>by
   have hy':=bE8 (hw2 y (n8 hy)) ((dC l).1 hw3 y (n8 hy))
   simp only [bQ,cS]
   rw [f1,if_neg (by decide),if_neg (by decide),if_pos rfl,hy'.1]
   simpa using hy'.2) (hI.down 0 (by rw [f1];decide)) (hA.down 0 (fun z=>by rw [f1] at z;cases z)) hh2
  have g1:aN ((wy,t) :: pps t wy 0 t.ks)=aN (pps t wy 0 t.ks):=by simp [aN,f1]
  rw [g1]
  refine⟨?_,e',k1,i1.up⟩
  refine RTr.append (A:=[(wy,t)]) (RTr.one ⟨by rw [hft];exact hst,?_,?_,fun z=>(by simp only at z;rw [f1] at z;cases z),fun z=>(by simp only at z;rw [f1] at z;cases z)⟩) ?_
  ·simp only
   unfold aS
   rw [f1,f2,f3,f4,f5,if_neg (by decide),if_neg (by decide),if_neg (by decide),if_neg (by decide)]
   exact⟨rfl,rfl,rfl,rfl⟩
  ·simp only
   rw [f1,hlen]
   simp [dY,hw1]
  ·have g2:aN [(wy,t)]=0:=by simp [aN,f1]
   rw [g2]
   exact r1
theorem aM8{c f:Bool}{x:Ps}{t:Tr}(h:er t=te x)(hw:wf x)(hs:∀ s∈pfl x,dG c f s)(hh:hk 0 [] [] (pfl x))(h1:x.dp<=40)(h2:x.sz<=2000):aZ c f 0 0 (pp [] t)=0:=by
 have hr:=(bN8 c f x t [] 0 [] [] [] h hw hs (aP9 hw) (fun n hn=>by cases hn) (fun y hy=>by cases hy) (by simpa using hh)).1
 have hd:=aA1 x t [] h
 have hl:(pp [] t).length<=2000:=by rw [bL,<- mT,h,pJ];exact h2
 refine rQ _ 0 0 fun pre y post e=>?_
 obtain⟨l1,l2,l3,l4,l5⟩:=hr pre y post e
 rw [m7] at l2 l5
 rw [m7,m7]
 have hpl:pre.length<2000:=by rw [e] at hl;simp at hl;omega
 have hdp:y.1.length+1<=40:=by
  have:eR (pp [] t)<=40:=by rw [hd];simpa using h1
  rw [e,mU] at this
  simp only [eR] at this
  omega
 unfold bR
 rw [if_neg (by omega),if_neg (by omega),if_neg (fun z=>z ⟨l1,l2,l3⟩),if_neg (fun z=>by have:=l4 z.1;omega),if_neg (fun z=>z.2 (l5 z.1))]
section
open Go
theorem RTr.split{c f:Bool}{gr:Nat}{A B:List El}(h:RTr c f gr (A++B)):RTr c f gr A/\RTr c f (gr+aN A) B:=
 ⟨fun pre x post e=>h pre x (post++B) (by rw [e];simp),fun pre x post e=>by
  have:=h (A++pre) x post (by rw [e];simp)
  rwa [dB,<- aAU] at this⟩
theorem RTr.head{c f:Bool}{gr:Nat}{x:El}{B:List El}(h:RTr c f gr (x :: B)):LKr c f x gr:=by
 have:=h [] x B rfl
 simpa [aN] using this
def Ev(gr:Nat)(e:List Nat)(wy:Way):Prop:=∀ n:Nat,1<=n->n<=gr->fJ wy (n:Int)=false->n∈e
theorem Ev.down{gr:Nat}{e:List Nat}{wy:Way}{t:Tr}(i:Nat)(h:Ev gr e wy):Ev gr e ((t,i) :: wy):=fun n h1 h2 h3=>by
 rw [eN] at h3
 simp only [Bool.or_eq_false_iff] at h3
 exact h n h1 h2 h3.2
theorem Ev.up{gr:Nat}{e:List Nat}{wy:Way}{t:Tr}{i:Nat}(h:Ev gr e ((t,i) :: wy))(hk:t.f.k≠7):Ev gr e wy:=fun n h1 h2 h3=>h n h1 h2 (by rw [eN,h3];simp [hk])
theorem Ev.turn{gr:Nat}{e:List Nat}{wy:Way}{t:Tr}{i:Nat}(j:Nat)(h:Ev gr e ((t,i) :: wy)):Ev gr e ((t,j) :: wy):=fun n h1 h2 h3=>h n h1 h2 (by rw [eN] at h3 ⊢;exact h3)
def PsP(c f:Bool)(t:Tr):Prop:=∀ (wy:Way) (gr:Nat) (o e:List Nat),RTr c f gr (pp wy t)->Ev gr e wy ->
 ∃ x,te x=er t/\wf x/\(∀ s∈pfl x,dG c f s)/\∃ e',Ev (gr+aN (pp wy t)) e' wy/\∀ rest,hk (gr+aN (pp wy t)) o e' rest->hk gr o e (pfl x++rest)
theorem xG{c f:Bool}{par:Tr}{wy:Way}:∀ (ks:List Tr) (i gr:Nat) (o e:List Nat),(∀ u∈ks,PsP c f u)->RTr c f gr (pps par wy i ks)->Ev gr e ((par,i) :: wy) ->
  ∃ l:List Ps,l.map te=ks.map er/\wfs l/\(∀ y∈l,∀ s∈pfl y,dG c f s)/\(∀ j y,l[j]?=some y->bQ ((par,i+j) :: wy) y.kd=true) /\
   ∃ e',Ev (gr+aN (pps par wy i ks)) e' ((par,i) :: wy)/\∀ rest,hk (gr+aN (pps par wy i ks)) o e' rest->hk gr o e (eK l++rest)/\hk gr o e (eH l++rest)
 | [],i,gr,o,e,_,_,hE=>by
  refine⟨[],rfl,by rw [wfs];trivial,fun y hy=>(by cases hy),fun j y hy=>(by simp at hy),e,by rw [bA];simpa [aN] using hE,fun rest hr=>?_⟩
  rw [bA] at hr
  rw [eK,eH]
  exact⟨by simpa [aN] using hr,by simpa [aN] using hr⟩
 | u :: ks,i,gr,o,e,ih,hR,hE=>by
  rw [aX] at hR ⊢
  obtain⟨r1,r2⟩:=hR.split
  obtain⟨x,x1,x2,x3,e1,x4,x5⟩:=ih u (n9 ..) _ gr o e r1 hE
  obtain⟨l,l1,l2,l3,l4,e2,l5,l6⟩:=xG ks (i+1) _ o e1 (fun v hv=>ih v (m9 _ hv)) r2 (x4.turn _)
  rw [dB,<- aAU]
  refine⟨x :: l,by rw [s6,s6,x1,l1],by rw [wfs];exact⟨x2,l2⟩,fun y hy=>?_,fun j y hy=>?_,e2,l5.turn _,fun rest hr=>?_⟩
  ·rcases u0.1 hy with rfl | hy
   ·exact x3
   ·exact l3 y hy
  ·cases j with
   | zero=>
    simp at hy
    subst hy
    rw [bX] at r1
    have:=(r1.head).1
    rw [<- bG6,x1,bM8]
    exact this
   | succ j=>
    have:=l4 j y (by simpa using hy)
    rwa [show i+1+j=i+(j+1) by omega] at this
  ·obtain⟨q1,q2⟩:=l6 rest hr
   refine⟨?_,?_⟩
   ·rw [eK,r8];exact x5 _ q1
   ·rw [eH,t4,zS,r8];exact x5 _ q2
theorem bL9{y:Ps}(hw:wf y)(h1:y.kd≠1)(h5:y.kd≠5)(h6:y.kd≠6):iB y=true:=by
 cases y with
 | row l=>simp only [Ps.kd] at h1 h5;split at h1 <;> simp_all
 | alt l=>simp [Ps.kd] at h6
 | _=>rfl
theorem aJ3{y:Ps}(hw:wf y)(h:bC y.kd=true):fW y=true:=by
 cases y with
 | lf k n rs=>simp only [Ps.kd,bC,fW,Bool.or_eq_true,beq_iff_eq] at h ⊢;rw [wf] at hw;omega
 | row l=>simp only [Ps.kd,bC] at h;split at h <;> simp at h
 | alt l=>simp [Ps.kd,bC] at h
 | _=>rfl
theorem bO1(c f:Bool)(t:Tr):PsP c f t:=by
 refine Tr.ind (P:=PsP c f) (fun t ih=>?_) t
 intro wy gr o e hR hE
 rw [bX] at hR ⊢
 obtain⟨l1,l2,l3,l4,l5⟩:=hR.head
 simp only at l1 l2 l3 l4 l5
 have hR2:RTr c f (gr+aN [(wy,t)]) (pps t wy 0 t.ks):=(RTr.split (A:=[(wy,t)]) hR).2
 have hkind:cP t.f.k=true:=by
  match wy,l1 with
  | [],l1=>exact l1
  |(par,i) :: _,l1=>exact lB l1
 simp only [cP,aBY,aBD] at hkind
 have hgm:aN ((wy,t) :: pps t wy 0 t.ks)=(if t.f.k=7 then 1 else 0)+aN (pps t wy 0 t.ks):=rfl
 have hg1:aN [(wy,t)]=if t.f.k=7 then 1 else 0:=by simp [aN]
 have leaf:∀ (x:Ps),t.ks=[]->te x=er t->wf x->(∀ s∈pfl x,dG c f s)->t.f.k≠7->(∀ rest,hk gr o e rest->hk gr o e (pfl x++rest)) ->
   ∃ x,te x=er t/\wf x/\(∀ s∈pfl x,dG c f s)/\∃ e',Ev (gr+aN ((wy,t) :: pps t wy 0 t.ks)) e' wy/\∀ rest,hk (gr+aN ((wy,t) :: pps t wy 0 t.ks)) o e' rest->hk gr o e (pfl x++rest):=fun x hk h1 h2 h3 h7 h4=>by
  have:aN ((wy,t) :: pps t wy 0 t.ks)=0:=by rw [hgm,hk,bA,if_neg h7];rfl
  rw [this,aAJ]
  exact⟨x,h1,h2,h3,e,hE,h4⟩
 have nil_of:∀ {l:List (Int×Int)},l.length=0->l=[]:=fun h=>aAD h
 have kids0:t.f.k≠5->t.f.k≠6->t.f.k≠7->t.f.k≠9->t.ks=[]:=fun a b d g=>by
  unfold dY at l3
  rw [if_neg (by omega),if_neg (by omega)] at l3
  exact aAD (by simpa using l3)
 unfold aS at l2
 obtain⟨K,hK⟩:∃ K,t.f.k=K:=⟨_,rfl⟩
 have hcase:K=1\/K=2\/K=3\/K=4\/K=5\/K=6\/K=7\/K=8\/K=9:=by omega
 have hert:=bY t
 rw [hK] at hert l2
 rcases hcase with rfl | rfl | rfl | rfl | rfl | rfl | rfl | rfl | rfl
 ·-- empty
  rw [if_neg (by decide),if_neg (by decide),if_neg (by decide),if_neg (by decide)] at l2
  have hks:=kids0 (by omega) (by omega) (by omega) (by omega)
  refine leaf (.row []) hks ?_ ?_ (fun s hs=>by rw [pfl,eK] at hs;cases hs) (by omega) (fun rest hr=>by rw [pfl,eK];exact hr)
  ·rw [hert,l2.1,l2.2.1,l2.2.2.1,nil_of l2.2.2.2,hks];rfl
  ·rw [wf];exact⟨by simp,fun i y hy=>by simp at hy,by rw [wfs];trivial⟩
 ·-- a set
  rw [if_pos rfl] at l2
  have hks:=kids0 (by omega) (by omega) (by omega) (by omega)
  refine leaf (.lf 2 0 t.f.rs) hks ?_ (by rw [wf];omega) (fun s hs=>?_) (by omega) (fun rest hr=>by rw [pfl];exact⟨fun q=>absurd q (by decide),hr⟩)
  ·rw [hert,l2.2.1,l2.2.2.1,l2.2.2.2,hks];rfl
  ·rw [pfl,s9] at hs
   subst hs
   exact⟨fun _=>⟨l2.1,rfl⟩,fun q=>absurd rfl q,fun q=>absurd q (by decide),fun _=>rfl⟩
 ·-- a beginning
  rw [if_neg (by decide),if_neg (by decide),if_neg (by decide),if_neg (by decide)] at l2
  have hks:=kids0 (by omega) (by omega) (by omega) (by omega)
  refine leaf (.lf 3 0 []) hks ?_ (by rw [wf];omega) (fun s hs=>?_) (by omega) (fun rest hr=>by rw [pfl];exact⟨fun q=>absurd q (by decide),hr⟩)
  ·rw [hert,l2.1,l2.2.1,l2.2.2.1,nil_of l2.2.2.2,hks];rfl
  ·rw [pfl,s9] at hs
   subst hs
   exact⟨fun q=>absurd q (by decide),fun _=>rfl,fun q=>absurd q (by decide),fun _=>rfl⟩
 ·-- an end
  rw [if_neg (by decide),if_neg (by decide),if_neg (by decide),if_neg (by decide)] at l2
  have hks:=kids0 (by omega) (by omega) (by omega) (by omega)
  refine leaf (.lf 4 0 []) hks ?_ (by rw [wf];omega) (fun s hs=>?_) (by omega) (fun rest hr=>by rw [pfl];exact⟨fun q=>absurd q (by decide),hr⟩)
  ·rw [hert,l2.1,l2.2.1,l2.2.2.1,nil_of l2.2.2.2,hks];rfl
  ·rw [pfl,s9] at hs
   subst hs
   exact⟨fun q=>absurd q (by decide),fun _=>rfl,fun q=>absurd q (by decide),fun _=>rfl⟩
 ·-- one behind the other
  rw [if_neg (by decide),if_neg (by decide),if_neg (by decide),if_neg (by decide)] at l2
  rw [hg1,hK,if_neg (by decide),aAJ] at hR2
  obtain⟨l,m1,m2,m3,m4,e',m5,m6⟩:=xG t.ks 0 gr o e (fun u hu=>ih u hu) hR2 (hE.down 0)
  have hlen:l.length=t.ks.length:=by rw [<- aAC te,m1,aAC]
  have h2:2<=t.ks.length:=by unfold dY at l3;rw [if_pos (by omega)] at l3;simpa using l3
  rw [hgm,hK,if_neg (by decide),m7]
  refine⟨.row l,?_,?_,fun s hs=>?_,e',m5.up (by omega),fun rest hr=>?_⟩
  ·have:l.isEmpty=false:=by cases l with
    | nil=>simp at hlen;omega
    | cons y l=>rfl
   rw [te,this,hert,l2.1,l2.2.1,l2.2.2.1,nil_of l2.2.2.2,bP,m1];rfl
  ·rw [wf]
   refine⟨by omega,fun i y hy=>?_,m2⟩
   have hs:=m4 i y hy
   have hwy:=(dC l).1 m2 y (n8 hy)
   simp only [bQ,cS] at hs
   rw [hK,if_pos rfl] at hs
   simp only [Bool.or_eq_true,aBY,beq_iff_eq,bC] at hs
   refine⟨bL9 hwy (by omega) (by omega) (by omega),fun q=>by omega,fun q=>by omega⟩
  ·rw [pfl] at hs
   have:∀ (l:List Ps),(∀ y∈l,∀ s∈pfl y,dG c f s)->∀ s∈eK l,dG c f s:=by
    intro l
    induction l with
    | nil=>intro _ s hs;rw [eK] at hs;cases hs
    | cons y l ih2=>
     intro h s hs
     rw [eK] at hs
     rcases o3.1 hs with q | q
     ·exact h y (n9 ..) s q
     ·exact ih2 (fun z hz=>h z (m9 _ hz)) s q
   exact this l m3 s hs
  ·rw [pfl];exact(m6 rest hr).1
 ·-- one of some
  rw [if_neg (by decide),if_neg (by decide),if_neg (by decide),if_neg (by decide)] at l2
  rw [hg1,hK,if_neg (by decide),aAJ] at hR2
  obtain⟨l,m1,m2,m3,m4,e',m5,m6⟩:=xG t.ks 0 gr o e (fun u hu=>ih u hu) hR2 (hE.down 0)
  have hlen:l.length=t.ks.length:=by rw [<- aAC te,m1,aAC]
  have h2:2<=t.ks.length:=by unfold dY at l3;rw [if_pos (by omega)] at l3;simpa using l3
  rw [hgm,hK,if_neg (by decide),m7]
  have hfl:∀ rest,eH l++rest=.al :: (lH l++rest):=fun rest=>by
   cases l with
   | nil=>simp at hlen;omega
   | cons y l=>rw [eH,lH];simp
  refine⟨.alt l,?_,?_,fun s hs=>?_,e',m5.up (by omega),fun rest hr=>?_⟩
  ·rw [te,hert,l2.1,l2.2.1,l2.2.2.1,nil_of l2.2.2.2,bP,m1]
  ·rw [wf]
   refine⟨by omega,fun y hy=>?_,m2⟩
   obtain⟨i,hi,e⟩:=List.getElem_of_mem hy
   have hs:=m4 i y (by rw [g9 hi,e])
   simp only [bQ,cS] at hs
   rw [hK,if_neg (by decide),if_neg (by decide),if_pos rfl] at hs
   simp only [aBY,bne_iff_ne] at hs
   cases y with
   | alt=>simp [Ps.kd] at hs
   | _=>rfl
  ·rw [pfl] at hs
   have:∀ (l:List Ps),(∀ y∈l,∀ s∈pfl y,dG c f s)->∀ s∈eH l,dG c f s:=by
    intro l
    induction l with
    | nil=>intro _ s hs;rw [eH] at hs;cases hs
    | cons y l ih2=>
     intro h s hs
     rw [eH] at hs
     rcases u0.1 hs with rfl | hs
     ·trivial
     rcases o3.1 hs with q | q
     ·exact h y (n9 ..) s q
     ·exact ih2 (fun z hz=>h z (m9 _ hz)) s q
   refine this l m3 s ?_
   have:=hfl []
   rw [t9,t9] at this
   rw [this]
   exact m9 _ hs
  ·have:=(m6 rest hr).2
   rw [hfl,zS] at this
   rw [pfl]
   exact this
 ·-- a group
  rw [if_neg (by decide),if_pos rfl] at l2
  rw [hg1,hK,if_pos rfl] at hR2
  obtain⟨u,hu⟩:∃ u,t.ks=[u]:=by
   unfold dY at l3
   rw [hK,if_neg (by decide),if_pos (by decide)] at l3
   match t.ks,l3 with
   | [u],_=>exact⟨u,rfl⟩
  have h30:=l4 hK
  rw [hu,aX,bA,t9] at hR2
  have hE2:Ev (gr+1) e ((t,0) :: wy):=fun n h1 h2 h3=>by
   rw [eN,l2.1,hK] at h3
   simp only [Bool.or_eq_false_iff,beq_self_eq_true,aCB,n7] at h3
   exact hE n h1 (by omega) h3.2
  obtain⟨x,x1,x2,x3,e',x4,x5⟩:=ih u (by rw [hu];simp) ((t,0) :: wy) (gr+1) ((gr+1) :: o) e hR2 hE2
  rw [hgm,hK,if_pos rfl,hu,aX,bA,t9,<- aAU]
  refine⟨.grp (gr+1) x,?_,by rw [wf];exact x2,fun s hs=>?_,(gr+1) :: e',fun n h1 h2 h3=>?_,fun rest hr=>?_⟩
  ·rw [te,hert,l2.1,l2.2.1,l2.2.2.1,nil_of l2.2.2.2,hu,x1];rfl
  ·rw [pfl] at hs
   rcases u0.1 hs with rfl | hs
   ·trivial
   rcases o3.1 hs with q | q
   ·exact x3 s q
   ·rw [s9] at q;subst q;trivial
  ·by_cases hn:n=gr+1
   ·rw [hn];exact n9 ..
   ·refine m9 _ (x4 n h1 h2 ?_)
    rw [eN,h3,l2.1]
    have:(((gr:Int)+1)==(n:Int))=false:=by rw [n7];omega
    rw [this];simp
  ·rw [pfl,t4,r8]
   refine⟨rfl,by omega,x5 _ ?_⟩
   exact⟨gr+1,o,rfl,hr⟩
 ·-- a backreference
  rw [if_neg (by decide),if_neg (by decide),if_pos rfl] at l2
  have hks:=kids0 (by omega) (by omega) (by omega) (by omega)
  obtain⟨b1,b2⟩:=l5 hK
  refine leaf (.lf 8 t.f.n []) hks ?_ (by rw [wf];omega) (fun s hs=>?_) (by omega) (fun rest hr=>by
   rw [pfl]
   refine⟨fun _=>⟨t.f.n.toNat,hE _ (by omega) (by omega) ?_,by omega⟩,hr⟩
   rw [show ((t.f.n.toNat:Nat):Int)=t.f.n by omega];exact b1)
  ·rw [hert,l2.2.1,l2.2.2.1,nil_of l2.2.2.2,hks];rfl
  ·rw [pfl,s9] at hs
   subst hs
   exact⟨fun q=>absurd q (by decide),fun _=>rfl,fun _=>l2.1,fun q=>absurd rfl q⟩
 ·-- how often
  rw [if_neg (by decide),if_neg (by decide),if_neg (by decide),if_pos rfl] at l2
  rw [hg1,hK,if_neg (by decide),aAJ] at hR2
  obtain⟨u,hu⟩:∃ u,t.ks=[u]:=by
   unfold dY at l3
   rw [hK,if_neg (by decide),if_pos (by decide)] at l3
   match t.ks,l3 with
   | [u],_=>exact⟨u,rfl⟩
  rw [hu,aX,bA,t9] at hR2
  obtain⟨x,x1,x2,x3,e',x4,x5⟩:=ih u (by rw [hu];simp) ((t,0) :: wy) gr o e hR2 (hE.down 0)
  have hth:fW x=true:=by
   rw [bX] at hR2
   have:=(hR2.head).1
   simp only [bQ,cS] at this
   rw [hK,if_neg (by decide),if_pos rfl] at this
   refine aJ3 x2 ?_
   rw [<- bG6,x1,bM8]
   exact this
  rw [hgm,hK,if_neg (by decide),m7,hu,aX,bA,t9]
  refine⟨.rep t.f.mn t.f.mx x,?_,by rw [wf];exact⟨hth,x2⟩,fun s hs=>?_,e',x4.up (by omega),fun rest hr=>?_⟩
  ·rw [te,hert,l2.2.1,nil_of l2.2.2,hu,x1];rfl
  ·rw [pfl] at hs
   rcases o3.1 hs with q | q
   ·exact x3 s q
   ·rw [s9] at q;subst q;exact l2.1
  ·rw [pfl,r8]
   exact x5 _ hr
theorem aM2{c f:Bool}{t:Tr}(h:aZ c f 0 0 (pp [] t)=0):∃ x,te x=er t/\wf x/\(∀ s∈pfl x,dG c f s)/\hk 0 [] [] (pfl x)/\x.dp<=40/\x.sz<=2000:=by
 have hall:=kD _ 0 0 h
 have hR:RTr c f 0 (pp [] t):=by
  intro pre x post e
  have:=hall pre x post e
  unfold bR at this
  split at this
  ·cases this
  split at this
  ·cases this
  split at this
  ·cases this
  rename_i h1
  split at this
  ·cases this
  rename_i h2
  split at this
  ·cases this
  rename_i h3
  have h1':=Classical.not_not.1 h1
  refine⟨h1'.1,h1'.2.1,h1'.2.2,fun q=>?_,fun q=>?_⟩
  ·have:¬ 30<x.2.f.n:=fun z=>h2 ⟨q,z⟩
   omega
  ·exact Classical.not_not.1 fun z=>h3 ⟨q,z⟩
 obtain⟨x,x1,x2,x3,e',-,x5⟩:=bO1 c f t [] 0 [] [] hR (fun n h1 h2=>by omega)
 have hk0:=x5 [] rfl
 rw [t9] at hk0
 have hd:=aA1 x t [] x1.symm
 have hdm:eR (pp [] t)<=40:=by
  have:∀ (L:List El),(∀ x∈L,x.1.length+1<=40)->eR L<=40:=by
   intro L
   induction L with
   | nil=>intro _;exact o9 _
   | cons x L ih2=>intro hL;simp only [eR];have:=hL x (n9 ..);have:=ih2 (fun y hy=>hL y (m9 _ hy));omega
  refine this _ fun y hy=>?_
  obtain⟨pre,post,e⟩:=List.append_of_mem hy
  have:=hall pre y post e
  unfold bR at this
  split at this
  ·cases this
  split at this
  ·cases this
  omega
 refine⟨x,x1,x2,x3,hk0,?_,?_⟩
 ·rw [hd] at hdm;simpa using hdm
 ·rw [<- pJ,x1,mT,<- bL t []];exact nO h
end
def aE6(a b:Int×Int):Bool:=decide (a.1<=b.1)
def srt(l:List (Int×Int)):List (Int×Int):=l.mergeSort aE6
theorem tS(l:List (Int×Int)):(srt l).Perm l:=List.mergeSort_perm l aE6
theorem aK3(l:List (Int×Int)):(srt l).Pairwise (fun a b=>a.1<=b.1):=by
 have h:=List.pairwise_mergeSort (le:=aE6) (fun a b c h1 h2=>by unfold aE6 at *;simp at *;omega) (fun a b=>by unfold aE6;simp;omega) l
 exact h.imp fun h=>by unfold aE6 at h;simpa using h
def unC(l:List (Int×Int)):List (Int×Int):=(srt l).foldl bM []
theorem zX:∀ (S C:List (Int×Int)),S.Pairwise (fun a b=>a.1<=b.1)->Cls C->(∀ r∈S,∀ x∈C,x.1<=r.1)->Cls (S.foldl bM C)/\∀ c,In (S.foldl bM C) c↔In C c\/In S c:=by
 intro S
 induction S with
 | nil=>intro C _ hC _;exact⟨hC,fun c=>⟨.inl,fun h=>h.elim id fun h=>absurd h (fH c)⟩⟩
 | cons r S ih=>
  intro C hp hC hl
  obtain⟨a1,a2,a3⟩:=nZ (r:=r) hC (fun _=>hl r (n9 ..))
  have hp':=aAT.1 hp
  obtain⟨b1,b2⟩:=ih (bM C r) hp'.2 a1 (fun q hq x hx=>a3 q.1 (fun _=>hp'.1 q hq) (fun y hy=>hl q (m9 _ hq) y hy) x hx)
  refine⟨b1,fun c=>?_⟩
  rw [List.foldl_cons,b2,a2,bK]
  constructor
  ·rintro ((h | h) | h)
   ·exact .inl h
   ·exact .inr (.inl h)
   ·exact .inr (.inr h)
  ·rintro (h | h | h)
   ·exact .inl (.inl h)
   ·exact .inl (.inr h)
   ·exact .inr h
theorem rS(l:List (Int×Int)):Cls (unC l):=(zX (srt l) [] (aK3 l) oW (fun _ _ _ h=>by cases h)).1
theorem pE(l:List (Int×Int))(c:Int):In (unC l) c↔In l c:=by
 rw [unC,(zX (srt l) [] (aK3 l) oW (fun _ _ _ h=>by cases h)).2,zQ (tS l)]
 exact⟨fun h=>h.elim (fun h=>absurd h (fH c)) id,.inr⟩
theorem aR3:∀ (S C:List (Int×Int)),Fit S->Fit C->Fit (S.foldl bM C):=by
 intro S
 induction S with
 | nil=>intro C _ h;exact h
 | cons r S ih=>intro C hS hC;exact ih _ (dQ hS fun _ hx=>m9 _ hx) (qF hC (dQ hS fun x hx=>by simp at hx;subst hx;exact n9 ..))
theorem yO{l:List (Int×Int)}(h:Fit l):Fit (unC l):=aR3 _ _ (dQ h fun _ hx=>(tS l).mem_iff.1 hx) eM
theorem bG0{l:List (Int×Int)}(h:Fit l):IsC (unC l) (In l):=⟨rS l,yO h,pE l⟩
theorem zR{α:Type}(f:α->List (Int×Int))(l:List α)(c:Int):In (l.flatMap f) c ↔ ∃ x∈l,In (f x) c:=by
 induction l with
 | nil=>simp [In]
 | cons x l ih=>rw [aAN,cA,ih];simp
theorem xZ{x:Ps}(h:isS x=true):∃ n rs,x=.lf 2 n rs:=by
 cases x with
 | lf k n rs=>exact⟨n,rs,by simp [isS] at h;rw [h]⟩
 | grp=>simp [isS] at h
 | rep=>simp [isS] at h
 | row=>simp [isS] at h
 | alt=>simp [isS] at h
theorem wS{c f:Bool}{l:List Ps}(h:∀ x∈l,isS x=true/\∀ s∈pfl x,dG c f s):dG c f (.lf 2 0 (unC (l.flatMap rsP))):=by
 have hs:∀ x∈l,lC c f (rsP x):=fun x hx=>by
  obtain⟨n,rs,rfl⟩:=xZ (h x hx).1
  exact((h _ hx).2 (.lf 2 n rs) (by simp [pfl])).1 rfl |>.1
 have hF:Fit (l.flatMap rsP):=fun r hr=>by
  obtain⟨x,hx,hr⟩:=aBJ.1 hr
  exact(hs x hx).1.fit r hr
 refine⟨fun _=>⟨⟨⟨rS _,yO hF,fun c=>?_⟩,fun hf x=>?_⟩,rfl⟩,fun h=>absurd rfl h,fun h=>absurd h (by decide),fun _=>rfl⟩
 ·refine⟨fun q=>⟨q,?_⟩,fun q=>q.1⟩
  obtain⟨x,hx,hq⟩:=(zR rsP l c).1 ((pE _ _).1 q)
  exact((hs x hx).1.mem c |>.1 hq).2
 ·refine⟨.inl,fun q=>?_⟩
  have hone:∀ y,In (unC (l.flatMap rsP)) y ↔ ∃ z∈l,In (rsP z) y:=fun y=>(pE _ _).trans (zR rsP l y)
  unfold kX at q
  rw [hone,hone,hone] at q
  rw [hone]
  rcases q with q | ⟨⟨z,hz,q⟩,q1,q2⟩ | ⟨⟨z,hz,q⟩,q1,q2⟩
  ·exact q
  ·exact⟨z,hz,((hs z hz).2 hf x).2 (.inr (.inl ⟨q,q1,q2⟩))⟩
  ·exact⟨z,hz,((hs z hz).2 hf x).2 (.inr (.inr ⟨q,q1,q2⟩))⟩
structure PsOK(c f:Bool)(x:Ps):Prop where
 wf:wf x
 sg:∀ s∈pfl x,dG c f s
 hk:hk 0 [] [] (pfl x)
 dp:x.dp<=40
 sz:x.sz<=2000
theorem PsOK.sim{c f:Bool}{x:Ps}(h:PsOK c f x):PsOK c f (sim unC x):=
 ⟨pB unC x h.wf,aK9 unC (P:=dG c f) True.intro (fun _ hl _=>wS hl) x h.sg,bI1 unC h.hk,o0 (bI2 unC x) h.dp,o0 (rZ unC x) h.sz⟩
theorem PsOK.right{c f:Bool}{x:Ps}(h:PsOK c f x){t:Tr}(e:er t=te x):aZ c f 0 0 (pp [] t)=0:=aM8 e h.wf h.sg h.hk h.dp h.sz
theorem bO6{c f:Bool}{t:Tr}(h:aZ c f 0 0 (pp [] t)=0):∃ x,er t=te x/\PsOK c f x:=by
 obtain⟨x,h1,h2,h3,h4,h5,h6⟩:=aM2 h
 exact⟨x,h1.symm,h2,h3,h4,h5,h6⟩
section
variable {L:Ln} {R:Cf->Cf->Prop}
theorem bI8(x y:Cf):Rp R 1 1 x y↔R x y:=by
 constructor
 ·rintro ⟨k,h1,h2,h3⟩
  have hk:k=1:=by
   have h1':(1:Nat)<=k:=h1
   rcases h2 with h | h
   ·cases h
   ·omega
  subst hk
  obtain⟨z,hz,hr,-⟩:=h3
  have:z=x:=hz
  subst this
  exact hr
 ·intro h
  exact⟨1,t8 _,.inr (by omega),x,rfl,h,fun e=>absurd e (by show ¬ (1:Int).toNat<=0;omega)⟩
theorem bN9{mn:Int}(x y:Cf)(h0:mn<=0):Rp R mn 0 x y↔y=x:=by
 constructor
 ·rintro ⟨k,h1,h2,h3⟩
  have hk:k=0:=by
   rcases h2 with h | h
   ·cases h
   ·omega
  subst hk
  exact h3
 ·intro h
  exact⟨0,by omega,.inr (by omega),h⟩
theorem yS{mn:Nat}(hR:∀ x y,R x y↔y=x):∀ (k:Nat) (x y:Cf),Tn R mn k x y->y=x
 | 0,x,y,h=>h
 | k+1,x,y,h=>by
  obtain⟨z,h1,h2,-⟩:=h
  rw [(hR z y).1 h2]
  exact yS hR k x z h1
theorem tQ{mn:Nat}(hR:∀ x y,R x y↔y=x)(x:Cf):∀ k,k<=mn->Tn R mn k x x
 | 0,_=>rfl
 | k+1,h=>⟨x,tQ hR x k (by omega),(hR x x).2 rfl,fun e=>by omega⟩
theorem wX{mn mx:Int}(hR:∀ x y,R x y↔y=x)(x y:Cf)(h:mx=-1\/mn<=mx)(h0:0<=mn):Rp R mn mx x y↔y=x:=by
 constructor
 ·rintro ⟨k,-,-,h3⟩
  exact yS hR k x y h3
 ·intro e
  subst e
  exact⟨mn.toNat,t8 _,h.imp id (fun q=>by omega),tQ hR y _ lz9⟩
theorem aJ0:∀ (j k:Nat) (x y z:Cf),Tn R 0 j x y->Tn R 0 k y z->Tn R 0 (j+k) x z
 | j,0,x,y,z,h,hk=>by
  have:z=y:=hk
  subst this
  exact h
 | j,k+1,x,y,z,h,hk=>by
  obtain⟨v,h1,h2,h3⟩:=hk
  exact⟨v,aJ0 j k x y v h h1,h2,fun _=>h3 (o9 _)⟩
theorem aY0(x y:Cf):Rp (Rp R 0 (-1)) 0 (-1) x y↔Rp R 0 (-1) x y:=by
 constructor
 ·rintro ⟨k,-,-,h3⟩
  have key:∀ (k:Nat) (x y:Cf),Tn (Rp R 0 (-1)) 0 k x y->∃ j,Tn R 0 j x y:=by
   intro k
   induction k with
   | zero=>intro x y h;exact⟨0,h⟩
   | succ k ih=>
    intro x y h
    obtain⟨z,h1,⟨j2,-,-,h2⟩,-⟩:=h
    obtain⟨j1,h4⟩:=ih x z h1
    exact⟨j1+j2,aJ0 j1 j2 x z y h4 h2⟩
  obtain⟨j,hj⟩:=key k x y h3
  exact⟨j,o9 _,.inl rfl,hj⟩
 ·rintro ⟨k,-,-,h3⟩
  cases k with
  | zero=>exact⟨0,o9 _,.inl rfl,h3⟩
  | succ k=>
   have hp:x.p<y.p:=by
    have key:∀ (k:Nat) (x y:Cf),Tn R 0 k x y->x.p<=y.p:=by
     intro k
     induction k with
     | zero=>intro x y h;rw [show y=x from h];exact t8 _
     | succ k ih=>
      intro x y h
      obtain⟨z,h1,-,h2⟩:=h
      have:=ih x z h1
      have:=h2 (o9 _)
      omega
    obtain⟨z,h1,-,h2⟩:=h3
    have:=key k x z h1
    have:=h2 (o9 _)
    omega
   exact⟨1,o9 _,.inl rfl,x,rfl,⟨k+1,o9 _,.inl rfl,h3⟩,fun _=>hp⟩
theorem oK{S:Cf->Cf->Prop}{mn:Nat}(h:∀ x y,R x y↔S x y):∀ (k:Nat) (x y:Cf),Tn R mn k x y↔Tn S mn k x y
 | 0,x,y=>Iff.rfl
 | k+1,x,y=>by
  constructor
  ·rintro ⟨z,h1,h2,h3⟩
   exact⟨z,(oK h k x z).1 h1,(h z y).1 h2,h3⟩
  ·rintro ⟨z,h1,h2,h3⟩
   exact⟨z,(oK h k x z).2 h1,(h z y).2 h2,h3⟩
theorem oN{S:Cf->Cf->Prop}{mn mx:Int}(h:∀ x y,R x y↔S x y)(x y:Cf):Rp R mn mx x y↔Rp S mn mx x y:=by
 constructor
 ·rintro ⟨k,h1,h2,h3⟩
  exact⟨k,h1,h2,(oK h k x y).1 h3⟩
 ·rintro ⟨k,h1,h2,h3⟩
  exact⟨k,h1,h2,(oK h k x y).2 h3⟩
theorem aO7{t:Tr}(h:t.f.k=1)(x y:Cf):Mt L t x y↔y=x:=by
 rw [cH,if_neg (by omega),if_neg (by omega),if_neg (by omega),if_neg (by omega),if_neg (by omega)]
 unfold cW
 rw [if_neg (by omega),if_neg (by omega),if_neg (by omega)]
 constructor
 ·rintro ⟨h1,h2⟩
  cases x;cases y
  simp only [Option.some.injEq] at h1 h2
  rw [h1,h2]
 ·intro e
  rw [e]
  exact⟨rfl,rfl⟩
theorem xV{t:Tr}(h:t.f.k=2)(x y:Cf):Mt L t x y↔(x.p<L.s.size/\0<=(uni L.c L.s x.p).1/\kR t.f.rs (uni L.c L.s x.p).1=true)/\y.p=x.p+(uni L.c L.s x.p).2/\y.g=x.g:=by
 rw [cH,if_neg (by omega),if_neg (by omega),if_neg (by omega),if_neg (by omega),if_neg (by omega)]
 unfold cW
 rw [if_pos h]
 constructor
 ·rintro ⟨h1,h2⟩
  split at h1
  ·rename_i hc
   exact⟨hc,(aAE h1).symm,h2⟩
  ·cases h1
 ·rintro ⟨hc,h1,h2⟩
  rw [if_pos hc,h1]
  exact⟨rfl,h2⟩
theorem aP0{a:List Tr}{t:Tr}(ha:∀ u∈a,u.f.k=2)(ht:t.f.k=2)(hu:∀ c,kR t.f.rs c=true ↔ ∃ u∈a,kR u.f.rs c=true)(x y:Cf):Mt L t x y↔MtA L a x y:=by
 rw [xV ht,cF,hu]
 constructor
 ·rintro ⟨⟨h1,h2,u,hu,h3⟩,h4⟩
  exact⟨u,hu,(xV (ha u hu) x y).2 ⟨⟨h1,h2,h3⟩,h4⟩⟩
 ·rintro ⟨u,hu,h⟩
  obtain⟨⟨h1,h2,h3⟩,h4⟩:=(xV (ha u hu) x y).1 h
  exact⟨⟨h1,h2,u,hu,h3⟩,h4⟩
end
section
structure Agr(U:Nat->Bool)(x y:Cf):Prop where
 p:x.p=y.p
 l:x.g.length=y.g.length
 g:∀ i,U i=true->x.g[i]?=y.g[i]?
theorem Agr.refl(U:Nat->Bool)(x:Cf):Agr U x x:=⟨rfl,rfl,fun _ _=>rfl⟩
variable {L L':Ln} {U:Nat->Bool}
structure SameL(U:Nat->Bool)(L L':Ln):Prop where
 s:L.s=L'.s
 c:L.c=L'.c
 o:L.o=L'.o
 u:∀ i,U i=true->L.u i=L'.u i
theorem SameL.symm(h:SameL U L L'):SameL U L' L:=⟨h.s.symm,h.c.symm,h.o.symm,fun i hi=>(h.u i hi).symm⟩
theorem bD3(hL:SameL U L L'){n:Int}{x x' z z':Cf}(hx:Agr U x x')(hz:Agr U z z'):Agr U (eI L n x z) (eI L' n x' z'):=by
 refine⟨hz.p,?_,fun i hi=>?_⟩
 ·unfold eI
  simp only
  split <;> split <;> simp [hz.l]
 ·unfold eI
  simp only
  by_cases e:n.toNat=i
  ·have hk:kep L n=kep L' n:=by unfold kep;rw [e,hL.u i hi]
   rw [hk]
   by_cases k:kep L' n=true
   ·rw [if_pos k,if_pos k,aAZ,aAZ,if_pos e,if_pos e,hz.l,hx.p,hz.p]
   ·rw [if_neg k,if_neg k]
    exact hz.g i hi
  ·have h1:∀ (b:Bool) (q:Int×Int) (l:List (Int×Int)),(if b=true then l.set n.toNat q else l)[i]?=l[i]?:=fun b q l=>by
    cases b with
    | true=>rw [if_pos rfl,aAZ,if_neg e]
    | false=>rfl
   rw [h1,h1]
   exact hz.g i hi
theorem aJ1{R S:Cf->Cf->Prop}{mn:Nat}(h:∀ x x' y,Agr U x x'->R x y->∃ y',S x' y'/\Agr U y y'):∀ (k:Nat) (x x' y:Cf),Agr U x x'->Tn R mn k x y->∃ y',Tn S mn k x' y'/\Agr U y y'
 | 0,x,x',y,hx,hk=>by
  rw [show y=x from hk]
  exact⟨x',rfl,hx⟩
 | k+1,x,x',y,hx,hk=>by
  obtain⟨z,h1,h2,h3⟩:=hk
  obtain⟨z',h4,h5⟩:=aJ1 h k x x' z hx h1
  obtain⟨y',h6,h7⟩:=h z z' y h5 h2
  exact⟨y',⟨z',h4,h6,fun e=>by rw [<- h5.p,<- h7.p];exact h3 e⟩,h7⟩
theorem aE7(hL:SameL U L L')(f:Fl)(i:Nat):cW L f i=cW L' f i:=by unfold cW;rw [hL.s,hL.c]
theorem aH1(hL:SameL U L L')(q:Int×Int)(i:Nat):fE L q i=fE L' q i:=by unfold fE;rw [hL.s,hL.o]
theorem aO8(hL:SameL U L L')(t:Tr):bF (fun v=>v.f.k=8->U v.f.n.toNat=true) t->∀ x x' y,Agr U x x'->Mt L t x y->∃ y',Mt L' t x' y'/\Agr U y y':=by
 refine Tr.ind (P:=fun t=>bF (fun v=>v.f.k=8->U v.f.n.toNat=true) t->∀ x x' y,Agr U x x'->Mt L t x y->∃ y',Mt L' t x' y'/\Agr U y y') (fun t ih he x x' y hx h=>?_) t
 have hk:=fun u hu=>ih u hu (cB he hu)
 have h0:=((aI t).1 he).1
 have hA:∀ x x' y,Agr U x x'->MtA L t.ks x y->∃ y',MtA L' t.ks x' y'/\Agr U y y':=fun x x' y hx h=>by
  obtain⟨u,hu,h⟩:=(cF _ _ _).1 h
  obtain⟨y',h1,h2⟩:=hk u hu x x' y hx h
  exact⟨y',(cF _ _ _).2 ⟨u,hu,h1⟩,h2⟩
 have hC:∀ ks:List Tr,(∀ u∈ks,u∈t.ks)->∀ x x' y,Agr U x x'->MtC L ks x y->∃ y',MtC L' ks x' y'/\Agr U y y':=by
  intro ks
  induction ks with
  | nil=>
   intro _ x x' y hx h
   rw [(cE _ _).1 h]
   exact⟨x',(cE _ _).2 rfl,hx⟩
  | cons u us ih2=>
   intro hs x x' y hx h
   obtain⟨z,h1,h2⟩:=(bO _ _ _ _).1 h
   obtain⟨z',h3,h4⟩:=hk u (hs u (n9 ..)) x x' z hx h1
   obtain⟨y',h5,h6⟩:=ih2 (fun v hv=>hs v (m9 _ hv)) z z' y h4 h2
   exact⟨y',(bO _ _ _ _).2 ⟨z',h3,h5⟩,h6⟩
 rw [cH] at h
 by_cases k5:t.f.k=5
 ·rw [if_pos k5] at h
  obtain⟨y',h1,h2⟩:=hC t.ks (fun _ h=>h) x x' y hx h
  exact⟨y',(cH _ _ _).2 (by rw [if_pos k5];exact h1),h2⟩
 rw [if_neg k5] at h
 by_cases k6:t.f.k=6
 ·rw [if_pos k6] at h
  obtain⟨y',h1,h2⟩:=hA x x' y hx h
  exact⟨y',(cH _ _ _).2 (by rw [if_neg k5,if_pos k6];exact h1),h2⟩
 rw [if_neg k6] at h
 by_cases k7:t.f.k=7
 ·rw [if_pos k7] at h
  obtain⟨z,h1,h2⟩:=h
  obtain⟨z',h3,h4⟩:=hA x x' z hx h1
  refine⟨eI L' t.f.n x' z',(cH _ _ _).2 (by rw [if_neg k5,if_neg k6,if_pos k7];exact⟨z',h3,rfl⟩),?_⟩
  rw [h2]
  exact bD3 hL hx h4
 rw [if_neg k7] at h
 by_cases k8:t.f.k=8
 ·rw [if_pos k8] at h
  have hg:vE x.g t.f.n=vE x'.g t.f.n:=by
   unfold vE
   rw [aBE,aBE,hx.g _ (h0 k8)]
  refine⟨⟨y.p,x'.g⟩,(cH _ _ _).2 (by rw [if_neg k5,if_neg k6,if_neg k7,if_pos k8];exact⟨by rw [<- hg,<- aH1 hL,<- hx.p];exact h.1,rfl⟩),⟨rfl,by rw [h.2];exact hx.l,fun i hi=>by rw [h.2];exact hx.g i hi⟩⟩
 rw [if_neg k8] at h
 by_cases k9:t.f.k=9
 ·rw [if_pos k9] at h
  obtain⟨k,h1,h2,h3⟩:=h
  obtain⟨y',h4,h5⟩:=aJ1 (S:=fun x y=>MtA L' t.ks x y) hA k x x' y hx h3
  exact⟨y',(cH _ _ _).2 (by rw [if_neg k5,if_neg k6,if_neg k7,if_neg k8,if_pos k9];exact⟨k,h1,h2,h4⟩),h5⟩
 rw [if_neg k9] at h
 refine⟨⟨y.p,x'.g⟩,(cH _ _ _).2 (by rw [if_neg k5,if_neg k6,if_neg k7,if_neg k8,if_neg k9];exact⟨by rw [<- aE7 hL,<- hx.p];exact h.1,rfl⟩),⟨rfl,by rw [h.2];exact hx.l,fun i hi=>by rw [h.2];exact hx.g i hi⟩⟩
theorem aS4(hL:SameL U L L'){t:Tr}(he:bF (fun v=>v.f.k=8->U v.f.n.toNat=true) t)(a j:Nat):(∃ y,Mt L t (cf0 a) y/\y.p=j) ↔ ∃ y,Mt L' t (cf0 a) y/\y.p=j:=by
 constructor
 ·rintro ⟨y,h,e⟩
  obtain⟨y',h1,h2⟩:=aO8 hL t he _ _ y (Agr.refl U _) h
  exact⟨y',h1,by rw [<- h2.p];exact e⟩
 ·rintro ⟨y,h,e⟩
  obtain⟨y',h1,h2⟩:=aO8 hL.symm t he _ _ y (Agr.refl U _) h
  exact⟨y',h1,by rw [<- h2.p];exact e⟩
end
section
theorem bE6{L:Ln}(a:Tr):∀ b:Tr,er a=er b->∀ x y,Mt L a x y↔Mt L b x y:=by
 refine Tr.ind (P:=fun a=>∀ b:Tr,er a=er b->∀ x y,Mt L a x y↔Mt L b x y) (fun a ih b he x y=>?_) a
 obtain⟨e1,e2,e3,e4,e5,e6⟩:=(qG a b).1 he
 have hlist:∀ (l m:List Tr),(∀ u∈l,u∈a.ks)->l.map er=m.map er->(∀ x y,MtC L l x y↔MtC L m x y)/\(∀ x y,MtA L l x y↔MtA L m x y):=by
  intro l
  induction l with
  | nil=>
   intro m _ h
   cases m with
   | nil=>exact⟨fun _ _=>Iff.rfl,fun _ _=>Iff.rfl⟩
   | cons v m=>cases h
  | cons u l ih2=>
   intro m hs h
   cases m with
   | nil=>cases h
   | cons v m=>
    rw [s6,s6] at h
    injection h with h1 h2
    have hu:=ih u (hs u (n9 ..)) v h1
    obtain⟨i1,i2⟩:=ih2 m (fun z hz=>hs z (m9 _ hz)) h2
    refine⟨fun x y=>?_,fun x y=>?_⟩
    ·rw [bO,bO]
     constructor
     ·rintro ⟨z,a1,a2⟩
      exact⟨z,(hu x z).1 a1,(i1 z y).1 a2⟩
     ·rintro ⟨z,a1,a2⟩
      exact⟨z,(hu x z).2 a1,(i1 z y).2 a2⟩
    ·rw [MtA,MtA,hu x y,i2 x y]
 obtain⟨hC,hA⟩:=hlist a.ks b.ks (fun _ h=>h) e6
 rw [cH,cH,e1,e2,e3,e4]
 have hl:cW L a.f x.p=cW L b.f x.p:=by unfold cW;rw [e1,e5]
 rw [hl,hC x y,hA x y,oN (fun x y=>hA x y) x y]
 have h7:(∃ z,MtA L a.ks x z/\y=eI L b.f.n x z) ↔ ∃ z,MtA L b.ks x z/\y=eI L b.f.n x z:=by
  constructor
  ·rintro ⟨z,h1,h2⟩;exact⟨z,(hA x z).1 h1,h2⟩
  ·rintro ⟨z,h1,h2⟩;exact⟨z,(hA x z).2 h1,h2⟩
 rw [h7]
def fl0(k n mn mx:Int)(rs:List (Int×Int)):Fl:=⟨k,n,mn,mx,rs,none,0,none,0,0⟩
mutual
def tp:Ps->Tr
 | .lf k n rs=>.mk (fl0 k n 0 0 rs) []
 | .grp n x=>.mk (fl0 7 n 0 0 []) [tp x]
 | .rep a b x=>.mk (fl0 9 0 a b []) [tp x]
 | .row l=>if l.isEmpty then .mk (fl0 1 0 0 0 []) [] else .mk (fl0 5 0 0 0 []) (tps l)
 | .alt l=>.mk (fl0 6 0 0 0 []) (tps l)
def tps:List Ps->List Tr
 | []=>[]
 | x :: l=>tp x :: tps l
end
theorem yQ(l:List Ps):tps l=l.map tp:=by
 induction l with
 | nil=>rw [tps];rfl
 | cons x l ih=>rw [tps,ih];rfl
theorem bF0(x:Ps):er (tp x)=te x:=by
 refine Ps.ind (P:=fun x=>er (tp x)=te x) (fun x ih=>?_) x
 have hl:∀ l:List Ps,(∀ y∈l,y∈x.kids)->(tps l).map er=tes l:=by
  intro l
  induction l with
  | nil=>intro _;rw [tps,tes];rfl
  | cons y l ih2=>intro hs;rw [tps,tes,s6,ih y (hs y (n9 ..)),ih2 (fun z hz=>hs z (m9 _ hz))]
 cases x with
 | lf k n rs=>rw [tp,te,bY];rfl
 | grp n y=>rw [tp,te,bY];show Er.mk 7 n 0 0 [] [er (tp y)]=_;rw [ih y (by simp [Ps.kids])]
 | rep a b y=>rw [tp,te,bY];show Er.mk 9 0 a b [] [er (tp y)]=_;rw [ih y (by simp [Ps.kids])]
 | row l=>
  rw [tp,te,bY]
  by_cases h:l.isEmpty=true
  ·rw [if_pos h,if_pos h];rfl
  ·rw [if_neg h,if_neg h];show Er.mk 5 0 0 0 [] ((tps l).map er)=_;rw [hl l (fun _ h=>h)]
 | alt l=>rw [tp,te,bY];show Er.mk 6 0 0 0 [] ((tps l).map er)=_;rw [hl l (fun _ h=>h)]
variable {L:Ln}
theorem qB(l:List Ps)(x y:Cf):Mt L (tp (.row l)) x y↔MtC L (l.map tp) x y:=by
 rw [tp,yQ]
 cases l with
 | nil=>
  show Mt L (.mk (fl0 1 0 0 0 []) []) x y↔MtC L [] x y
  rw [aO7 (by rfl)]
  exact(cE _ _).symm
 | cons u l=>rw [if_neg (by simp),cH,if_pos (by rfl)];rfl
theorem xU(l:List Ps)(x y:Cf):Mt L (tp (.alt l)) x y↔MtA L (l.map tp) x y:=by
 rw [tp,yQ,cH,if_neg (by show ¬ (6:Int)=5;omega),if_pos (by rfl)]
 rfl
theorem oU(t:Tr)(x y:Cf):MtA L [t] x y↔Mt L t x y:=by rw [cF];simp
theorem sR(a b:Int)(z:Ps)(x y:Cf):Mt L (tp (.rep a b z)) x y↔Rp (Mt L (tp z)) a b x y:=by
 rw [tp,cH,if_neg (by show ¬ (9:Int)=5;omega),if_neg (by show ¬ (9:Int)=6;omega),if_neg (by show ¬ (9:Int)=7;omega),if_neg (by show ¬ (9:Int)=8;omega),if_pos (by rfl)]
 exact oN (fun x y=>oU (tp z) x y) x y
theorem aO6(n:Nat)(z:Ps)(x y:Cf):Mt L (tp (.grp n z)) x y ↔ ∃ v,Mt L (tp z) x v/\y=eI L n x v:=by
 rw [tp,cH,if_neg (by show ¬ (7:Int)=5;omega),if_neg (by show ¬ (7:Int)=6;omega),if_pos (by rfl)]
 constructor
 ·rintro ⟨v,h1,h2⟩;exact⟨v,(oU _ _ _).1 h1,h2⟩
 ·rintro ⟨v,h1,h2⟩;exact⟨v,(oU _ _ _).2 h1,h2⟩
theorem uN(x y:Cf):Mt L (tp (.row [])) x y↔y=x:=by rw [qB];exact cE _ _
theorem bK7(l:List Ps)(x y:Cf):Mt L (tp (mkB l)) x y↔MtC L (l.map tp) x y:=by
 match l with
 | []=>exact qB [] x y
 | [z]=>
  show Mt L (tp z) x y↔_
  rw [s6,bO]
  constructor
  ·intro h;exact⟨y,h,(cE _ _).2 rfl⟩
  ·rintro ⟨v,h1,h2⟩;rw [(cE _ _).1 h2];exact h1
 | u :: v :: r=>exact qB _ x y
theorem bK6(l:List Ps)(x y:Cf):Mt L (tp (mkP l)) x y↔MtA L (l.map tp) x y:=by
 match l with
 | []=>exact xU [] x y
 | [z]=>exact(oU (tp z) x y).symm
 | u :: v :: r=>exact xU _ x y
theorem sS(l:List Ps)(x y:Cf):MtA L (l.map tp) x y ↔ ∃ z∈l,Mt L (tp z) x y:=by
 rw [cF]
 constructor
 ·rintro ⟨t,ht,h⟩
  obtain⟨z,hz,e⟩:=s4.1 ht
  exact⟨z,hz,by rw [e];exact h⟩
 ·rintro ⟨z,hz,h⟩
  exact⟨tp z,s4.2 ⟨z,hz,rfl⟩,h⟩
theorem xW(l:List Ps):∀ (x y:Cf),MtC L ((l.filter fun z=>!isE z).map tp) x y↔MtC L (l.map tp) x y:=by
 induction l with
 | nil=>intro x y;exact Iff.rfl
 | cons z l ih=>
  intro x y
  rw [aAV]
  by_cases he:isE z=true
  ·rw [if_neg (by rw [he];simp),s6,bO,ih,(oV z).1 he]
   constructor
   ·intro h;exact⟨x,(uN x x).2 rfl,h⟩
   ·rintro ⟨v,h1,h2⟩;rw [(uN x v).1 h1] at h2;exact h2
  ·rw [if_pos (by simpa using he),s6,s6,bO,bO]
   constructor
   ·rintro ⟨v,h1,h2⟩;exact⟨v,h1,(ih v y).1 h2⟩
   ·rintro ⟨v,h1,h2⟩;exact⟨v,h1,(ih v y).2 h2⟩
theorem aB7(u:List (Int×Int))(l:List Ps):∀ (s:Bool) (z:Ps),z∈l->isS z=false->z∈bV u s l:=by
 induction l with
 | nil=>intro s z h;cases h
 | cons y l ih=>
  intro s z hz hs
  rw [bV]
  rcases u0.1 hz with e | e
  ·rw [if_neg (by rw [<- e,hs];simp),e];exact n9 ..
  ·split
   ·split
    ·exact ih s z e hs
    ·exact m9 _ (ih true z e hs)
   ·exact m9 _ (ih s z e hs)
theorem aB6(u:List (Int×Int))(l:List Ps):(∃ z∈l,isS z=true)->.lf 2 0 u∈bV u false l:=by
 induction l with
 | nil=>rintro ⟨z,hz,-⟩;cases hz
 | cons y l ih=>
  rintro ⟨z,hz,hs⟩
  rw [bV]
  by_cases hy:isS y=true
  ·rw [if_pos hy,if_neg (by simp)];exact n9 ..
  ·rw [if_neg hy]
   refine m9 _ (ih ⟨z,?_,hs⟩)
   rcases u0.1 hz with e | e
   ·rw [e] at hs;exact absurd hs hy
   ·exact e
theorem wJ{z:Ps}(h:isS z=true):(tp z).f.k=2/\(tp z).f.rs=rsP z:=by
 cases z with
 | lf k n rs=>
  have hk:k=2:=by simpa [isS] using h
  rw [tp]
  exact⟨hk,rfl⟩
 | grp=>cases h
 | rep=>cases h
 | row=>cases h
 | alt=>cases h
theorem aF4(l:List Ps)(c:Int):kR (l.flatMap rsP) c=true ↔ ∃ z∈l,kR (rsP z) c=true:=by
 unfold kR
 rw [aAX]
 constructor
 ·rintro ⟨r,hr,h⟩
  obtain⟨z,hz,hr⟩:=aBJ.1 hr
  exact⟨z,hz,aAX.2 ⟨r,hr,h⟩⟩
 ·rintro ⟨z,hz,h⟩
  obtain⟨r,hr,h⟩:=aAX.1 h
  exact⟨r,aBJ.2 ⟨z,hz,hr⟩,h⟩
variable (un:List (Int×Int)->List (Int×Int))
theorem bA2(hun:∀ l c,kR (un l) c=true↔kR l c=true)(l:List Ps)(x y:Cf):(∃ z∈bG un l,Mt L (tp z) x y) ↔ ∃ z∈l,Mt L (tp z) x y:=by
 unfold bG
 split
 ·rename_i h2
  have key:Mt L (tp (.lf 2 0 (un ((l.filter isS).flatMap rsP)))) x y ↔ ∃ z∈l.filter isS,Mt L (tp z) x y:=by
   rw [aP0 (a:=(l.filter isS).map tp) (fun t ht=>by
    obtain⟨z,hz,e⟩:=s4.1 ht
    rw [<- e];exact(wJ (aAF.1 hz).2).1) (by rw [tp];rfl) (fun c=>?_),sS]
   rw [show (tp (.lf 2 0 (un ((l.filter isS).flatMap rsP)))).f.rs=un ((l.filter isS).flatMap rsP) by rw [tp];rfl,hun,aF4]
   constructor
   ·rintro ⟨z,hz,h⟩
    exact⟨tp z,s4.2 ⟨z,hz,rfl⟩,by rw [(wJ (aAF.1 hz).2).2];exact h⟩
   ·rintro ⟨t,ht,h⟩
    obtain⟨z,hz,e⟩:=s4.1 ht
    exact⟨z,hz,by rw [<- (wJ (aAF.1 hz).2).2,e];exact h⟩
  constructor
  ·rintro ⟨z,hz,h⟩
   rcases fP _ _ _ _ hz with e | e
   ·rw [e] at h
    obtain⟨v,hv,h⟩:=key.1 h
    exact⟨v,(aAF.1 hv).1,h⟩
   ·exact⟨z,e.1,h⟩
  ·rintro ⟨z,hz,h⟩
   cases hs:isS z with
   | false=>exact⟨z,aB7 _ _ _ z hz hs,h⟩
   | true=>exact⟨_,aB6 _ l ⟨z,hz,hs⟩,key.2 ⟨z,aAF.2 ⟨hz,hs⟩,h⟩⟩
 ·exact Iff.rfl
theorem bH9(hun:∀ l c,kR (un l) c=true↔kR l c=true)(z:Ps):(∀ a b,Sgn.rp a b∈pfl z->0<=a/\(b=-1\/a<=b))->∀ x y,Mt L (tp (sim un z)) x y↔Mt L (tp z) x y:=by
 refine Ps.ind (P:=fun z=>(∀ a b,Sgn.rp a b∈pfl z->0<=a/\(b=-1\/a<=b))->∀ x y,Mt L (tp (sim un z)) x y↔Mt L (tp z) x y) (fun z ih hb x y=>?_) z
 cases z with
 | lf k n rs=>rw [sim]
 | grp n v=>
  have hv:=ih v (by simp [Ps.kids]) (fun a b h=>hb a b (by rw [pfl];exact m9 _ (o3.2 (.inl h))))
  rw [sim,aO6,aO6]
  constructor
  ·rintro ⟨q,h1,h2⟩;exact⟨q,(hv x q).1 h1,h2⟩
  ·rintro ⟨q,h1,h2⟩;exact⟨q,(hv x q).2 h1,h2⟩
 | rep a b v=>
  have hv:=ih v (by simp [Ps.kids]) (fun a b h=>hb a b (by rw [pfl];exact o3.2 (.inl h)))
  obtain⟨h0,h1⟩:=hb a b (by rw [pfl];simp)
  rw [sR,<- oN hv x y,sim]
  unfold iL
  split
  ·rename_i q
   rw [q.1,q.2,bI8]
  split
  ·rename_i q
   rw [q.1,q.2.1]
   generalize sim un v=w at q
   cases w with
   | rep a' b' w'=>
    have e:=q.2.2
    simp [kS] at e
    rw [e.1,e.2,sR,oN (fun x y=>sR 0 (-1) w' x y) x y,aY0]
   | lf=>cases q.2.2
   | grp=>cases q.2.2
   | row=>cases q.2.2
   | alt=>cases q.2.2
  split
  ·rename_i q
   rw [uN,q.1,bN9 x y (by rcases h1 with e | e <;> omega)]
  split
  ·rename_i q
   rw [(oV _).1 q,uN,wX (fun x y=>uN x y) x y h1 h0]
  ·rw [sR]
 | row l=>
  have hl:∀ (x y:Cf),MtC L ((cC un l).map tp) x y↔MtC L (l.map tp) x y:=by
   have key:∀ m:List Ps,(∀ v∈m,v∈l)->∀ (x y:Cf),MtC L ((cC un m).map tp) x y↔MtC L (m.map tp) x y:=by
    intro m
    induction m with
    | nil=>intro _ x y;rw [cC]
    | cons v m ih2=>
     intro hs x y
     have hv:=ih v (hs v (n9 ..)) (fun a b h=>hb a b (by rw [pfl,fB];exact⟨v,hs v (n9 ..),h⟩))
     have hm:=ih2 (fun z hz=>hs z (m9 _ hz))
     rw [cC,s6,s6,bO,bO]
     constructor
     ·rintro ⟨q,h1,h2⟩;exact⟨q,(hv x q).1 h1,(hm q y).1 h2⟩
     ·rintro ⟨q,h1,h2⟩;exact⟨q,(hv x q).2 h1,(hm q y).2 h2⟩
   exact key l (fun _ h=>h)
  rw [qB,<- hl x y,sim]
  unfold jC
  split
  ·rw [bK7,xW]
  ·rw [qB]
 | alt l=>
  rw [xU,sS,sim]
  unfold kO
  rw [bK6,sS]
  have h1:(∃ z∈aW [] (bG un (cC un l)),Mt L (tp z) x y) ↔ ∃ z∈bG un (cC un l),Mt L (tp z) x y:=by
   constructor
   ·rintro ⟨z,hz,h⟩;exact⟨z,((cX _ _ _).1 hz).resolve_left (fun q=>by cases q),h⟩
   ·rintro ⟨z,hz,h⟩;exact⟨z,(cX _ _ _).2 (.inr hz),h⟩
  rw [h1,bA2 un hun,cY]
  constructor
  ·rintro ⟨z,hz,h⟩
   obtain⟨v,hv,e⟩:=s4.1 hz
   rw [<- e] at h
   exact⟨v,hv,(ih v hv (fun a b h=>hb a b (by rw [pfl];exact kE hv h)) x y).1 h⟩
  ·rintro ⟨v,hv,h⟩
   exact⟨sim un v,s4.2 ⟨v,hv,rfl⟩,(ih v hv (fun a b h=>hb a b (by rw [pfl];exact kE hv h)) x y).2 h⟩
end
section
attribute [local go_sem] Oper.semAt_some
noncomputable def tvI (ρ:wE (Int)) (c o:Bool) (t:Tr):Int:=if aZ c o 0 0 (pp [] t)=0 then (ev ρ (fun _=>0) t).1 else 0
end
section
attribute [local go_sem] Oper.semAt_some aU
def wide(l:List (Int×Int)):Int:=16*((l.filter fun r=>decide (127<r.2)).length:Int)
def sQ(l:List (Int×Int)):Int:=if l.any (fun r=>decide (r.2<=127)) then 1 else 0
def tX(c:Bool)(l:List (Int×Int)):Int:=if c then max (wide l+sQ l) 1 else 1
def lA(f:Fl):Int:=if f.mx=-1 then f.mn+1 else max f.mx 1
def fG(c:Bool)(f:Fl)(xs:List Int):Int:=if f.k=2 then tX c f.rs else if f.k=5\/f.k=6 then (xs.length:Int)+xs.sum else if f.k=7 then xs.headD 0+2 else if f.k=9 then (xs.headD 0+2)*lA f else 1
def kV(c:Bool):wE Int:=fun f _ xs _=>min (fG c f xs) 10001
def jB(x:Int):Prop:=0<=x/\x<=10001
theorem aJ9{l:List Int}(h:∀ x∈l,jB x):0<=l.sum/\l.sum<=10001*(l.length:Int):=by
 induction l with
 | nil=>simp
 | cons x l ih=>
  have h1:=h x (n9 ..)
  have h2:=ih fun y hy=>h y (m9 _ hy)
  unfold jB at h1
  rw [List.sum_cons,o7]
  omega
theorem aO1{c o:Bool}{t:Tr}(h:NP c o t):t.f.k=1\/t.f.k=2\/t.f.k=3\/t.f.k=4\/t.f.k=5\/t.f.k=6\/t.f.k=7\/t.f.k=8\/t.f.k=9:=by
 have:=pM h.1
 simp [cP] at this
 omega
theorem bK3{c o:Bool}{t:Tr}(h:NP c o t)(hk:t.f.k=2):lC c o t.f.rs:=by
 have:=h.1;unfold dN at this;rw [hk] at this;simp at this;exact this.1
theorem aO0{c o:Bool}{t:Tr}(h:NP c o t)(hk:t.f.k=7\/t.f.k=9):t.ks.length=1:=by
 have:=h.1;unfold dN at this
 rcases hk with hk | hk
 ·rw [hk] at this;simp at this;exact this.1
 ·rw [hk] at this;simp at this;exact this.2.1
theorem aN9{c o:Bool}{t:Tr}(h:NP c o t)(hk:t.f.k=9):eX t.f.mn t.f.mx=true:=by
 have:=h.1;unfold dN at this;rw [hk] at this;simp at this;exact this.1
theorem aI8{f:Fl}(h:eX f.mn f.mx=true):1<=lA f/\lA f<=256:=by
 simp [eX] at h
 unfold lA
 split <;> omega
theorem aL2(c:Bool)(l:List (Int×Int)):1<=tX c l:=by
 unfold tX
 split <;> omega
theorem aB4{c o:Bool}(t:Tr)(xs:List Int)(g:Int->Int)(hn:NP c o t)(_:xs.length=t.ks.length)(hx:∀ x∈xs,jB x)(_:∀ i,jB (g i)):jB (kV c t.f t.ks xs g):=by
 have:0<=fG c t.f xs:=by
  have hh:0<=xs.headD 0:=by
   cases xs with
   | nil=>simp
   | cons x l=>have:=hx x (n9 ..);unfold jB at this;simpa using this.1
  unfold fG
  split
  ·have:=aL2 c t.f.rs;omega
  ·split
   ·have:=aJ9 hx;omega
   ·split
    ·omega
    ·split
     ·rename_i hk
      have:=aI8 (aN9 hn hk)
      exact Int.mul_nonneg (by omega) (by omega)
     ·omega
 unfold kV jB
 omega
end
theorem bI6(k:Int)(w:World):Calls Tryz.prog 56 #[.int .i64 k] w fun e w'=>e=.returned (.bool (bC k))/\w'=w:=by
 have hid:∀ b,bC k=b->Calls Tryz.prog 56 #[.int .i64 k] w fun e w'=>e=.returned (.bool b)/\w'=w:=by
  intro b hb
  by_cases h2:k=2
  ·have e2:(k==2)=true:=by simpa using h2
   have hB:b=true:=by rw [<- hb];simp [bC,h2]
   subst hB
   clear h2 hb
   go_enter Tryz.func56,Tryz.ntmps56
   go_wp2
   go_ret
   exact⟨rfl,rfl⟩
  have e2:(k==2)=false:=by simpa using h2
  by_cases h7:k=7
  ·have e7:(k==7)=true:=by simpa using h7
   have hB:b=true:=by rw [<- hb];simp [bC,h7]
   subst hB
   clear h2 h7 hb
   go_enter Tryz.func56,Tryz.ntmps56
   go_wp2
   go_ret
   exact⟨rfl,rfl⟩
  have e7:(k==7)=false:=by simpa using h7
  by_cases h8:k=8
  ·have e8:(k==8)=true:=by simpa using h8
   have hB:b=true:=by rw [<- hb];simp [bC,h8]
   subst hB
   clear h2 h7 h8 hb
   go_enter Tryz.func56,Tryz.ntmps56
   go_wp2
   go_ret
   exact⟨rfl,rfl⟩
  have e8:(k==8)=false:=by simpa using h8
  by_cases h9:k=9
  ·have e9:(k==9)=true:=by simpa using h9
   have hB:b=true:=by rw [<- hb];simp [bC,h9]
   subst hB
   clear h2 h7 h8 h9 hb
   go_enter Tryz.func56,Tryz.ntmps56
   go_wp2
   go_ret
   exact⟨rfl,rfl⟩
  have e9:(k==9)=false:=by simpa using h9
  have hB:b=false:=by rw [<- hb];simp [bC,h2,h7,h8,h9]
  subst hB
  clear h2 h7 h8 h9 hb
  go_enter Tryz.func56,Tryz.ntmps56
  go_wp2
  go_ret
  exact⟨rfl,rfl⟩
 exact hid _ rfl
theorem aY8(a b:Int)(w:World):Calls Tryz.prog 37 #[.int .i64 a,.int .i64 b] w fun e w'=>e=.returned (.bool (eX a b))/\w'=w:=by
 have hid:∀ r,eX a b=r->Calls Tryz.prog 37 #[.int .i64 a,.int .i64 b] w fun e w'=>e=.returned (.bool r)/\w'=w:=by
  intro r hr
  by_cases h1:(0:Int)<=a
  case neg=>
   have hB:r=false:=by rw [<- hr];simp [eX];omega
   subst hB
   clear hr
   go_enter Tryz.func37,Tryz.ntmps37
   go_wp2
   go_ret
   exact⟨rfl,rfl⟩
  by_cases h2:a<=255
  case neg=>
   have hB:r=false:=by rw [<- hr];simp [eX];omega
   subst hB
   clear hr
   go_enter Tryz.func37,Tryz.ntmps37
   go_wp2
   go_ret
   exact⟨rfl,rfl⟩
  by_cases h3:b=-1
  ·have e3:(b==-1)=true:=by simpa using h3
   have hB:r=true:=by rw [<- hr];simp [eX];omega
   subst hB
   clear hr
   go_enter Tryz.func37,Tryz.ntmps37
   go_wp2
   go_ret
   exact⟨rfl,rfl⟩
  have e3:(b==-1)=false:=by simpa using h3
  by_cases h4:a<=b
  case neg=>
   have hB:r=false:=by rw [<- hr];simp [eX];omega
   subst hB
   clear hr
   go_enter Tryz.func37,Tryz.ntmps37
   go_wp2
   go_ret
   exact⟨rfl,rfl⟩
  by_cases h5:b<=255
  case neg=>
   have hB:r=false:=by rw [<- hr];simp [eX];omega
   subst hB
   clear hr
   go_enter Tryz.func37,Tryz.ntmps37
   go_wp2
   go_ret
   exact⟨rfl,rfl⟩
  have hB:r=true:=by rw [<- hr];simp [eX];omega
  subst hB
  clear hr
  go_enter Tryz.func37,Tryz.ntmps37
  go_wp2
  go_ret
  exact⟨rfl,rfl⟩
 exact hid _ rfl
theorem aD3(F:Fl)(w:World):Calls Tryz.prog 34 #[.agg #[.int .i64 F.k,.int .i64 F.n,.int .i64 F.mn,.int .i64 F.mx,.slice F.rq F.rs.length F.rc,.slice F.kq F.kl F.kc],.bool false,.bool false,.bool false,.bool false] w fun e w'=>e=.returned (.bool (decide (F.n=0/\F.mn=0/\F.mx=0/\F.rs.length=0/\F.kl=0)))/\Below w.heap.size w w':=by
 have N1:BoxN (w.alloc (.cells #[.int .i64 F.k,.int .i64 F.n,.int .i64 F.mn,.int .i64 F.mx,.slice F.rq F.rs.length F.rc,.slice F.kq F.kl F.kc] 25)) w.heap.size F:=aD w _
 have B1:Hid (Below w.heap.size w (w.alloc (.cells #[.int .i64 F.k,.int .i64 F.n,.int .i64 F.mn,.int .i64 F.mx,.slice F.rq F.rs.length F.rc,.slice F.kq F.kl F.kc] 25))):=bz9
 obtain⟨c0,c1,c2,c3,c4,c5⟩:=N1.six
 simp only [m7] at c1 c2 c3 c4 c5
 clear N1
 have hid:∀ r,decide (F.n=0/\F.mn=0/\F.mx=0/\F.rs.length=0/\F.kl=0)=r->Calls Tryz.prog 34 #[.agg #[.int .i64 F.k,.int .i64 F.n,.int .i64 F.mn,.int .i64 F.mx,.slice F.rq F.rs.length F.rc,.slice F.kq F.kl F.kc],.bool false,.bool false,.bool false,.bool false] w fun e w'=>e=.returned (.bool r)/\Below w.heap.size w w':=by
  intro r hr0
  by_cases hn:F.n=0
  case neg=>
   have ehn:(F.n==0)=false:=n7.2 (by omega)
   have hB:r=false:=by rw [<- hr0];exact r9 (by omega)
   clear hn
   subst hB
   clear hr0
   go_enter Tryz.func34,Tryz.ntmps34
   go_wp2
   go_ret
   exact⟨rfl,B1.out⟩
  have ehn:(F.n==0)=true:=beq_iff_eq.2 (by omega)
  have Hhn:=aA hn
  clear hn
  by_cases hm:F.mn=0
  case neg=>
   have ehm:(F.mn==0)=false:=n7.2 (by omega)
   have hB:r=false:=by rw [<- hr0];exact r9 (by omega)
   clear hm
   subst hB
   clear hr0
   go_enter Tryz.func34,Tryz.ntmps34
   go_wp2
   go_ret
   exact⟨rfl,B1.out⟩
  have ehm:(F.mn==0)=true:=beq_iff_eq.2 (by omega)
  have Hhm:=aA hm
  clear hm
  by_cases hx:F.mx=0
  case neg=>
   have ehx:(F.mx==0)=false:=n7.2 (by omega)
   have hB:r=false:=by rw [<- hr0];exact r9 (by omega)
   clear hx
   subst hB
   clear hr0
   go_enter Tryz.func34,Tryz.ntmps34
   go_wp2
   go_ret
   exact⟨rfl,B1.out⟩
  have ehx:(F.mx==0)=true:=beq_iff_eq.2 (by omega)
  have Hhx:=aA hx
  clear hx
  by_cases hr:F.rs.length=0
  case neg=>
   have ehr:((F.rs.length:Int)==0)=false:=n7.2 (by omega)
   have hB:r=false:=by rw [<- hr0];exact r9 (by omega)
   clear hr
   subst hB
   clear hr0
   go_enter Tryz.func34,Tryz.ntmps34
   go_wp2
   go_ret
   exact⟨rfl,B1.out⟩
  have ehr:((F.rs.length:Int)==0)=true:=beq_iff_eq.2 (by omega)
  have Hhr:=aA hr
  clear hr
  by_cases hk:F.kl=0
  case neg=>
   have ehk:((F.kl:Int)==0)=false:=n7.2 (by omega)
   have hB:r=false:=by rw [<- hr0];exact r9 (by omega)
   clear hk
   subst hB
   clear hr0
   go_enter Tryz.func34,Tryz.ntmps34
   go_wp2
   go_ret
   exact⟨rfl,B1.out⟩
  have ehk:((F.kl:Int)==0)=true:=beq_iff_eq.2 (by omega)
  have Hhk:=aA hk
  clear hk
  have hB:r=true:=by rw [<- hr0];exact aAM (by have:=Hhn.out;have:=Hhm.out;have:=Hhx.out;have:=Hhr.out;have:=Hhk.out;omega)
  subst hB
  clear hr0
  go_enter Tryz.func34,Tryz.ntmps34
  go_wp2
  go_ret
  exact⟨rfl,B1.out⟩
 exact hid _ rfl
theorem aD1(F:Fl)(w:World):Calls Tryz.prog 34 #[.agg #[.int .i64 F.k,.int .i64 F.n,.int .i64 F.mn,.int .i64 F.mx,.slice F.rq F.rs.length F.rc,.slice F.kq F.kl F.kc],.bool false,.bool false,.bool true,.bool false] w fun e w'=>e=.returned (.bool (decide (F.n=0/\F.mn=0/\F.mx=0/\F.kl=0)))/\Below w.heap.size w w':=by
 have N1:BoxN (w.alloc (.cells #[.int .i64 F.k,.int .i64 F.n,.int .i64 F.mn,.int .i64 F.mx,.slice F.rq F.rs.length F.rc,.slice F.kq F.kl F.kc] 25)) w.heap.size F:=aD w _
 have B1:Hid (Below w.heap.size w (w.alloc (.cells #[.int .i64 F.k,.int .i64 F.n,.int .i64 F.mn,.int .i64 F.mx,.slice F.rq F.rs.length F.rc,.slice F.kq F.kl F.kc] 25))):=bz9
 obtain⟨c0,c1,c2,c3,c4,c5⟩:=N1.six
 simp only [m7] at c1 c2 c3 c4 c5
 clear N1
 have hid:∀ r,decide (F.n=0/\F.mn=0/\F.mx=0/\F.kl=0)=r->Calls Tryz.prog 34 #[.agg #[.int .i64 F.k,.int .i64 F.n,.int .i64 F.mn,.int .i64 F.mx,.slice F.rq F.rs.length F.rc,.slice F.kq F.kl F.kc],.bool false,.bool false,.bool true,.bool false] w fun e w'=>e=.returned (.bool r)/\Below w.heap.size w w':=by
  intro r hr0
  by_cases hn:F.n=0
  case neg=>
   have ehn:(F.n==0)=false:=n7.2 (by omega)
   have hB:r=false:=by rw [<- hr0];exact r9 (by omega)
   clear hn
   subst hB
   clear hr0
   go_enter Tryz.func34,Tryz.ntmps34
   go_wp2
   go_ret
   exact⟨rfl,B1.out⟩
  have ehn:(F.n==0)=true:=beq_iff_eq.2 (by omega)
  have Hhn:=aA hn
  clear hn
  by_cases hm:F.mn=0
  case neg=>
   have ehm:(F.mn==0)=false:=n7.2 (by omega)
   have hB:r=false:=by rw [<- hr0];exact r9 (by omega)
   clear hm
   subst hB
   clear hr0
   go_enter Tryz.func34,Tryz.ntmps34
   go_wp2
   go_ret
   exact⟨rfl,B1.out⟩
  have ehm:(F.mn==0)=true:=beq_iff_eq.2 (by omega)
  have Hhm:=aA hm
  clear hm
  by_cases hx:F.mx=0
  case neg=>
   have ehx:(F.mx==0)=false:=n7.2 (by omega)
   have hB:r=false:=by rw [<- hr0];exact r9 (by omega)
   clear hx
   subst hB
   clear hr0
   go_enter Tryz.func34,Tryz.ntmps34
   go_wp2
   go_ret
   exact⟨rfl,B1.out⟩
  have ehx:(F.mx==0)=true:=beq_iff_eq.2 (by omega)
  have Hhx:=aA hx
  clear hx
  by_cases hk:F.kl=0
  case neg=>
   have ehk:((F.kl:Int)==0)=false:=n7.2 (by omega)
   have hB:r=false:=by rw [<- hr0];exact r9 (by omega)
   clear hk
   subst hB
   clear hr0
   go_enter Tryz.func34,Tryz.ntmps34
   go_wp2
   go_ret
   exact⟨rfl,B1.out⟩
  have ehk:((F.kl:Int)==0)=true:=beq_iff_eq.2 (by omega)
  have Hhk:=aA hk
  clear hk
  have hB:r=true:=by rw [<- hr0];exact aAM (by have:=Hhn.out;have:=Hhm.out;have:=Hhx.out;have:=Hhk.out;omega)
  subst hB
  clear hr0
  go_enter Tryz.func34,Tryz.ntmps34
  go_wp2
  go_ret
  exact⟨rfl,B1.out⟩
 exact hid _ rfl
theorem aD2(F:Fl)(w:World):Calls Tryz.prog 34 #[.agg #[.int .i64 F.k,.int .i64 F.n,.int .i64 F.mn,.int .i64 F.mx,.slice F.rq F.rs.length F.rc,.slice F.kq F.kl F.kc],.bool false,.bool false,.bool false,.bool true] w fun e w'=>e=.returned (.bool (decide (F.n=0/\F.mn=0/\F.mx=0/\F.rs.length=0)))/\Below w.heap.size w w':=by
 have N1:BoxN (w.alloc (.cells #[.int .i64 F.k,.int .i64 F.n,.int .i64 F.mn,.int .i64 F.mx,.slice F.rq F.rs.length F.rc,.slice F.kq F.kl F.kc] 25)) w.heap.size F:=aD w _
 have B1:Hid (Below w.heap.size w (w.alloc (.cells #[.int .i64 F.k,.int .i64 F.n,.int .i64 F.mn,.int .i64 F.mx,.slice F.rq F.rs.length F.rc,.slice F.kq F.kl F.kc] 25))):=bz9
 obtain⟨c0,c1,c2,c3,c4,c5⟩:=N1.six
 simp only [m7] at c1 c2 c3 c4 c5
 clear N1
 have hid:∀ r,decide (F.n=0/\F.mn=0/\F.mx=0/\F.rs.length=0)=r->Calls Tryz.prog 34 #[.agg #[.int .i64 F.k,.int .i64 F.n,.int .i64 F.mn,.int .i64 F.mx,.slice F.rq F.rs.length F.rc,.slice F.kq F.kl F.kc],.bool false,.bool false,.bool false,.bool true] w fun e w'=>e=.returned (.bool r)/\Below w.heap.size w w':=by
  intro r hr0
  by_cases hn:F.n=0
  case neg=>
   have ehn:(F.n==0)=false:=n7.2 (by omega)
   have hB:r=false:=by rw [<- hr0];exact r9 (by omega)
   clear hn
   subst hB
   clear hr0
   go_enter Tryz.func34,Tryz.ntmps34
   go_wp2
   go_ret
   exact⟨rfl,B1.out⟩
  have ehn:(F.n==0)=true:=beq_iff_eq.2 (by omega)
  have Hhn:=aA hn
  clear hn
  by_cases hm:F.mn=0
  case neg=>
   have ehm:(F.mn==0)=false:=n7.2 (by omega)
   have hB:r=false:=by rw [<- hr0];exact r9 (by omega)
   clear hm
   subst hB
   clear hr0
   go_enter Tryz.func34,Tryz.ntmps34
   go_wp2
   go_ret
   exact⟨rfl,B1.out⟩
  have ehm:(F.mn==0)=true:=beq_iff_eq.2 (by omega)
  have Hhm:=aA hm
  clear hm
  by_cases hx:F.mx=0
  case neg=>
   have ehx:(F.mx==0)=false:=n7.2 (by omega)
   have hB:r=false:=by rw [<- hr0];exact r9 (by omega)
   clear hx
   subst hB
   clear hr0
   go_enter Tryz.func34,Tryz.ntmps34
   go_wp2
   go_ret
   exact⟨rfl,B1.out⟩
  have ehx:(F.mx==0)=true:=beq_iff_eq.2 (by omega)
  have Hhx:=aA hx
  clear hx
  by_cases hr:F.rs.length=0
  case neg=>
   have ehr:((F.rs.length:Int)==0)=false:=n7.2 (by omega)
   have hB:r=false:=by rw [<- hr0];exact r9 (by omega)
   clear hr
   subst hB
   clear hr0
   go_enter Tryz.func34,Tryz.ntmps34
   go_wp2
   go_ret
   exact⟨rfl,B1.out⟩
  have ehr:((F.rs.length:Int)==0)=true:=beq_iff_eq.2 (by omega)
  have Hhr:=aA hr
  clear hr
  have hB:r=true:=by rw [<- hr0];exact aAM (by have:=Hhn.out;have:=Hhm.out;have:=Hhx.out;have:=Hhr.out;omega)
  subst hB
  clear hr0
  go_enter Tryz.func34,Tryz.ntmps34
  go_wp2
  go_ret
  exact⟨rfl,B1.out⟩
 exact hid _ rfl
theorem aC8(F:Fl)(w:World):Calls Tryz.prog 34 #[.agg #[.int .i64 F.k,.int .i64 F.n,.int .i64 F.mn,.int .i64 F.mx,.slice F.rq F.rs.length F.rc,.slice F.kq F.kl F.kc],.bool true,.bool false,.bool false,.bool true] w fun e w'=>e=.returned (.bool (decide (F.mn=0/\F.mx=0/\F.rs.length=0)))/\Below w.heap.size w w':=by
 have N1:BoxN (w.alloc (.cells #[.int .i64 F.k,.int .i64 F.n,.int .i64 F.mn,.int .i64 F.mx,.slice F.rq F.rs.length F.rc,.slice F.kq F.kl F.kc] 25)) w.heap.size F:=aD w _
 have B1:Hid (Below w.heap.size w (w.alloc (.cells #[.int .i64 F.k,.int .i64 F.n,.int .i64 F.mn,.int .i64 F.mx,.slice F.rq F.rs.length F.rc,.slice F.kq F.kl F.kc] 25))):=bz9
 obtain⟨c0,c1,c2,c3,c4,c5⟩:=N1.six
 simp only [m7] at c1 c2 c3 c4 c5
 clear N1
 have hid:∀ r,decide (F.mn=0/\F.mx=0/\F.rs.length=0)=r->Calls Tryz.prog 34 #[.agg #[.int .i64 F.k,.int .i64 F.n,.int .i64 F.mn,.int .i64 F.mx,.slice F.rq F.rs.length F.rc,.slice F.kq F.kl F.kc],.bool true,.bool false,.bool false,.bool true] w fun e w'=>e=.returned (.bool r)/\Below w.heap.size w w':=by
  intro r hr0
  by_cases hm:F.mn=0
  case neg=>
   have ehm:(F.mn==0)=false:=n7.2 (by omega)
   have hB:r=false:=by rw [<- hr0];exact r9 (by omega)
   clear hm
   subst hB
   clear hr0
   go_enter Tryz.func34,Tryz.ntmps34
   go_wp2
   go_ret
   exact⟨rfl,B1.out⟩
  have ehm:(F.mn==0)=true:=beq_iff_eq.2 (by omega)
  have Hhm:=aA hm
  clear hm
  by_cases hx:F.mx=0
  case neg=>
   have ehx:(F.mx==0)=false:=n7.2 (by omega)
   have hB:r=false:=by rw [<- hr0];exact r9 (by omega)
   clear hx
   subst hB
   clear hr0
   go_enter Tryz.func34,Tryz.ntmps34
   go_wp2
   go_ret
   exact⟨rfl,B1.out⟩
  have ehx:(F.mx==0)=true:=beq_iff_eq.2 (by omega)
  have Hhx:=aA hx
  clear hx
  by_cases hr:F.rs.length=0
  case neg=>
   have ehr:((F.rs.length:Int)==0)=false:=n7.2 (by omega)
   have hB:r=false:=by rw [<- hr0];exact r9 (by omega)
   clear hr
   subst hB
   clear hr0
   go_enter Tryz.func34,Tryz.ntmps34
   go_wp2
   go_ret
   exact⟨rfl,B1.out⟩
  have ehr:((F.rs.length:Int)==0)=true:=beq_iff_eq.2 (by omega)
  have Hhr:=aA hr
  clear hr
  have hB:r=true:=by rw [<- hr0];exact aAM (by have:=Hhm.out;have:=Hhx.out;have:=Hhr.out;omega)
  subst hB
  clear hr0
  go_enter Tryz.func34,Tryz.ntmps34
  go_wp2
  go_ret
  exact⟨rfl,B1.out⟩
 exact hid _ rfl
theorem aC9(F:Fl)(w:World):Calls Tryz.prog 34 #[.agg #[.int .i64 F.k,.int .i64 F.n,.int .i64 F.mn,.int .i64 F.mx,.slice F.rq F.rs.length F.rc,.slice F.kq F.kl F.kc],.bool true,.bool false,.bool false,.bool false] w fun e w'=>e=.returned (.bool (decide (F.mn=0/\F.mx=0/\F.rs.length=0/\F.kl=0)))/\Below w.heap.size w w':=by
 have N1:BoxN (w.alloc (.cells #[.int .i64 F.k,.int .i64 F.n,.int .i64 F.mn,.int .i64 F.mx,.slice F.rq F.rs.length F.rc,.slice F.kq F.kl F.kc] 25)) w.heap.size F:=aD w _
 have B1:Hid (Below w.heap.size w (w.alloc (.cells #[.int .i64 F.k,.int .i64 F.n,.int .i64 F.mn,.int .i64 F.mx,.slice F.rq F.rs.length F.rc,.slice F.kq F.kl F.kc] 25))):=bz9
 obtain⟨c0,c1,c2,c3,c4,c5⟩:=N1.six
 simp only [m7] at c1 c2 c3 c4 c5
 clear N1
 have hid:∀ r,decide (F.mn=0/\F.mx=0/\F.rs.length=0/\F.kl=0)=r->Calls Tryz.prog 34 #[.agg #[.int .i64 F.k,.int .i64 F.n,.int .i64 F.mn,.int .i64 F.mx,.slice F.rq F.rs.length F.rc,.slice F.kq F.kl F.kc],.bool true,.bool false,.bool false,.bool false] w fun e w'=>e=.returned (.bool r)/\Below w.heap.size w w':=by
  intro r hr0
  by_cases hm:F.mn=0
  case neg=>
   have ehm:(F.mn==0)=false:=n7.2 (by omega)
   have hB:r=false:=by rw [<- hr0];exact r9 (by omega)
   clear hm
   subst hB
   clear hr0
   go_enter Tryz.func34,Tryz.ntmps34
   go_wp2
   go_ret
   exact⟨rfl,B1.out⟩
  have ehm:(F.mn==0)=true:=beq_iff_eq.2 (by omega)
  have Hhm:=aA hm
  clear hm
  by_cases hx:F.mx=0
  case neg=>
   have ehx:(F.mx==0)=false:=n7.2 (by omega)
   have hB:r=false:=by rw [<- hr0];exact r9 (by omega)
   clear hx
   subst hB
   clear hr0
   go_enter Tryz.func34,Tryz.ntmps34
   go_wp2
   go_ret
   exact⟨rfl,B1.out⟩
  have ehx:(F.mx==0)=true:=beq_iff_eq.2 (by omega)
  have Hhx:=aA hx
  clear hx
  by_cases hr:F.rs.length=0
  case neg=>
   have ehr:((F.rs.length:Int)==0)=false:=n7.2 (by omega)
   have hB:r=false:=by rw [<- hr0];exact r9 (by omega)
   clear hr
   subst hB
   clear hr0
   go_enter Tryz.func34,Tryz.ntmps34
   go_wp2
   go_ret
   exact⟨rfl,B1.out⟩
  have ehr:((F.rs.length:Int)==0)=true:=beq_iff_eq.2 (by omega)
  have Hhr:=aA hr
  clear hr
  by_cases hk:F.kl=0
  case neg=>
   have ehk:((F.kl:Int)==0)=false:=n7.2 (by omega)
   have hB:r=false:=by rw [<- hr0];exact r9 (by omega)
   clear hk
   subst hB
   clear hr0
   go_enter Tryz.func34,Tryz.ntmps34
   go_wp2
   go_ret
   exact⟨rfl,B1.out⟩
  have ehk:((F.kl:Int)==0)=true:=beq_iff_eq.2 (by omega)
  have Hhk:=aA hk
  clear hk
  have hB:r=true:=by rw [<- hr0];exact aAM (by have:=Hhm.out;have:=Hhx.out;have:=Hhr.out;have:=Hhk.out;omega)
  subst hB
  clear hr0
  go_enter Tryz.func34,Tryz.ntmps34
  go_wp2
  go_ret
  exact⟨rfl,B1.out⟩
 exact hid _ rfl
theorem aD0(F:Fl)(w:World):Calls Tryz.prog 34 #[.agg #[.int .i64 F.k,.int .i64 F.n,.int .i64 F.mn,.int .i64 F.mx,.slice F.rq F.rs.length F.rc,.slice F.kq F.kl F.kc],.bool false,.bool true,.bool false,.bool true] w fun e w'=>e=.returned (.bool (decide (F.n=0/\F.rs.length=0)))/\Below w.heap.size w w':=by
 have N1:BoxN (w.alloc (.cells #[.int .i64 F.k,.int .i64 F.n,.int .i64 F.mn,.int .i64 F.mx,.slice F.rq F.rs.length F.rc,.slice F.kq F.kl F.kc] 25)) w.heap.size F:=aD w _
 have B1:Hid (Below w.heap.size w (w.alloc (.cells #[.int .i64 F.k,.int .i64 F.n,.int .i64 F.mn,.int .i64 F.mx,.slice F.rq F.rs.length F.rc,.slice F.kq F.kl F.kc] 25))):=bz9
 obtain⟨c0,c1,c2,c3,c4,c5⟩:=N1.six
 simp only [m7] at c1 c2 c3 c4 c5
 clear N1
 have hid:∀ r,decide (F.n=0/\F.rs.length=0)=r->Calls Tryz.prog 34 #[.agg #[.int .i64 F.k,.int .i64 F.n,.int .i64 F.mn,.int .i64 F.mx,.slice F.rq F.rs.length F.rc,.slice F.kq F.kl F.kc],.bool false,.bool true,.bool false,.bool true] w fun e w'=>e=.returned (.bool r)/\Below w.heap.size w w':=by
  intro r hr0
  by_cases hn:F.n=0
  case neg=>
   have ehn:(F.n==0)=false:=n7.2 (by omega)
   have hB:r=false:=by rw [<- hr0];exact r9 (by omega)
   clear hn
   subst hB
   clear hr0
   go_enter Tryz.func34,Tryz.ntmps34
   go_wp2
   go_ret
   exact⟨rfl,B1.out⟩
  have ehn:(F.n==0)=true:=beq_iff_eq.2 (by omega)
  have Hhn:=aA hn
  clear hn
  by_cases hr:F.rs.length=0
  case neg=>
   have ehr:((F.rs.length:Int)==0)=false:=n7.2 (by omega)
   have hB:r=false:=by rw [<- hr0];exact r9 (by omega)
   clear hr
   subst hB
   clear hr0
   go_enter Tryz.func34,Tryz.ntmps34
   go_wp2
   go_ret
   exact⟨rfl,B1.out⟩
  have ehr:((F.rs.length:Int)==0)=true:=beq_iff_eq.2 (by omega)
  have Hhr:=aA hr
  clear hr
  have hB:r=true:=by rw [<- hr0];exact aAM (by have:=Hhn.out;have:=Hhr.out;omega)
  subst hB
  clear hr0
  go_enter Tryz.func34,Tryz.ntmps34
  go_wp2
  go_ret
  exact⟨rfl,B1.out⟩
 exact hid _ rfl
theorem aX9(p:Way)(t:Tr)(o:Nat)(w:World):Calls Tryz.prog 33 #[.agg #[.int .i64 t.f.k,.int .i64 t.f.n,.int .i64 t.f.mn,.int .i64 t.f.mx,.slice t.f.rq t.f.rs.length t.f.rc,.slice t.f.kq t.f.kl t.f.kc,.int .i64 ((p.length:Int)+1),.int .i64 (arP p),.bool (fiP p),.bool (laP p),.bool (brP p),.int .i64 (o:Int)]] w fun e w'=>e=.returned (.bool (kA p t.f.k))/\Below w.heap.size w w':=by
 have N1:(w.alloc (.cells #[.int .i64 t.f.k,.int .i64 t.f.n,.int .i64 t.f.mn,.int .i64 t.f.mx,.slice t.f.rq t.f.rs.length t.f.rc,.slice t.f.kq t.f.kl t.f.kc,.int .i64 ((p.length:Int)+1),.int .i64 (arP p),.bool (fiP p),.bool (laP p),.bool (brP p),.int .i64 (o:Int)] 56)).heap[w.heap.size]?=some (.cells #[.int .i64 t.f.k,.int .i64 t.f.n,.int .i64 t.f.mn,.int .i64 t.f.mx,.slice t.f.rq t.f.rs.length t.f.rc,.slice t.f.kq t.f.kl t.f.kc,.int .i64 ((p.length:Int)+1),.int .i64 (arP p),.bool (fiP p),.bool (laP p),.bool (brP p),.int .i64 (o:Int)] 56 (0,0)):=aD w _
 have B1:Hid (Below w.heap.size w (w.alloc (.cells #[.int .i64 t.f.k,.int .i64 t.f.n,.int .i64 t.f.mn,.int .i64 t.f.mx,.slice t.f.rq t.f.rs.length t.f.rc,.slice t.f.kq t.f.kl t.f.kc,.int .i64 ((p.length:Int)+1),.int .i64 (arP p),.bool (fiP p),.bool (laP p),.bool (brP p),.int .i64 (o:Int)] 56))):=bz9
 have hid:∀ (k ar:Int) (fi la br:Bool) (r:Bool),(if ar=5 then (if k=3 then br&&fi else if k=4 then br&&la else bC k) else if ar=9 then bC k else if ar=6 then k != 6 else true)=r->(w.alloc (.cells #[.int .i64 t.f.k,.int .i64 t.f.n,.int .i64 t.f.mn,.int .i64 t.f.mx,.slice t.f.rq t.f.rs.length t.f.rc,.slice t.f.kq t.f.kl t.f.kc,.int .i64 ((p.length:Int)+1),.int .i64 (arP p),.bool (fiP p),.bool (laP p),.bool (brP p),.int .i64 (o:Int)] 56)).cell? ⟨w.heap.size,0,none⟩=some (.int .i64 k)->(w.alloc (.cells #[.int .i64 t.f.k,.int .i64 t.f.n,.int .i64 t.f.mn,.int .i64 t.f.mx,.slice t.f.rq t.f.rs.length t.f.rc,.slice t.f.kq t.f.kl t.f.kc,.int .i64 ((p.length:Int)+1),.int .i64 (arP p),.bool (fiP p),.bool (laP p),.bool (brP p),.int .i64 (o:Int)] 56)).cell? ⟨w.heap.size,7,none⟩=some (.int .i64 ar)->(w.alloc (.cells #[.int .i64 t.f.k,.int .i64 t.f.n,.int .i64 t.f.mn,.int .i64 t.f.mx,.slice t.f.rq t.f.rs.length t.f.rc,.slice t.f.kq t.f.kl t.f.kc,.int .i64 ((p.length:Int)+1),.int .i64 (arP p),.bool (fiP p),.bool (laP p),.bool (brP p),.int .i64 (o:Int)] 56)).cell? ⟨w.heap.size,8,none⟩=some (.bool fi)->(w.alloc (.cells #[.int .i64 t.f.k,.int .i64 t.f.n,.int .i64 t.f.mn,.int .i64 t.f.mx,.slice t.f.rq t.f.rs.length t.f.rc,.slice t.f.kq t.f.kl t.f.kc,.int .i64 ((p.length:Int)+1),.int .i64 (arP p),.bool (fiP p),.bool (laP p),.bool (brP p),.int .i64 (o:Int)] 56)).cell? ⟨w.heap.size,9,none⟩=some (.bool la)->(w.alloc (.cells #[.int .i64 t.f.k,.int .i64 t.f.n,.int .i64 t.f.mn,.int .i64 t.f.mx,.slice t.f.rq t.f.rs.length t.f.rc,.slice t.f.kq t.f.kl t.f.kc,.int .i64 ((p.length:Int)+1),.int .i64 (arP p),.bool (fiP p),.bool (laP p),.bool (brP p),.int .i64 (o:Int)] 56)).cell? ⟨w.heap.size,10,none⟩=some (.bool br)->Calls Tryz.prog 33 #[.agg #[.int .i64 t.f.k,.int .i64 t.f.n,.int .i64 t.f.mn,.int .i64 t.f.mx,.slice t.f.rq t.f.rs.length t.f.rc,.slice t.f.kq t.f.kl t.f.kc,.int .i64 ((p.length:Int)+1),.int .i64 (arP p),.bool (fiP p),.bool (laP p),.bool (brP p),.int .i64 (o:Int)]] w fun e w'=>e=.returned (.bool r)/\Below w.heap.size w w':=by
  intro k ar fi la br r hr x0 x7 x8 x9 x10
  have TH:=aA (fun W=>bI6 k W)
  obtain⟨th,hth⟩:∃ th,bC k=th:=⟨_,rfl⟩
  rw [hth] at TH hr
  clear N1 hth
  by_cases a5:ar=5
  ·by_cases k3:k=3
   ·have e5:(ar==5)=true:=by simpa using a5
    have e3:(k==3)=true:=by simpa using k3
    rw [if_pos a5,if_pos k3] at hr
    clear a5 k3
    cases br <;> cases fi
    all_goals (subst hr;go_enter Tryz.func33,Tryz.ntmps33;go_wp2_with (go_at_call 56;(with_reducible refine(TH.out _).mono ?_);rintro e w5 ⟨rfl,h5⟩;subst w5);go_ret;exact⟨rfl,B1.out⟩)
   by_cases k4:k=4
   ·have e5:(ar==5)=true:=by simpa using a5
    have e3:(k==3)=false:=by simpa using k3
    have e4:(k==4)=true:=by simpa using k4
    rw [if_pos a5,if_neg k3,if_pos k4] at hr
    clear a5 k3 k4
    cases br <;> cases la
    all_goals (subst hr;go_enter Tryz.func33,Tryz.ntmps33;go_wp2_with (go_at_call 56;(with_reducible refine(TH.out _).mono ?_);rintro e w5 ⟨rfl,h5⟩;subst w5);go_ret;exact⟨rfl,B1.out⟩)
   have e5:(ar==5)=true:=by simpa using a5
   have e3:(k==3)=false:=by simpa using k3
   have e4:(k==4)=false:=by simpa using k4
   rw [if_pos a5,if_neg k3,if_neg k4] at hr
   clear a5 k3 k4
   subst hr
   go_enter Tryz.func33,Tryz.ntmps33
   go_wp2_with (go_at_call 56;(with_reducible refine(TH.out _).mono ?_);rintro e w5 ⟨rfl,h5⟩;subst w5)
   go_ret
   exact⟨rfl,B1.out⟩
  have e5:(ar==5)=false:=by simpa using a5
  rw [if_neg a5] at hr
  by_cases a9:ar=9
  ·have e9:(ar==9)=true:=by simpa using a9
   rw [if_pos a9] at hr
   clear a5 a9
   subst hr
   go_enter Tryz.func33,Tryz.ntmps33
   go_wp2_with (go_at_call 56;(with_reducible refine(TH.out _).mono ?_);rintro e w5 ⟨rfl,h5⟩;subst w5)
   go_ret
   exact⟨rfl,B1.out⟩
  have e9:(ar==9)=false:=by simpa using a9
  rw [if_neg a9] at hr
  by_cases a6:ar=6
  ·have e6:(ar==6)=true:=by simpa using a6
   rw [if_pos a6] at hr
   clear a5 a9 a6
   subst hr
   go_enter Tryz.func33,Tryz.ntmps33
   go_wp2_with (go_at_call 56;(with_reducible refine(TH.out _).mono ?_);rintro e w5 ⟨rfl,h5⟩;subst w5)
   go_ret
   exact⟨rfl,B1.out⟩
  have e6:(ar==6)=false:=by simpa using a6
  rw [if_neg a6] at hr
  clear a5 a9 a6
  subst hr
  go_enter Tryz.func33,Tryz.ntmps33
  go_wp2_with (go_at_call 56;(with_reducible refine(TH.out _).mono ?_);rintro e w5 ⟨rfl,h5⟩;subst w5)
  go_ret
  exact⟨rfl,B1.out⟩
 exact hid t.f.k (arP p) (fiP p) (laP p) (brP p) _ rfl (aB N1 (i:=0) rfl) (aB N1 (i:=7) rfl) (aB N1 (i:=8) rfl) (aB N1 (i:=9) rfl) (aB N1 (i:=10) rfl)
structure Srt(S:List (Int×Int)):Prop where
 some:∀ r∈S,r.1<=r.2
 rise:S.Pairwise (fun a b=>a.1<=b.1)
theorem rW:Srt []:=⟨fun _ h=>(by cases h),List.Pairwise.nil⟩
theorem tR{r:Int×Int}{L:List (Int×Int)}(h:Srt (r :: L)):Srt L:=⟨fun x hx=>h.some x (m9 _ hx),(aAT.1 h.rise).2⟩
theorem rX{O L:List (Int×Int)}(h:Srt O)(k:Srt L)(hx:∀ x∈O,∀ y∈L,x.1<=y.1):Srt (O++L):=
 ⟨fun r hr=>(o3.1 hr).elim (h.some r) (k.some r),List.pairwise_append.2 ⟨h.rise,k.rise,hx⟩⟩
theorem rV{r:Int×Int}(h:r.1<=r.2):Srt [r]:=⟨fun x hx=>by simp at hx;subst hx;exact h,List.pairwise_singleton _ _⟩
structure MI(A B A' B' O:List (Int×Int)):Prop where
 out:Srt O
 a:Srt A'
 b:Srt B'
 mem:∀ c,(In O c\/In A' c\/In B' c)↔(In A c\/In B c)
 le:∀ x∈O,∀ y,y∈A'\/y∈B'->x.1<=y.1
 fit:Fit O/\Fit A'/\Fit B'
 len:O.length+A'.length+B'.length<=A.length+B.length
theorem MI.start{A B:List (Int×Int)}(ha:Srt A)(hb:Srt B)(fa:Fit A)(fb:Fit B):MI A B A B []:=
 ⟨rW,ha,hb,fun c=>⟨fun q=>q.elim (fun q=>absurd q (fH c)) id,.inr⟩,fun _ h=>(by cases h),⟨eM,fa,fb⟩,by simp⟩
theorem MI.right{A B A' B' O:List (Int×Int)}{a b:Int×Int}(I:MI A B (a :: A') (b :: B') O)(h:b.1<a.1):MI A B (a :: A') B' (O++[b]):=by
 refine⟨rX I.out (rV (I.b.some b (by simp))) (fun x hx y hy=>by simp at hy;subst hy;exact I.le x hx y (.inr (by simp))),I.a,tR I.b,fun c=>?_,fun x hx y hy=>?_,⟨cU I.fit.1 (dQ I.fit.2.2 fun z hz=>by simp at hz;subst hz;simp),I.fit.2.1,dQ I.fit.2.2 fun z hz=>m9 _ hz⟩,by have:=I.len;simp at *;omega⟩
 ·rw [<- I.mem,cA,dZ,bK b B']
  constructor
  ·rintro ((q | q) | q | q)
   ·exact .inl q
   ·exact .inr (.inr (.inl q))
   ·exact .inr (.inl q)
   ·exact .inr (.inr (.inr q))
  ·rintro (q | q | q | q)
   ·exact .inl (.inl q)
   ·exact .inr (.inl q)
   ·exact .inl (.inr q)
   ·exact .inr (.inr q)
 ·rcases o3.1 hx with hx | hx
  ·exact I.le x hx y (hy.elim .inl fun q=>.inr (m9 _ q))
  ·simp at hx
   subst hx
   rcases hy with hy | hy
   ·rcases u0.1 hy with rfl | hy
    ·omega
    ·have:=(aAT.1 I.a.rise).1 y hy;omega
   ·exact(aAT.1 I.b.rise).1 y hy
theorem MI.left{A B A' B' O:List (Int×Int)}{a:Int×Int}(I:MI A B (a :: A') B' O)(h:∀ b∈B',a.1<=b.1):MI A B A' B' (O++[a]):=by
 refine⟨rX I.out (rV (I.a.some a (by simp))) (fun x hx y hy=>by simp at hy;subst hy;exact I.le x hx y (.inl (by simp))),tR I.a,I.b,fun c=>?_,fun x hx y hy=>?_,⟨cU I.fit.1 (dQ I.fit.2.1 fun z hz=>by simp at hz;subst hz;simp),dQ I.fit.2.1 fun z hz=>m9 _ hz,I.fit.2.2⟩,by have:=I.len;simp at *;omega⟩
 ·rw [<- I.mem,cA,dZ,bK a A']
  constructor
  ·rintro ((q | q) | q | q)
   ·exact .inl q
   ·exact .inr (.inl (.inl q))
   ·exact .inr (.inl (.inr q))
   ·exact .inr (.inr q)
  ·rintro (q |(q | q) | q)
   ·exact .inl (.inl q)
   ·exact .inl (.inr q)
   ·exact .inr (.inl q)
   ·exact .inr (.inr q)
 ·rcases o3.1 hx with hx | hx
  ·exact I.le x hx y (hy.elim (fun q=>.inl (m9 _ q)) .inr)
  ·simp at hx
   subst hx
   rcases hy with hy | hy
   ·exact(aAT.1 I.a.rise).1 y hy
   ·exact h y hy
theorem MI.done{A B B' O:List (Int×Int)}(I:MI A B [] B' O):Srt (O++B')/\(∀ c,In (O++B') c↔(In A c\/In B c))/\Fit (O++B')/\(O++B').length<=A.length+B.length:=by
 refine⟨rX I.out I.b fun x hx y hy=>I.le x hx y (.inr hy),fun c=>?_,cU I.fit.1 I.fit.2.2,by have:=I.len;simp at *;omega⟩
 rw [<- I.mem,cA]
 exact⟨fun q=>q.elim .inl fun q=>.inr (.inr q),fun q=>q.elim .inl fun q=>q.elim (fun q=>absurd q (fH c)) .inr⟩
def qK(w:World)(L:List (Int×Int))(e:Ending)(w':World):Prop:=∃ v S,e=.returned v/\RR w.heap.size w' v S/\Srt S/\Fit S/\(∀ c,In S c↔In L c)/\S.length<=L.length/\Below w.heap.size w w'
theorem ArgR.take{W:World}{g off n cap:Nat}{L:List (Int×Int)}(h:ArgR W (.slice (some ⟨g,off,none⟩) n cap) L){k:Nat}(hk:k<=L.length):ArgR W (.slice (some ⟨g,off,none⟩) k cap) (L.take k):=by
 have hl:(L.take k).length=k:=by simp;omega
 rcases h with⟨p,c,e,rfl,e2⟩ | ⟨g',off',cap',e,h2,h3,h4,h5⟩
 ·simp at hk
  subst hk
  cases e
  exact .inl ⟨_,_,rfl,rfl,fun q=>by cases q⟩
 ·cases e
  refine .inr ⟨g,off,cap,by rw [hl],h2,by omega,h4,fun i r hi=>h5 i r ?_⟩
  rw [List.getElem?_take] at hi
  split at hi
  ·exact hi
  ·cases hi
theorem ArgR.drop{W:World}{g off n cap:Nat}{L:List (Int×Int)}(h:ArgR W (.slice (some ⟨g,off,none⟩) n cap) L){k:Nat}(hk:k<L.length):ArgR W (.slice (some ⟨g,off+k*2,none⟩) (n-k) (cap-k)) (L.drop k):=by
 rcases h with⟨p,c,e,rfl,e2⟩ | ⟨g',off',cap',e,h2,h3,h4,h5⟩
 ·simp at hk
 ·cases e
  refine .inr ⟨g,off+k*2,cap-k,by simp,h2,by simp;omega,by omega,fun i r hi=>?_⟩
  rw [aBV] at hi
  have:=h5 (k+i) r hi
  rw [show off+k*2+2*i=off+2*(k+i) by omega]
  exact this
theorem aF3(L:List (Int×Int))(k:Nat)(c:Int):(In (L.take k) c\/In (L.drop k) c)↔In L c:=by rw [<- cA,aBG]
end Go.Proofs.YtlamifbjklpdbaaGreat

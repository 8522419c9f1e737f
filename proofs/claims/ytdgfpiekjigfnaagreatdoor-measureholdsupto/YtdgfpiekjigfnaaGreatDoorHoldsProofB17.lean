/-
  Parts of the proof.
-/
import Derived.Test.YtdgfpiekjigfnaaGreatDoorHoldsProofA0
import Derived.Test.YtdgfpiekjigfnaaGreatDoorHoldsProofB16
import Derived.Test.YtdgfpiekjigfnaaGreatDoorHoldsProofB3
import Derived.Test.YtdgfpiekjigfnaaGreatDoorHoldsProofB7
import Derived.Test.YtdgfpiekjigfnaaGreatDoorHoldsProofB8
import Derived.BigQuiet
set_option maxRecDepth 100000
set_option maxHeartbeats 8000000
namespace Go.Proofs.YtdgfpiekjigfnaaGreatDoor
open Go Go.RowKit
section
variable {T:Type} {ρ:dJ T}
def GpL(c:Nat)(L:List El):Prop:=∀ pre x post,L=pre ++ x :: post->(x.2.f.k=7->x.2.f.n=((c+cD pre:Nat):Int)+1)/\(x.2.f.k=8->1<=x.2.f.n/\x.2.f.n<=((c+cD pre:Nat):Int)/\fA x.1 x.2.f.n=false)
theorem vI(x:El)(l:List El):cD (x :: l)=(if x.2.f.k=7 then 1 else 0)+cD l:=by
 rw [show x :: l=[x] ++ l from rfl,gM,show [x]=[] ++ [x] from rfl,jR];simp [cD]
theorem GpL.left{c:Nat}{a b:List El}(h:GpL c (a ++ b)):GpL c a:=fun pre x post e=>h pre x (post ++ b) (by rw [e];simp)
theorem GpL.right{c:Nat}{a b:List El}(h:GpL c (a ++ b)):GpL (c+cD a) b:=fun pre x post e=>by
 have:=h (a ++ pre) x post (by rw [e];simp);rw [gM,<- aAN] at this;exact this
theorem GpL.head{c:Nat}{x:El}{b:List El}(h:GpL c (x :: b)):(x.2.f.k=7->x.2.f.n=((c:Nat):Int)+1)/\(x.2.f.k=8->1<=x.2.f.n/\x.2.f.n<=((c:Nat):Int)/\fA x.1 x.2.f.n=false):=by
 have:=h [] x b rfl;rw [show cD []=0 from rfl,aAQ] at this;exact this
theorem GpL.kids{c:Nat}{p:Way}{t:Tr}(h:GpL c (pp p t)):GpL (c+(if t.f.k=7 then 1 else 0)) (pps t p 0 t.ks):=by
 rw [cM,show (p,t) :: pps t p 0 t.ks=[(p,t)] ++ pps t p 0 t.ks from rfl] at h;have:=h.right;rwa [vI,show cD []=0 from rfl,aAQ] at this
theorem bB6(p:Way)(t:Tr):cD (pp p t)=(if t.f.k=7 then 1 else 0)+cD (pps t p 0 t.ks):=by rw [cM,vI]
theorem aY4{c f:Bool}{t:Tr}(h:aW c f 0 0 (pp [] t)=0)(h1:∀ x∈pp [] t,x.2.f.k=8->1<=x.2.f.n):GpL 0 (pp [] t):=by
 intro pre x post e;have q:=mE _ 0 0 h pre x post e;refine⟨fun hk=>?_,fun hk=>?_⟩
 ·have:=(zJ q hk).1;simpa using this
 ·refine⟨h1 x (by rw [e];simp) hk,?_⟩;unfold cF at q
  split at q
  ·cases q
  ·split at q
   ·cases q
   ·split at q
    ·cases q
    ·split at q
     ·cases q
     ·split at q
      ·cases q
      ·rename_i n5
       have:=Classical.not_not.1 (fun z=>n5 ⟨hk,z⟩);exact⟨by simpa using this.2,this.1⟩
theorem aG8(t:Tr):∀ (p:Way) (c:Nat) (g:Int->T),GpL c (pp p t)->∀ n:Int,(n<=c\/((c+cD (pp p t):Nat):Int) < n)->(ev ρ g t).2 n=g n:=by
 refine Tr.ind (P:=fun t=>∀ (p:Way) (c:Nat) (g:Int->T),GpL c (pp p t)->∀ n:Int,(n<=c\/((c+cD (pp p t):Nat):Int) < n)->(ev ρ g t).2 n=g n) (fun t ih p c g hg n hn=>?_) t;have hl:∀ (ks:List Tr) (i c:Nat) (g:Int->T),(∀ u∈ks,u∈t.ks)->GpL c (pps t p i ks)->∀ n:Int,(n<=c\/((c+cD (pps t p i ks):Nat):Int) < n)->(evs ρ g ks).2 n=g n:=by
  intro ks
  induction ks with
  | nil=>intro i c g _ _ n _;rw [cQ]
  | cons u us ih2=>
   intro i c g hs hg n hn;rw [bM] at hg hn;rw [gM] at hn;rw [eN];show (evs ρ (ev ρ g u).2 us).2 n=g n;rw [ih2 (i+1) _ _ (fun v hv=>hs v (r8 _ hv)) hg.right n (by omega)];exact ih u (hs u (r9 ..)) _ c g hg.left n (by omega)
 have hd:=(show GpL c ((p,t) :: pps t p 0 t.ks) by rw [<- cM];exact hg).head.1;rw [bB6] at hn;rw [lP];by_cases hk:t.f.k=7
 ·rw [if_pos hk] at hn ⊢;have hd:=hd hk;rw [nC _ _ (by intro e;rw [e] at hn;simp only at hd;omega)];have hks:=hg.kids;rw [if_pos hk] at hks;exact hl t.ks 0 _ g (fun _ h=>h) hks n (by omega)
 ·rw [if_neg hk] at hn ⊢;have hks:=hg.kids;rw [if_neg hk] at hks;exact hl t.ks 0 _ g (fun _ h=>h) hks n (by omega)
def tU(ρ:dJ T):Prop:=∀ f ks xs g g',(f.k=8->g f.n=g' f.n)->ρ f ks xs g=ρ f ks xs g'
theorem vM(par:Tr)(i:Nat)(p:Way)(n:Int):fA ((par,i) :: p) n=((par.f.k==7 && par.f.n==n) || fA p n):=rfl
theorem bV9(hρ:tU ρ)(G:Int->T)(t:Tr):∀ (p:Way) (c:Nat) (g:Int->T),GpL c (pp p t)->(∀ n:Int,1<=n->n<=c->fA p n=false->g n=G n)->(∀ n:Int,c < n->n<=((c+cD (pp p t):Nat):Int)->G n=(ev ρ g t).2 n) ->
  (ev ρ g t).1=evG ρ G t/\∀ z∈pp p t,z.2.f.k=7->G z.2.f.n=evG ρ G z.2:=by
 refine Tr.ind (P:=fun t=>∀ (p:Way) (c:Nat) (g:Int->T),GpL c (pp p t)->(∀ n:Int,1<=n->n<=c->fA p n=false->g n=G n)->(∀ n:Int,c < n->n<=((c+cD (pp p t):Nat):Int)->G n=(ev ρ g t).2 n) ->
  (ev ρ g t).1=evG ρ G t/\∀ z∈pp p t,z.2.f.k=7->G z.2.f.n=evG ρ G z.2) (fun t ih p c g hg h1 h2=>?_) t
 have hl:∀ (ks:List Tr) (i c:Nat) (g:Int->T),(∀ u∈ks,u∈t.ks)->GpL c (pps t p i ks)->(∀ n:Int,1<=n->n<=c->fA ((t,0) :: p) n=false->g n=G n) ->
   (∀ n:Int,c < n->n<=((c+cD (pps t p i ks):Nat):Int)->G n=(evs ρ g ks).2 n)->(evs ρ g ks).1=xG ρ G ks/\∀ z∈pps t p i ks,z.2.f.k=7->G z.2.f.n=evG ρ G z.2:=by
  intro ks
  induction ks with
  | nil=>intro i c g _ _ _ _;rw [cQ,cP,xG];exact⟨rfl,fun z hz=>by cases hz⟩
  | cons u us ih2=>
   intro i c g hs hg h1 h2;rw [bM] at hg h2 ⊢;rw [gM] at h2;rw [eN] at h2 ⊢;simp only at h2;have hus:=fun v hv=>hs v (r8 u hv);have hout:∀ n:Int,n<=((c+cD (pp ((t,i) :: p) u):Nat):Int)->(evs ρ (ev ρ g u).2 us).2 n=(ev ρ g u).2 n:=by
    intro n hn;have:∀ (ks:List Tr) (i c:Nat) (g:Int->T),GpL c (pps t p i ks)->∀ n:Int,n<=c->(evs ρ g ks).2 n=g n:=by
     intro ks
     induction ks with
     | nil=>intro i c g _ n _;rw [cQ]
     | cons v vs ih3=>
      intro i c g hg n hn;rw [bM] at hg;rw [eN];show (evs ρ (ev ρ g v).2 vs).2 n=g n;rw [ih3 (i+1) _ _ hg.right n (by omega)];exact aG8 v _ c g hg.left n (.inl hn)
    exact this us (i+1) _ _ hg.right n hn
   obtain⟨q1,q2⟩:=ih u (hs u (r9 ..)) ((t,i) :: p) c g hg.left h1 (fun n a b=>by rw [h2 n a (by omega)];exact hout n b);obtain⟨r1,r2⟩:=ih2 (i+1) (c+cD (pp ((t,i) :: p) u)) (ev ρ g u).2 hus hg.right (fun n a b e=>by
    by_cases hc:n<=c
    ·rw [aG8 u _ c g hg.left n (.inl hc)];exact h1 n a hc e
    ·rw [h2 n (by omega) (by omega),hout n b]) (fun n a b=>h2 n (by omega) (by omega))
   refine⟨?_,fun z hz hk=>?_⟩
   ·show (ev ρ g u).1 :: (evs ρ (ev ρ g u).2 us).1=_;rw [q1,r1,xG]
   ·rcases o3.1 hz with e | e
    ·exact q2 z e hk
    ·exact r2 z e hk
 have hd:=(show GpL c ((p,t) :: pps t p 0 t.ks) by rw [<- cM];exact hg).head;rw [bB6] at h2;rw [lP] at h2;have hks:=hg.kids;by_cases hk:t.f.k=7
 ·rw [if_pos hk] at h2 hks;have hn:=hd.1 hk;simp only at hn;obtain⟨q1,q2⟩:=hl t.ks 0 (c+1) g (fun _ h=>h) hks (fun n a b e=>by
   rw [vM,hk] at e;have hne:t.f.n≠n:=(by intro z;rw [z] at e;simp at e);have he:fA p n=false:=(by cases h:fA p n with | false=>rfl | true=>rw [h] at e;simp at e);exact h1 n a (by omega) he) (fun n a b=>by
    rw [h2 n (by omega) (by omega),if_pos hk,nC _ _ (by omega)])
  have hx:(ev ρ g t).1=evG ρ G t:=by
   rw [kN,nP,q1];exact hρ _ _ _ _ _ (fun z=>by omega)
  refine⟨hx,fun z hz hz7=>?_⟩;rw [cM] at hz;rcases aBB.1 hz with e | e
  ·subst e;show G t.f.n=evG ρ G t;rw [<- hx,h2 t.f.n (by omega) (by omega),if_pos hk,uV]
  ·exact q2 z e hz7
 ·rw [if_neg hk] at h2 hks;obtain⟨q1,q2⟩:=hl t.ks 0 (c+0) g (fun _ h=>h) hks (fun n a b e=>by
   rw [vM] at e;have he:fA p n=false:=(by cases h:fA p n with | false=>rfl | true=>rw [h] at e;simp at e);exact h1 n a (by omega) he) (fun n a b=>by
    rw [h2 n (by omega) (by omega),if_neg hk])
  have hx:(ev ρ g t).1=evG ρ G t:=by
   rw [kN,nP,q1];refine hρ _ _ _ _ _ (fun z=>?_);obtain⟨b1,b2,b3⟩:=hd.2 z;simp only at b1 b2 b3;have:∀ (ks:List Tr) (i c:Nat) (g:Int->T),GpL c (pps t p i ks)->∀ n:Int,n<=c->(evs ρ g ks).2 n=g n:=by
    intro ks
    induction ks with
    | nil=>intro i c g _ n _;rw [cQ]
    | cons v vs ih3=>
     intro i c g hg n hn;rw [bM] at hg;rw [eN];show (evs ρ (ev ρ g v).2 vs).2 n=g n;rw [ih3 (i+1) _ _ hg.right n (by omega)];exact aG8 v _ c g hg.left n (.inl hn)
   rw [this t.ks 0 (c+0) g hks _ (by omega)];exact h1 _ b1 b2 b3
  refine⟨hx,fun z hz hz7=>?_⟩;rw [cM] at hz;rcases aBB.1 hz with e | e
  ·subst e;exact absurd hz7 hk
  ·exact q2 z e hz7
theorem bC9(hρ:tU ρ){t:Tr}(h:GpL 0 (pp [] t))(g:Int->T) :
  (ev ρ g t).1=evG ρ (ev ρ g t).2 t/\∀ z∈pp [] t,z.2.f.k=7->(ev ρ g t).2 z.2.f.n=evG ρ (ev ρ g t).2 z.2:=
 bV9 hρ _ t [] 0 g h (fun n a b _=>by omega) (fun n _ _=>rfl)
end
abbrev Zl:=El × Nat
def arP:Way->Int | []=>0 |(par,_) :: _=>par.f.k
def fiP:Way->Bool | []=>true |(_,i) :: _=>(i:Int)==0
def laP:Way->Bool | []=>true |(par,i) :: _=>(i:Int)==(par.ks.length:Int) - 1
def brP:Way->Bool | []=>true |(par,_) :: r=>if par.f.k=7\/par.f.k=6 then true else if par.f.k=5 then brP r else false
def zc(z:Zl):List Value:=z.1.2.f.cells ++ [.I ((z.1.1.length:Int)+1),.I (arP z.1.1),.bool (fiP z.1.1),.bool (laP z.1.1),.bool (brP z.1.1),.I (z.2:Int)]
theorem kY(z:Zl):(zc z).length=12:=by simp [zc,Fl.cells]
def dU(l:List Zl):List Value:=l.flatMap zc
theorem fG(z:Zl)(l:List Zl):dU (z :: l)=zc z ++ dU l:=by simp [dU]
theorem uP(a b:List Zl):dU (a ++ b)=dU a ++ dU b:=by simp [dU]
theorem kP:∀ (l:List Zl) (i j:Nat) (z:Zl),l[i]?=some z->j < 12->(dU l)[i * 12+j]?=(zc z)[j]?
 | y :: l,0,j,z,h,hj=>by
  simp at h;subst h;rw [fG,aBJ,m9,aAC (by rw [kY];exact hj)]
 | y :: l,i+1,j,z,h,hj=>by
  have ih:=kP l i j z (by simpa using h) hj;rw [fG,aAD (by rw [kY];omega),<- ih,kY]
  congr 1
  omega
theorem nS:∀ (l:List Zl) (i:Nat) (x:El) (a b:Nat),l[i]?=some (x,a)->(dU l).set (i * 12+11) (.I (b:Int))=dU (l.set i (x,b))
 | y :: l,0,x,a,b,h=>by
  simp at h;subst h;rw [i8,fG,fG,aBJ,m9,List.set_append_left _ _ (by rw [kY];omega)]
  congr 1
 | y :: l,i+1,x,a,b,h=>by
  have ih:=nS l i x a b (by simpa using h);rw [i7,fG,fG,List.set_append_right _ _ (by rw [kY];omega),<- ih,kY]
  congr 2
  omega
def tl(most:Nat):Nat->List El->List Zl
 | _,[]=>[]
 | k,x :: r=>(x,min (k+x.2.sz) most) :: tl most (k+1) r
theorem pW(most:Nat):∀ (a b:List El) (k:Nat),tl most k (a ++ b)=tl most k a ++ tl most (k+a.length) b
 | [],b,k=>rfl
 | x :: a,b,k=>by
  rw [aAF,tl,tl,pW most a b (k+1),aAF,o5]
  congr 3
  omega
theorem jJ(most:Nat):∀ (a:List El) (k:Nat),(tl most k a).length=a.length
 | [],k=>rfl
 | x :: a,k=>by rw [tl,o5,jJ most a,o5]
theorem aW6(most:Nat):∀ (a:List El) (k:Nat),(tl most k a).map (·.1)=a
 | [],k=>rfl
 | x :: a,k=>by rw [tl,aBP,aW6 most a]
def lI(most:Nat)(E:List Zl)(x:El):List Zl:=E ++ (tl most E.length (pp x.1 x.2)).take (most - E.length)
def cV(most:Nat)(E:List Zl)(p:Way)(t:Tr)(j:Nat):List Zl:=E ++ (((p,t),0) :: tl most (E.length+1) (pps t p 0 (t.ks.take j))).take (most - E.length)
theorem zL{most:Nat}{E:List Zl}{p:Way}{t:Tr}(h:E.length < most):cV most E p t 0=E ++ [((p,t),0)]:=by
 unfold cV;rw [v9,cP]
 congr 1
 rw [show most - E.length=(most - E.length - 1)+1 by omega,aBM];simp [tl]
theorem oT{most:Nat}{E:List Zl}{p:Way}{t:Tr}{j:Nat}(h:E.length < most):E.length < (cV most E p t j).length/\(cV most E p t j).length<=most/\(cV most E p t j).length=E.length+min (most - E.length) (1+(pps t p 0 (t.ks.take j)).length):=by
 have:(cV most E p t j).length=E.length+min (most - E.length) (1+(pps t p 0 (t.ks.take j)).length):=by
  unfold cV;rw [o4,aAA,o5,jJ]
  congr 2
  omega
 refine⟨?_,?_,this⟩
 ·rw [this];omega
 ·rw [this];omega
theorem mJ{most:Nat}{E:List Zl}{p:Way}{t:Tr}{j:Nat}(h:E.length < most):(cV most E p t j)[E.length]?=some ((p,t),0):=by
 unfold cV;rw [aAD lz9,Nat.sub_self,show most - E.length=(most - E.length - 1)+1 by omega,aBM]
 rfl
theorem aD4(most:Nat)(E:List Zl)(z:Zl)(A B:List El)(hf:E.length+(1+A.length) < most) :
  (E ++ (z :: tl most (E.length+1) A)) ++ (tl most (E.length+(1+A.length)) B).take (most - (E.length+(1+A.length)))=E ++ (z :: tl most (E.length+1) (A ++ B)).take (most - E.length):=by
 rw [pW,aAM,<- aAF]
 congr 1
 have hl:(z :: tl most (E.length+1) A).length=1+A.length:=by rw [o5,jJ];omega
 have h1:((z :: tl most (E.length+1) A) ++ tl most (E.length+1+A.length) B).take (most - E.length)=(z :: tl most (E.length+1) A) ++ (tl most (E.length+1+A.length) B).take (most - E.length - (1+A.length)):=by
  rw [List.take_append,n8 (by rw [hl];omega),hl]
 rw [h1,show E.length+1+A.length=E.length+(1+A.length) by omega,show most - E.length - (1+A.length)=most - (E.length+(1+A.length)) by omega]
theorem mI{most:Nat}{E:List Zl}{p:Way}{t u:Tr}{j:Nat}(h:E.length < most)(hu:t.ks[j]?=some u)(hl:(cV most E p t j).length < most):lI most (cV most E p t j) ((t,j) :: p,u)=cV most E p t (j+1):=by
 have hlen:=(oT (p:=p) (t:=t) (j:=j) h).2.2;have e1:cV most E p t j=E ++ (((p,t),0) :: tl most (E.length+1) (pps t p 0 (t.ks.take j))):=by
  unfold cV;rw [n8 (by rw [o5,jJ];omega)]
 have hfull:(cV most E p t j).length=E.length+(1+(pps t p 0 (t.ks.take j)).length):=by omega
 have e2:cV most E p t (j+1)=E ++ (((p,t),0) :: tl most (E.length+1) (pps t p 0 (t.ks.take j) ++ pp ((t,j) :: p) u)).take (most - E.length):=by
  unfold cV;rw [lG hu]
 rw [e2];unfold lI;rw [hfull,<- aD4 most E _ _ _ (by omega),<- e1]
theorem aR5{most:Nat}{E:List Zl}{p:Way}{t:Tr}{j:Nat}(h:E.length < most)(hl:¬ (cV most E p t j).length < most):cV most E p t j=cV most E p t t.ks.length:=by
 have hlen:=oT (p:=p) (t:=t) (j:=j) h;have hbig:most - E.length<=1+(pps t p 0 (t.ks.take j)).length:=by omega
 unfold cV
 congr 1
 have hp:pps t p 0 (t.ks.take j) <+: pps t p 0 (t.ks.take t.ks.length):=by
  rw [aBF];exact wU j
 obtain⟨r,hr⟩:=hp;rw [<- hr,pW,<- aAF,aCH (by rw [o5,jJ];omega)]
theorem oU{most:Nat}{E:List Zl}{p:Way}{t:Tr}(h:E.length < most):(cV most E p t t.ks.length).set E.length ((p,t),(cV most E p t t.ks.length).length)=lI most E (p,t):=by
 have hlen:=(oT (p:=p) (t:=t) (j:=t.ks.length) h).2.2;have hsz:1+(pps t p 0 (t.ks.take t.ks.length)).length=t.sz:=by
  have:=cT t p;rw [cM,o5] at this;rw [aBF];omega
 rw [hlen,hsz];unfold cV lI;rw [List.set_append_right _ _ lz9,Nat.sub_self,show most - E.length=(most - E.length - 1)+1 by omega,aBM,i8]
 congr 1
 show _=(tl most E.length (pp p t)).take _;rw [cM,tl,aBM,aBF]
 congr 2
 show _=min (E.length+t.sz) most;omega
theorem seg(t:Tr):∀ (p:Way) (j:Nat) (x:El),(pp p t)[j]?=some x->∃ rest,(pp p t).drop j=pp x.1 x.2 ++ rest:=by
 refine Tr.ind (P:=fun t=>∀ (p:Way) (j:Nat) (x:El),(pp p t)[j]?=some x->∃ rest,(pp p t).drop j=pp x.1 x.2 ++ rest) (fun t ih p j x h=>?_) t
 cases j with
 | zero=>
  rw [cM] at h;simp at h;subst h;exact⟨[],by simp⟩
 | succ j=>
  rw [cM] at h ⊢;rw [aAT] at h;rw [List.drop_succ_cons];have key:∀ (ks:List Tr) (i j:Nat),(∀ u∈ks,u∈t.ks)->(pps t p i ks)[j]?=some x->∃ rest,(pps t p i ks).drop j=pp x.1 x.2 ++ rest:=by
   intro ks
   induction ks with
   | nil=>intro i j _ h;rw [cP] at h;simp at h
   | cons u ks ihk=>
    intro i j hm h;rw [bM] at h ⊢;by_cases hj:j < (pp ((t,i) :: p) u).length
    ·rw [aAC hj] at h;obtain⟨rest,hr⟩:=ih u (hm u r9) _ _ _ h;refine⟨rest ++ pps t p (i+1) ks,?_⟩;rw [List.drop_append_of_le_length (by omega),hr,aAM]
    ·rw [aAD (by omega)] at h;obtain⟨rest,hr⟩:=ihk (i+1) _ (fun v hv=>hm v (r8 _ hv)) h;refine⟨rest,?_⟩;rw [List.drop_append,List.drop_eq_nil_of_le (by omega),aAO,hr]
  exact key t.ks 0 j (fun _ h=>h) h
theorem bJ4{t:Tr}{p:Way}{j:Nat}{x:El}(h:(pp p t)[j]?=some x):j+x.2.sz<=t.sz:=by
 obtain⟨rest,hr⟩:=seg t p j x h;have:=congrArg List.length hr;rw [aAS,o4,cT,cT] at this;have hj:=(m7.1 h).1;rw [cT] at hj;omega
theorem anc(t:Tr):∀ (p:Way) (i:Nat) (x:El) (par:Tr) (k:Nat) (r:Way),(pp p t)[i]?=some x->x.1=(par,k) :: r->i=0\/∃ j,j < i/\(pp p t)[j]?=some (r,par)/\i < j+par.sz:=by
 refine Tr.ind (P:=fun t=>∀ (p:Way) (i:Nat) (x:El) (par:Tr) (k:Nat) (r:Way),(pp p t)[i]?=some x->x.1=(par,k) :: r->i=0\/∃ j,j < i/\(pp p t)[j]?=some (r,par)/\i < j+par.sz) (fun t ih p i x par k r h hx=>?_) t
 cases i with
 | zero=>exact .inl rfl
 | succ i=>
  refine .inr ?_;have hil:=(m7.1 h).1;rw [cT] at hil;rw [cM] at h ⊢;rw [aAT] at h;have key:∀ (ks:List Tr) (m i:Nat),(∀ u∈ks,u∈t.ks)->(pps t p m ks)[i]?=some x->(par=t/\r=p)\/∃ j,j < i/\(pps t p m ks)[j]?=some (r,par)/\i < j+par.sz:=by
   intro ks
   induction ks with
   | nil=>intro m i _ h;rw [cP] at h;simp at h
   | cons u ks ihk=>
    intro m i hm h;rw [bM] at h ⊢;by_cases hi:i < (pp ((t,m) :: p) u).length
    ·rw [aAC hi] at h;rcases ih u (hm u r9) _ _ _ _ _ _ h hx with rfl | ⟨j,h1,h2,h3⟩
     ·rw [cM] at h;simp at h;subst h;injection hx with e1 e2;injection e1 with e1 _;exact .inl ⟨e1.symm,e2.symm⟩
     ·exact .inr ⟨j,h1,by rw [aAC (by omega)];exact h2,h3⟩
    ·rw [aAD (by omega)] at h;rcases ihk (m+1) _ (fun v hv=>hm v (r8 _ hv)) h with e | ⟨j,h1,h2,h3⟩
     ·exact .inl e
     ·exact .inr ⟨j+(pp ((t,m) :: p) u).length,by omega,by rw [aAD (by omega),aBT];exact h2,by omega⟩
  rcases key t.ks 0 i (fun _ h=>h) h with⟨rfl,rfl⟩ | ⟨j,h1,h2,h3⟩
  ·exact⟨0,by omega,rfl,by omega⟩
  ·exact⟨j+1,by omega,by rw [aAT];exact h2,by omega⟩
theorem bO2{t:Tr}:∀ (s:Way) (i:Nat) (x:El) (par:Tr) (k:Nat) (r:Way),(pp [] t)[i]?=some x->x.1=s ++ (par,k) :: r->∃ j,j < i/\(pp [] t)[j]?=some (r,par)/\i < j+par.sz
 | [],i,x,par,k,r,h,hx=>by
  rcases anc t [] i x par k r h hx with rfl | q
  ·rw [cM] at h;simp at h;subst h;cases hx
  ·exact q
 |(a,b) :: s,i,x,par,k,r,h,hx=>by
  have h0:i≠0:=fun e=>by
   subst e;rw [cM] at h;simp at h;subst h;cases hx
  rcases anc t [] i x a b (s ++ (par,k) :: r) h hx with rfl | ⟨j1,h1,h2,h3⟩
  ·exact absurd rfl h0
  ·obtain⟨j,h4,h5,h6⟩:=bO2 s j1 _ par k r h2 rfl;refine⟨j,by omega,h5,?_⟩;obtain⟨rest,hr⟩:=seg t [] j _ h5;have h7:(pp r par)[j1 - j]?=some (s ++ (par,k) :: r,a):=by
    have e:((pp [] t).drop j)[j1 - j]?=some (s ++ (par,k) :: r,a):=(by rw [aBZ,show j+(j1 - j)=j1 by omega];exact h2);rw [hr,aAC (by rw [cT];show j1 - j < par.sz;omega)] at e;exact e
   have:=bJ4 h7;simp only at this;omega
theorem bQ5{t:Tr}{i j:Nat}{x y:El}(hx:(pp [] t)[i]?=some x)(hy:(pp [] t)[j]?=some y)(h1:j < i)(h2:i < j+y.2.sz):∃ s k,x.1=s ++ (y.2,k) :: y.1:=by
 obtain⟨rest,hr⟩:=seg t [] j y hy;have e:((pp [] t).drop j)[i - j]?=some x:=by rw [aBZ,show j+(i - j)=i by omega];exact hx
 rw [hr,aAC (by rw [cT];omega),cM,show i - j=(i - j - 1)+1 by omega,aAT] at e;have hm:=n7 e;have:∀ (ks:List Tr) (m:Nat),x∈pps y.2 y.1 m ks->∃ s k,x.1=s ++ (y.2,k) :: y.1:=by
  intro ks
  induction ks with
  | nil=>intro m h;rw [cP] at h;cases h
  | cons u ks ih=>
   intro m h;rw [bM] at h;rcases o3.1 h with h | h
   ·have hw:=bT8 ((y.2,m) :: y.1) u [];rw [aAO] at hw;rw [hw] at h;obtain⟨z,-,rfl⟩:=aAI.1 h;exact⟨z.1,m,rfl⟩
   ·exact ih (m+1) h
 exact this _ _ hm
def iA:Nat->List El->List Nat
 | _,[]=>[]
 | k,x :: r=>if x.2.f.k=7 then k :: iA (k+1) r else iA (k+1) r
theorem lL:∀ (k:Nat) (a b:List El),iA k (a ++ b)=iA k a ++ iA (k+a.length) b
 | k,[],b=>by simp [iA]
 | k,x :: a,b=>by
  rw [aAF,iA,iA,lL (k+1) a b,o5,show k+1+a.length=k+(a.length+1) by omega]
  split <;> rfl
theorem oZ:∀ (k:Nat) (a:List El),(iA k a).length=cD a
 | k,[]=>rfl
 | k,x :: a=>by
  rw [iA];simp only [cD]
  split
  ·rw [o5,oZ (k+1) a];omega
  ·rw [oZ (k+1) a];omega
theorem vJ(a:List El)(x:El):iA 0 (a ++ [x])=iA 0 a ++ (if x.2.f.k=7 then [a.length] else []):=by
 rw [lL,m9]
 congr 1
theorem bM1{a:List El}{j:Nat}{y:El}(h:a[j]?=some y)(hk:y.2.f.k=7):(iA 0 a)[cD (a.take j)]?=some j:=by
 have hj:=(m7.1 h).1;have e:a=a.take j ++ y :: a.drop (j+1):=by
  have:=aBX j a;rw [aBA hj,(m7.1 h).2] at this;exact this.symm
 have hl:(a.take j).length=j:=by rw [aAA];omega
 conv=>lhs;arg 1;rw [e]
 rw [lL,<- oZ 0 (a.take j),aAD lz9,Nat.sub_self,iA,if_pos hk,hl,m9]
 rfl
theorem tB:∀ (a:List El) (k m j:Nat),(iA k a)[m]?=some j->k<=j/\∃ y,a[j - k]?=some y/\y.2.f.k=7/\cD (a.take (j - k))=m
 | [],k,m,j,h=>by simp [iA] at h
 | x :: a,k,m,j,h=>by
  rw [iA] at h;by_cases hk:x.2.f.k=7
  ·rw [if_pos hk] at h
   cases m with
   | zero=>
    simp at h;subst h;refine⟨t9 _,x,?_,hk,?_⟩
    ·rw [Nat.sub_self];rfl
    ·rw [Nat.sub_self];rfl
   | succ m=>
    rw [aAT] at h;obtain⟨h1,y,h2,h3,h4⟩:=tB a (k+1) m j h;refine⟨by omega,y,?_,h3,?_⟩
    ·rw [show j - k=(j - (k+1))+1 by omega,aAT];exact h2
    ·rw [show j - k=(j - (k+1))+1 by omega,aBM,cD,if_pos hk,h4];omega
  ·rw [if_neg hk] at h;obtain⟨h1,y,h2,h3,h4⟩:=tB a (k+1) m j h;refine⟨by omega,y,?_,h3,?_⟩
   ·rw [show j - k=(j - (k+1))+1 by omega,aAT];exact h2
   ·rw [show j - k=(j - (k+1))+1 by omega,aBM,cD,if_neg hk,h4];omega
theorem bY0{t:Tr}{pre:List El}{x:El}{N:Nat}{j:Nat}(hp:pre ++ [x] <+: pp [] t)(hnum:∀ (j:Nat) (y:El),pre[j]?=some y->y.2.f.k=7->y.2.f.n=(cD (pre.take j):Int)+1)(hi:pre.length < 2000)(hj:(iA 0 pre)[N]?=some j) :
  ∃ y,pre[j]?=some y/\(fA x.1 ((N:Int)+1)=false ↔ min (j+y.2.sz) 2001<=pre.length):=by
 obtain⟨r,hr⟩:=hp;obtain⟨-,y,h2,h3,h4⟩:=tB pre 0 N j hj;rw [Nat.sub_zero] at h2 h4;have hjl:=(m7.1 h2).1;have hx:(pp [] t)[pre.length]?=some x:=by rw [<- hr,aAM,aAD lz9,Nat.sub_self];rfl
 have hin:∀ (k:Nat) (z:El),k < pre.length->(pp [] t)[k]?=some z->pre[k]?=some z:=fun k z hk hz=>by
  rw [<- hr,aAM,aAC hk] at hz;exact hz
 have hy:(pp [] t)[j]?=some y:=by rw [<- hr,aAM,aAC hjl];exact h2
 refine⟨y,h2,?_⟩;have hny:=hnum j y h2 h3;rw [h4] at hny;constructor
 ·intro he;rcases Nat.lt_or_ge pre.length (min (j+y.2.sz) 2001) with q | q
  ·exfalso
   obtain⟨s,k,e⟩:=bQ5 hx hy hjl (by omega);have:fA x.1 ((N:Int)+1)=true:=by
    unfold fA;rw [e,List.any_append,List.any_cons];simp [h3,hny]
   rw [he] at this;cases this
  ·exact q
 ·intro hm
  cases he:fA x.1 ((N:Int)+1) with
  | false=>rfl
  | true=>
   exfalso
   unfold fA at he;rw [List.any_eq_true] at he;obtain⟨⟨par,k⟩,hmem,hh⟩:=he;simp at hh;obtain⟨s,r',e⟩:=List.append_of_mem hmem;obtain⟨j',a1,a2,a3⟩:=bO2 s pre.length x par k r' hx e;have b1:=hin j' _ a1 a2;have b2:=hnum j' _ b1 hh.1;have b3:cD (pre.take j')=N:=by
    have:(N:Int)+1=(cD (pre.take j'):Int)+1:=(by rw [<- b2];exact hh.2.symm);omega
   have b4:=bM1 b1 hh.1;rw [b3,hj] at b4;injection b4 with b4;subst b4;rw [h2] at b1;injection b1 with b1;subst b1;simp only at hm;omega
theorem kH{c f:Bool}{p:Way}{t:Tr}{ah gr:Nat}(h:cF c f p t ah gr=0):eJ p t.f.k=true/\bD c f ((gr:Int)+1) t.f/\iO t.f.k t.ks.length=true:=by
 unfold cF at h
 split at h
 ·cases h
 ·split at h
  ·cases h
  ·split at h
   ·cases h
   ·rename_i n3
    exact Classical.not_not.1 n3
def mB(p:Way)(k:Int):Bool:=
 if arP p=5 then (if k=3 then brP p && fiP p else if k=4 then brP p && laP p else cA k)
 else if arP p=9 then cA k else if arP p=6 then k != 6 else true
def dA(c f:Bool)(t:Tr):Prop:=
 if t.f.k=1\/t.f.k=3\/t.f.k=4 then t.f.n=0/\t.f.mn=0/\t.f.mx=0/\t.f.rs.length=0/\t.ks.length=0
 else if t.f.k=2 then nD c f t.f.rs/\t.f.n=0/\t.f.mn=0/\t.f.mx=0/\t.ks.length=0
 else if t.f.k=5\/t.f.k=6 then 1 < t.ks.length/\t.f.n=0/\t.f.mn=0/\t.f.mx=0/\t.f.rs.length=0
 else if t.f.k=7 then t.ks.length=1/\t.f.mn=0/\t.f.mx=0/\t.f.rs.length=0
 else if t.f.k=8 then (1<=t.f.n/\t.f.n<=9)/\t.f.mn=0/\t.f.mx=0/\t.f.rs.length=0/\t.ks.length=0
 else if t.f.k=9 then fI t.f.mn t.f.mx=true/\t.ks.length=1/\t.f.n=0/\t.f.rs.length=0
 else False
theorem jK{c f:Bool}{t:Tr}{g:Int}:(eL t.f.k=true/\bD c f g t.f/\iO t.f.k t.ks.length=true) ↔ (dA c f t/\(t.f.k=7->t.f.n=g)):=by
 obtain⟨F,ks⟩:=t;obtain⟨k,n,mn,mx,rs,rq,rc,kq,kl,kc⟩:=F;simp only [Tr.f,Tr.ks];unfold dA bD iO eL;simp only [Tr.f,Tr.ks];generalize nD c f rs=S;generalize rs.length=rl;generalize ks.length=kk;by_cases h1:k=1
 ·subst h1;simp;constructor <;> (intro h;omega)
 by_cases h3:k=3
 ·subst h3;simp;constructor <;> (intro h;omega)
 by_cases h4:k=4
 ·subst h4;simp;constructor <;> (intro h;omega)
 by_cases h2:k=2
 ·subst h2;simp;constructor
  ·rintro ⟨⟨a,b,c,d⟩,e⟩;exact⟨a,b,c,d,e⟩
  ·rintro ⟨a,b,c,d,e⟩;exact⟨⟨a,b,c,d⟩,e⟩
 by_cases h5:k=5
 ·subst h5;simp;constructor <;> (intro h;omega)
 by_cases h6:k=6
 ·subst h6;simp;constructor <;> (intro h;omega)
 by_cases h7:k=7
 ·subst h7;simp;constructor <;> (intro h;omega)
 by_cases h8:k=8
 ·subst h8;simp;constructor <;> (intro h;omega)
 by_cases h9:k=9
 ·subst h9;simp;constructor
  ·rintro ⟨⟨a,b,c⟩,e⟩;exact⟨a,e,b,c⟩
  ·rintro ⟨a,e,b,c⟩;exact⟨⟨a,b,c⟩,e⟩
 ·simp [h1,h2,h3,h4,h5,h6,h7,h8,h9];intro a b;omega
theorem sH{p:Way}{k:Int}(hbr:∀ par i r,p=(par,i) :: r->par.f.k=5->brP r=true)(hk:eL k=true):eJ p k=mB p k:=by
 cases p with
 | nil=>
  unfold eJ mB;simp [arP,hk]
 | cons y r=>
  obtain⟨par,i⟩:=y;have e:mB ((par,i) :: r) k=(if par.f.k=5 then (if k=3 then brP ((par,i) :: r) && ((i:Int)==0) else if k=4 then brP ((par,i) :: r) && ((i:Int)==(par.ks.length:Int) - 1) else cA k) else if par.f.k=9 then cA k else if par.f.k=6 then k != 6 else true):=rfl;rw [e];unfold eJ eK;simp only;by_cases h5:par.f.k=5
  ·rw [if_pos h5,if_pos h5];have hb:brP ((par,i) :: r)=true:=by
    have:=hbr par i r rfl h5;simp [brP,h5,this]
   rw [hb,aCN,aCN];by_cases k3:k=3
   ·subst k3;rw [if_pos rfl];simp [cA]
   ·rw [if_neg k3];by_cases k4:k=4
    ·subst k4;rw [if_pos rfl];simp [cA]
    ·rw [if_neg k4];have e3:(k==3)=false:=(by simpa using k3);have e4:(k==4)=false:=(by simpa using k4);rw [e3,e4,Bool.false_and,Bool.false_and,Bool.or_false,Bool.or_false]
  ·rw [if_neg h5,if_neg h5];by_cases h9:par.f.k=9
   ·rw [if_pos h9,if_pos h9]
   ·rw [if_neg h9,if_neg h9];by_cases h6:par.f.k=6
    ·rw [if_pos h6,if_pos h6,hk,aCN]
    ·rw [if_neg h6,if_neg h6,hk]
theorem bY4{c f:Bool}{t:Tr}{pre:List El}{x:El}(hp:pre ++ [x] <+: pp [] t)(hr:∀ (j:Nat) (y:El),pre[j]?=some y->cF c f y.1 y.2 j (cD (pre.take j))=0):∀ par i r,x.1=(par,i) :: r->par.f.k=5->brP r=true:=by
 intro par i r hx h5;obtain⟨rest,he⟩:=hp;have hxi:(pp [] t)[pre.length]?=some x:=by rw [<- he,aAM,aAD lz9,Nat.sub_self];rfl
 have hin:∀ (k:Nat) (z:El),k < pre.length->(pp [] t)[k]?=some z->pre[k]?=some z:=fun k z hk hz=>by
  rw [<- he,aAM,aAC hk] at hz;exact hz
 cases r with
 | nil=>rfl
 | cons y r'=>
  obtain⟨qq,m⟩:=y;obtain⟨j,a1,a2,a3⟩:=bO2 [] pre.length x par i ((qq,m) :: r') hxi hx;have l1:=(kH (hr j _ (hin j _ a1 a2))).1;obtain⟨j0,b1,b2,b3⟩:=bO2 [] j _ qq m r' a2 rfl;have l2:=(kH (hr j0 _ (hin j0 _ (by omega) b2))).2.2;have hks:1<=qq.ks.length:=by
   have h1:2<=qq.sz:=by omega
   rw [fE] at h1
   cases hk:qq.ks with
   | nil=>rw [hk,eP] at h1;omega
   | cons a l=>simp
  have l1':eK qq.f.k (m:Int) qq.ks.length 5=true:=by
   have:eJ ((qq,m) :: r') par.f.k=true:=l1;rw [h5] at this;exact this
  have l2':iO qq.f.k qq.ks.length=true:=l2;unfold eK at l1';simp only [brP];by_cases k5:qq.f.k=5
  ·rw [if_pos k5] at l1';simp [cA] at l1'
  ·rw [if_neg k5] at l1';by_cases k9:qq.f.k=9
   ·rw [if_pos k9] at l1';simp [cA] at l1'
   ·by_cases k67:qq.f.k=7\/qq.f.k=6
    ·rw [if_pos k67]
    ·exfalso
     unfold iO at l2';rw [if_neg (by omega),if_neg (by omega)] at l2';have h0:=eq_of_beq l2';omega
def bT(c f:Bool)(p:Way)(t:Tr):Prop:=mB p t.f.k=true/\dA c f t
theorem sE{c f:Bool}{t:Tr}(h:dA c f t):eL t.f.k=true:=(jK (g:=t.f.n)).2 ⟨h,fun _=>rfl⟩ |>.1
theorem aG6{c f:Bool}{p:Way}{t:Tr}{g:Int}(hbr:∀ par i r,p=(par,i) :: r->par.f.k=5->brP r=true):(eJ p t.f.k=true/\bD c f g t.f/\iO t.f.k t.ks.length=true) ↔ (bT c f p t/\(t.f.k=7->t.f.n=g)):=by
 constructor
 ·rintro ⟨h1,h2,h3⟩;have hk:eL t.f.k=true:=by
   cases p with
   | nil=>exact h1
   | cons y r=>exact sI h1
  have:=jK.1 ⟨hk,h2,h3⟩;exact⟨⟨by rw [<- sH hbr hk];exact h1,this.1⟩,this.2⟩
 ·rintro ⟨⟨h1,h2⟩,h3⟩;have hk:=sE h2;have:=jK.2 ⟨h2,h3⟩;exact⟨by rw [sH hbr hk];exact h1,this.2⟩
def NP(c o:Bool)(t:Tr):Prop:=dA c o t/\(t.f.k=7->1<=t.f.n/\t.f.n<=30)
theorem NP.wf{c o:Bool}{t:Tr}(h:NP c o t)(hk:t.f.k=7):(Lit.int .i64 t.f.n).wf=true:=by
 have:=h.2 hk;simp [Lit.wf,IntKind.min,IntKind.max,IntKind.signed,IntKind.bits];omega
theorem tE{P:Tr->Prop}(t:Tr):∀ p,(∀ z∈pp p t,P z.2)->bK P t:=by
 refine Tr.ind (P:=fun t=>∀ p,(∀ z∈pp p t,P z.2)->bK P t) (fun t ih p h=>?_) t;rw [cM] at h;refine(aQ t).2 ⟨h (p,t) (r9 ..),(bS _).2 ?_⟩;have:∀ (ks:List Tr) (i:Nat),(∀ u∈ks,u∈t.ks)->(∀ z∈pps t p i ks,P z.2)->∀ u∈ks,bK P u:=by
  intro ks
  induction ks with
  | nil=>intro i _ _ u hu;cases hu
  | cons v vs ih2=>
   intro i hs hz u hu;rw [bM] at hz;rcases aBB.1 hu with e | e
   ·subst e;exact ih u (hs u (r9 ..)) _ (fun z q=>hz z (o3.2 (.inl q)))
   ·exact ih2 (i+1) (fun x hx=>hs x (r8 _ hx)) (fun z q=>hz z (o3.2 (.inr q))) u e
 exact this t.ks 0 (fun _ h=>h) (fun z hz=>h z (r8 _ hz))
theorem aW9{p:Way}{k:Int}(h:eJ p k=true):eL k=true:=by
 unfold eJ at h
 split at h
 ·exact h
 ·exact sI h
theorem eW{c o:Bool}{t:Tr}(h:aW c o 0 0 (pp [] t)=0):bK (NP c o) t:=by
 refine tE t [] fun z hz=>?_;obtain⟨pre,post,e⟩:=List.append_of_mem hz;have q:=mE _ 0 0 h pre z post e;obtain⟨h1,h2,h3⟩:=kH q;have:=(jK (g:=((0+cD pre:Nat):Int)+1)).1 ⟨aW9 h1,by simpa using h2,h3⟩;refine⟨this.1,fun hk=>?_⟩;have g:=zJ q hk;omega
theorem jM{c o:Bool}{t:Tr}(h:aW c o 0 0 (pp [] t)=0):t.sz<=2000:=by
 rw [<- cT t []];exact mD h
theorem aP5{c o:Bool}{t:Tr}(h:aW c o 0 0 (pp [] t)=0):GpL 0 (pp [] t):=by
 refine aY4 h fun x hx hk=>?_;have:=(((aQ x.2).1 (gN t [] (eW h) x hx)).1).1;unfold dA at this;rw [hk] at this;simp at this;exact this.1.1
section
open Go Go.RowKit Go.Shelf
attribute [local go_sem] Oper.semAt_some
def bks(L:List El):List Int:=L.flatMap fun x=>if x.2.f.k=8 then [x.2.f.n] else []
theorem tM(L:List El)(x:El):bks (L ++ [x])=bks L ++ (if x.2.f.k=8 then [x.2.f.n] else []):=by simp [bks]
theorem aN0(L:List El):(bks L).length<=L.length:=by
 induction L with
 | nil=>simp [bks]
 | cons x L ih=>
  rw [show bks (x :: L)=(if x.2.f.k=8 then [x.2.f.n] else []) ++ bks L from rfl,o4]
  split <;> simp <;> omega
def usd(t:Tr):List Int:=Lib.compact (srt (bks (pp [] t)))
structure UI(w:World)(t:Tr)(bl:Nat)(pre:List (El × Fl))(V:World):Prop where
 ls:∃ (q:Option Addr) (c:Nat),V.heap[bl]?=some (.cells #[.slice q (bks (pre.map (·.1))).length c] 44 (0,0))/\tS w.heap.size V q c (bks (pre.map (·.1)))
 pfx:pre.map (·.1) <+: (pp [] t).take 2000
 bel:wBl w V
theorem aZ3{V V':World}{row:Option Nat}{B b:Nat}{e:TypeId}{size n:Nat}{v:Value}{xs:List Value}(h:V.ownsRow b e size v n xs)(hg:V.grownBy V' row)(hr:∀ r,row=some r->B<=r/\∃ o:Obj,V.heap[r]?=some o/\o.isCells=false):V'.ownsRow b e size v n xs:=by
 refine⟨h.1,?_⟩;rcases h.2 with z | ⟨g,cap,cur,z1,z2,z3,z4⟩
 ·exact .inl z
 ·exact .inr ⟨g,cap,cur,z1,z2,cU hg hr z3,z4⟩
theorem UI.row{w:World}{t:Tr}{bl B:Nat}{pre:List (El × Fl)}{V V':World}{row:Option Nat}(h:UI w t bl pre V)(hn:w.heap.size<=B)(hg:V.grownBy V' row)(hr:∀ r,row=some r->B<=r/\∃ o:Obj,V.heap[r]?=some o/\o.isCells=false):UI w t bl pre V':=by
 obtain⟨⟨q,c,h1,h2⟩,h3,h4⟩:=h;exact⟨⟨q,c,cU hg hr h1,aZ3 h2 hg hr⟩,h3,mQ h4 lz9 hn hg hr⟩
theorem UI.len{w:World}{t:Tr}{bl:Nat}{pre:List (El × Fl)}{V:World}(h:UI w t bl pre V):pre.length<=2000:=by
 have:=h.pfx.length_le;rw [aAE,aAA] at this;omega
theorem bQ9{w V w6:World}{t:Tr}{B bl:Nat}{pre:List (El × Fl)}{x:El × Fl}{V0:World}{q q6:Option Addr}{c c6:Nat}{ob:Obj}(hn:w.heap.size<=bl)(hblB:bl < B)(hk8:x.1.2.f.k=8)
  (h2:V.heap[bl]?=some (.cells #[.slice q (bks (pre.map (·.1))).length c] 44 (0,0))) (h3:tS w.heap.size V q c (bks (pre.map (·.1)))) (hpfx:(pre ++ [x]).map (·.1) <+: (pp [] t).take 2000) (hbel:wBl w V) (hk0:KXi B x V0 V)
  (o6:w6.ownsRow w.heap.size 3 1 (.slice q6 ((bks (pre.map (·.1))).length+1) c6) ((bks (pre.map (·.1))).length+1) ((bks (pre.map (·.1))).map (Value.int .i64) ++ [.I x.1.2.f.n])) (hg:(V.alloc ob).grownBy w6 (Value.slice q (bks (pre.map (·.1))).length c).ownBlock) :
  KeepsFrom B V (w6.setCell ⟨bl,0,none⟩ (.slice q6 ((bks (pre.map (·.1))).length+1) c6))/\KXi B x V0 (w6.setCell ⟨bl,0,none⟩ (.slice q6 ((bks (pre.map (·.1))).length+1) c6))/\UI w t bl (pre ++ [x]) (w6.setCell ⟨bl,0,none⟩ (.slice q6 ((bks (pre.map (·.1))).length+1) c6)):=by
 have F6:Fr (fun z=>(Value.slice q (bks (pre.map (·.1))).length c).ownBlock=some z) V w6:=((Fr.refl _ V).alloc ob).grown hg fun k hk=>hk;have FV:Fr (fun z=>z=bl\/(Value.slice q (bks (pre.map (·.1))).length c).ownBlock=some z) V (w6.setCell ⟨bl,0,none⟩ (.slice q6 ((bks (pre.map (·.1))).length+1) c6)):=(F6.mono fun k hk=>.inr hk).setCell (p:=⟨bl,0,none⟩) (.inl rfl) _;have lo:∀ k,(k=bl\/(Value.slice q (bks (pre.map (·.1))).length c).ownBlock=some k)->w.heap.size<=k:=fun k hk=>by
  rcases hk with rfl | hk
  ·exact hn
  ·exact(aF h3 hk).1
 have bl6:w6.heap[bl]?=some (.cells #[.slice q (bks (pre.map (·.1))).length c] 44 (0,0)):=lN F6 h2 (fun hk=>aO h3 h2 (by decide) hk);have bl8:=aN bl6 0 (.slice q6 ((bks (pre.map (·.1))).length+1) c6);have hbk:bks ((pre ++ [x]).map (·.1))=bks (pre.map (·.1)) ++ [x.1.2.f.n]:=by rw [aBS,aBP,aCE,tM,if_pos hk8]
 refine⟨⟨FV.size,fun k o hk ho hc=>(FV.block k (aB ho) fun hs=>?_).trans ho⟩,⟨m8 hk0.size FV.size,fun k cur ty fr hk ht hc=>?_⟩,⟨⟨q6,c6,?_,?_⟩,hpfx,hbel.trans (FV.below (by have:=hbel.size;omega) lo)⟩⟩
 ·rcases hs with rfl | hs
  ·rw [h2] at ho;cases ho;cases hc
  ·obtain⟨_,_,cur,q1⟩:=aF h3 hs;rw [q1] at ho;cases ho;cases hc
 ·have hv:=hk0.same k cur ty fr hk ht hc;refine lN FV hv fun hs=>?_;rcases hs with rfl | hs
  ·have:=hk.1;omega
  ·obtain⟨_,_,cur,q1⟩:=aF h3 hs;rw [q1] at hv;cases hv;exact ht rfl
 ·rw [hbk,o4];exact bl8
 ·unfold tS;rw [hbk,o4,aBS];exact aH o6 ((Fr.refl (fun z=>z=bl) w6).setCell (p:=⟨bl,0,none⟩) rfl _) fun k hk e=>by subst e;exact aO o6 bl6 (by decide) hk
end
section
open Go Go.RowKit Go.Shelf
attribute [local go_sem] Oper.semAt_some
def UsIs(w:World)(L:List Int)(e:Ending)(w':World):Prop:=∃ (q:Option Addr) (c:Nat),e=.returned (.slice q L.length c)/\tS w.heap.size w' q c L/\wBl w w'
theorem aN1{w V V':World}{q:Option Addr}{c:Nat}{zs:List Int}(hb:wBl w V)(h:tS w.heap.size V q c zs)(hg:V.grownBy V' (Value.slice q zs.length c).ownBlock):wBl w V':=
 hb.trans ⟨hg.os,hg.tape,hg.output,hg.size,fun k hk=>hg.block k (by have:=hb.size;omega) (fun e=>by have:=(aF h e.symm).1;omega)⟩
theorem bH7(n:Nat)(hn:4<=n){w:World}{t:Tr}(hta:TB w t)(hlen:(pp [] t).length<=2000) :
  CallsIn Fence.wide n Tryz.prog 40 #[.agg (nDf t.f)] w (UsIs w (usd t)):=by
 have hfn:∀ f,Fence.wide.fn f:=fun _=>trivial;refine callsIn_of_wp_marks Tryz.func40 rfl trivial ?_ rfl;simp only [Tryz.ntmps40,aBK,o5,List.length_nil,Nat.reduceAdd,Nat.reduceSub,aBQ,aBV,aCA,aBW,aAO,aAF];refine wpIn_wide.2 ?_;have HTA:=aC hta;have HLEN:=aC hlen;have B1:Hid (wBl w ((w.alloc (.cells (nDf t.f) 25)).alloc (.cells #[.slice none 0 0] 44))):=(bz9).alloc (by simp) _;have X1:Hid (BoxN ((w.alloc (.cells (nDf t.f) 25)).alloc (.cells #[.slice none 0 0] 44)) w.heap.size t.f):=(Below.heap_alloc _ _ _ (by simp)).trans (aE w _);have X2:Hid (((w.alloc (.cells (nDf t.f) 25)).alloc (.cells #[.slice none 0 0] 44)).heap[w.heap.size+1]?=some (.cells #[.slice none 0 0] 44 (0,0))):=aK _ (by simp only [f4]);clear hta hlen;go_upto_region 2 with fail
 generalize ((w.alloc (.cells (nDf t.f) 25)).alloc (.cells #[.slice none 0 0] 44))=w3 at B1 X1 X2 ⊢;obtain⟨z0,z1,z2,z3,z4,z5⟩:=X1.o.six;simp only [m9] at z1 z2 z3 z4 z5;go_wp2_with (go_at_call 78;(with_reducible refine(bY6 _ _).mono ?_);rintro e w7 ⟨rfl,rfl⟩)
 have K5:wBl w3 (w3.alloc (.cells (nDf t.f) 25)):=bz9;have L5:BoxN (w3.alloc (.cells (nDf t.f) 25)) w3.heap.size t.f:=aE w3 _;have M5:=(K5.block _ (aB X2.o)).trans X2.o;have B5:=aJ B1.o K5 lz9;have HX:=aC (⟨L5,M5,B5⟩:_/\_/\_);have hlb5:w.heap.size+1 < (w3.alloc (.cells (nDf t.f) 25)).heap.size:=aB M5;clear L5 M5 B5 K5;generalize (w3.alloc (.cells (nDf t.f) 25))=w5 at HX hlb5 ⊢;generalize w3.heap.size=bq at HX ⊢;obtain⟨L5,M5,B5⟩:=HX.o;have HLB:=aC hlb5;clear HX hlb5 z0 z1 z2 z3 z4 z5 X1 X2 B1;refine(wpIn_wide (n:=n)).1 ?_;refine aY6 hn 8 9 bq rfl rfl L5 HTA.o (CK.of_below B5) (UI w t (w.heap.size+1)) (fun _ _ _=>False) (fun pre A A' row h hg hr=>h.row B5.size hg hr) (fun _ _ _ _ _ h _ _=>h) (fun pre W h=>by have:=h.len;omega) ⟨⟨none,0,M5,aBG _ _ _ _⟩,aCM,B5⟩
  (fun s y x a' W=>∃ bx,BoxN W bx x.2/\a'={ y with tmps:=y.tmps.setIfInBounds 5 (.pointer (some ⟨bx,0,none⟩)) }) ?_ ?_ ?_ ?_ (fun _ _ _ _ _ _ h _=>h.elim)
 ·rintro s y x a' _ A A' row ⟨bx,h1,h2⟩ hg hr;exact⟨bx,cU hg hr h1,h2⟩
 ·intro l pre x V K _ _ hK;simp only [nE]
  gi_wp2
  exact hK _ _ (bz9) ⟨_,aE V _,rfl⟩
 ·rintro l pre x a' V0 V h ht ⟨bx,hbx,rfl⟩ hk0 hv0;have hlen:=h.len;have hbl:=aN0 (pre.map (·.1));rw [aAE] at hbl;have okk:x.2.k=x.1.2.f.k:=ht.ok.k;have okn:x.2.n=x.1.2.f.n:=ht.ok.n;obtain⟨n0,n1,n2,n3,n4,n5⟩:=hbx.six;simp only [m9] at n1 n2 n3 n4 n5;obtain⟨q,c,h2,h3⟩:=h.ls;have HH:=aC h;have HT:=aC ht;have HK0:=aC hk0;have H2:=aC h2;have H3:=aC h3;have k0:=aA h2 (i:=0) rfl;have hVs:w.heap.size<=V.heap.size:=h.bel.size;simp only [nE];by_cases hk8:x.1.2.f.k=8
  ·have e8:(x.2.k==8)=true:=by rw [okk,hk8];rfl
   have HK8:=aC hk8;rw [okn] at n1;clear h ht hk0 h2 h3 hbx okk okn hk8 n2 n3 n4 n5;obtain⟨t0,hi,hz0,hz1,hz2⟩:=aV aX4;have Y7:Hid ((V.alloc (.cells #[.I x.1.2.f.n] 3)).ownsRow w.heap.size 3 1 (.slice q (bks (pre.map (·.1))).length c) (bks (pre.map (·.1))).length ((bks (pre.map (·.1))).map (Value.int .i64))):=o8 H3.o _;have HNEW:Hid (∀ j u,([.I x.1.2.f.n]:List Value)[j]?=some u->(V.alloc (.cells #[.I x.1.2.f.n] 3)).cell? ((⟨V.heap.size,0,none⟩:Addr).add j)=some u):=bI V [.I x.1.2.f.n] _;have HB8:Hid (w.heap.size<=(V.alloc (.cells #[.I x.1.2.f.n] 3)).heap.size):=m8 hVs (by simp);have HK9:Hid ((V.alloc (.cells #[.I x.1.2.f.n] 3)).heap[w.heap.size+1]?=some (.cells #[.slice q (bks (pre.map (·.1))).length c] 44 (0,0))):=(Below.heap_alloc _ _ _ (aB H2.o)).trans H2.o
   gi_wp2_with (gi_at_builtin;refine wpListIn_append_own_at _ rfl _ _ 44 rfl w.heap.size 3 t0 (.I 0) 1 8 wF hi hz0 hz1 hz2 rfl (by decide) (.slice q (bks (pre.map (·.1))).length c) (bks (pre.map (·.1))).length ((bks (pre.map (·.1))).map (Value.int .i64)) rfl Y7.o ⟨V.heap.size,0,none⟩ 1 1 [.I x.1.2.f.n] rfl rfl HNEW.o (by simp [Value.oneCell']) (by unfold maxLen;omega) (by omega) HB8.o ?_;intro v' w6 hown' hgrow _ _;obtain⟨q6,c6,rfl⟩:=aR hown';have O6:=aC hown';have G6:=aC hgrow;have K9:w6.heap[w.heap.size+1]?=some (.cells #[.slice q (bks (pre.map (·.1))).length c] 44 (0,0)):=(hgrow.block _ (aB HK9.o) (fun e=>aO Y7.o HK9.o (by decide) e.symm)).trans HK9.o;have k9:=aA K9 (i:=0) rfl;have f9:=aG K9 0;clear hown' hgrow)
   exact bQ9 (Nat.le_succ _) HLB.o HK8.o H2.o H3.o HT.o.pfx HH.o.bel HK0.o O6.o G6.o
  ·have e8:(x.2.k==8)=false:=by rw [okk];simpa using hk8
   have HK8:=aC hk8;clear h ht hk0 h2 h3 hbx okk okn hk8 n1 n2 n3 n4 n5
   gi_wp2
   refine⟨KeepsFrom.refl _ _,HK0.o,⟨⟨q,c,?_,?_⟩,HT.o.pfx,HH.o.bel⟩⟩
   ·rw [aBS,aBP,aCE,tM,if_neg HK8.o,aBR];exact H2.o
   ·rw [aBS,aBP,aCE,tM,if_neg HK8.o,aBR];exact H3.o
 ·rintro D xs V hD hxs h hK;have he:xs.map (·.1)=pp [] t:=by rw [hxs,n8 HLEN.o]
  obtain⟨q,c,h2,h3⟩:=h.ls;rw [he] at h2 h3;have hbl:=aN0 (pp [] t);have HL:Hid ((bks (pp [] t)).length<=2000):=m8 hbl HLEN.o;obtain⟨L,hL⟩:∃ L,bks (pp [] t)=L:=⟨_,rfl⟩;rw [hL] at h2 h3 HL;have HU:=aC (show usd t=Lib.compact (srt L) by unfold usd;rw [hL]);clear hL hbl;have HB:=aC h.bel;have H2:=aC h2;have H3:=aC h3;have HK:=aC hK;have HD:=aC hD;have SO:=aC (aX1 h3 HL.o);have k0:=aA h2 (i:=0) rfl;have NK:Hid (∀ k,(Value.slice q L.length c).ownBlock=some k->k≠w.heap.size+1/\k≠D):=fun k hk=>⟨fun e=>by subst e;exact aO H3.o H2.o (by decide) hk,fun e=>by
   subst e;obtain⟨_,_,cur,q1⟩:=aF H3.o hk;rw [q1] at hK;cases hK⟩
  clear h hK hD he hxs h2 h3;simp only [fV];go_upto_region 7 with (go_at_call 79;refine(SO.o).mono ?_;rintro e V6 ⟨rfl,o6,g6⟩;have O6:=aC o6;have G6:=aC g6;clear o6 g6)
  have M6:=aC ((G6.o.block _ (aB H2.o) (fun e=>(NK.o _ e.symm).1 rfl)).trans H2.o);have D6:=aC ((G6.o.block _ (aB HK.o) (fun e=>(NK.o _ e.symm).2 rfl)).trans HK.o);have B6:=aC (aN1 HB.o H3.o G6.o);have O7:=aC (show tS w.heap.size V6 q c (srt L) from O6.o);have CO:=aC (zZ O7.o (by rw [rF];exact HL.o));have hsl:=rF L;rw [hsl] at CO;clear k0 SO;have k0:=aA M6.o (i:=0) rfl;go_wp2_with (go_at_call 80;refine(CO.o).mono ?_;rintro e V7 ⟨rfl,o7,g7⟩;have O8:=aC o7;have G8:=aC g7;clear o7 g7)
  have D8:=aC ((G8.o.block _ (aB D6.o) (fun e=>(NK.o _ e.symm).2 rfl)).trans D6.o);have B8:=aC (aN1 B6.o O7.o (by rw [hsl];exact G8.o));refine⟨by simp,.inl ⟨_,_,rfl,run_takeDeferred D8.o,?_⟩⟩;refine⟨.slice q (Lib.compact (srt L)).length c,by simp [results,Tryz.results40,go_sem],q,c,by rw [HU.o],?_,pP _ B8.o (m8 B5.size HD.o)⟩;rw [HU.o];exact rH _ D8.o rfl O8.o
theorem aV3{w:World}{t:Tr}(hta:TB w t)(hlen:(pp [] t).length<=2000):Calls Tryz.prog 40 #[.agg (nDf t.f)] w (UsIs w (usd t)):=callsIn_wide.1 (bH7 4 (by decide) hta hlen)
end
section
open Go Go.RowKit Go.Shelf
attribute [local go_sem] Oper.semAt_some
noncomputable def usV (c o:Bool) (t:Tr):List Int:=if aW c o 0 0 (pp [] t)=0 then usd t else []
noncomputable def frV (c o:Bool) (t:Tr):Bool:=if aW c o 0 0 (pp [] t)=0 then ((usd t).length:Int)==0 else false
theorem UsIs.later{w W w':World}{L:List Int}{e:Ending}(hb:wBl w W)(h:UsIs W L e w'):UsIs w L e w':=by
 obtain⟨q,c,h1,h2,h3⟩:=h;exact⟨q,c,h1,bE h2 hb.size,aJ hb h3 lz9⟩
theorem bG5{w:World}{t:Tr}(c o:Bool)(hta:TB w t):Calls Tryz.prog 19 #[.agg (nDf t.f),.agg #[.bool c,.bool o]] w (UsIs w (usV c o t)):=by
 have B1:Hid (wBl w ((w.alloc (.cells (nDf t.f) 25)).alloc (.cells #[.bool c,.bool o] 27))):=(bz9).alloc (by simp) _;have X1:Hid (BoxN ((w.alloc (.cells (nDf t.f) 25)).alloc (.cells #[.bool c,.bool o] 27)) w.heap.size t.f):=(Below.heap_alloc _ _ _ (by simp)).trans (aE w _);have X2:Hid (((w.alloc (.cells (nDf t.f) 25)).alloc (.cells #[.bool c,.bool o] 27)).heap[w.heap.size+1]?=some (.cells #[.bool c,.bool o] 27 (0,0))):=aK _ (by simp only [f4]);have HTA:=aC hta;clear hta;go_enter Tryz.func19,Tryz.ntmps19;go_upto_region 1 with fail
 generalize ((w.alloc (.cells (nDf t.f) 25)).alloc (.cells #[.bool c,.bool o] 27))=w1 at B1 X1 X2 ⊢;obtain⟨n0,n1,n2,n3,n4,n5⟩:=X1.o.six;simp only [m9] at n1 n2 n3 n4 n5;have a0:=aA X2.o (i:=0) rfl;have a1:=aA X2.o (i:=1) rfl;have RT:=aC (dW c o (HTA.o.kept B1.o));obtain⟨r,hr⟩:∃ r,aW c o 0 0 (pp [] t)=r:=⟨_,rfl⟩;have HR:=aC hr;rw [hr] at RT;clear hr;by_cases hr0:r=0
 ·subst hr0;have E:Hid (usV c o t=usd t):=aC (by unfold usV;rw [if_pos HR.o]);have UC:Hid (∀ W,wBl w W->Calls Tryz.prog 40 #[.agg (nDf t.f)] W (UsIs W (usd t))):=fun W hW=>aV3 (HTA.o.kept hW) (mD HR.o);go_upto_region 3 with (go_at_call 39;refine(RT.o).mono ?_;rintro e w2 ⟨rfl,h2⟩;have B2:=aC (aJ B1.o h2 lz9);have Y1:Hid (BoxN w2 w.heap.size t.f):=(h2.block _ (aB X1.o)).trans X1.o;clear h2)
  clear n0 n1 n2 n3 n4 n5 a0 a1;obtain⟨n0,n1,n2,n3,n4,n5⟩:=Y1.o.six;simp only [m9] at n1 n2 n3 n4 n5;go_wp2_with (go_at_call 40;refine(UC.o _ B2.o).mono ?_;intro e w3 h3;have U3:=aC (UsIs.later B2.o h3);obtain⟨q3,c3,rfl,h4,h5⟩:=h3;clear h4 h5)
  go_ret;rw [E.o];exact U3.o
 ·have E:Hid (usV c o t=[]):=aC (by unfold usV;rw [if_neg (by rw [HR.o];exact hr0)]);have q0:(r != 0)=true:=by simpa using hr0
  have q1:(r==0)=false:=by simpa using hr0
  clear hr0;go_wp2_with (go_at_call 39;refine(RT.o).mono ?_;rintro e w2 ⟨rfl,h2⟩;have B2:=aC (aJ B1.o h2 lz9);clear h2)
  go_ret;rw [E.o];exact⟨none,0,rfl,aBG _ _ _ _,B2.o⟩
theorem aB4{w:World}{t:Tr}(c o:Bool)(hta:TB w t):Calls Tryz.prog 21 #[.agg (nDf t.f),.agg #[.bool c,.bool o]] w fun e w'=>e=.returned (.bool (frV c o t))/\wBl w w':=by
 have B1:Hid (wBl w ((w.alloc (.cells (nDf t.f) 25)).alloc (.cells #[.bool c,.bool o] 27))):=(bz9).alloc (by simp) _;have X1:Hid (BoxN ((w.alloc (.cells (nDf t.f) 25)).alloc (.cells #[.bool c,.bool o] 27)) w.heap.size t.f):=(Below.heap_alloc _ _ _ (by simp)).trans (aE w _);have X2:Hid (((w.alloc (.cells (nDf t.f) 25)).alloc (.cells #[.bool c,.bool o] 27)).heap[w.heap.size+1]?=some (.cells #[.bool c,.bool o] 27 (0,0))):=aK _ (by simp only [f4]);have HTA:=aC hta;clear hta;go_enter Tryz.func21,Tryz.ntmps21;go_upto_region 1 with fail
 generalize ((w.alloc (.cells (nDf t.f) 25)).alloc (.cells #[.bool c,.bool o] 27))=w1 at B1 X1 X2 ⊢;obtain⟨n0,n1,n2,n3,n4,n5⟩:=X1.o.six;simp only [m9] at n1 n2 n3 n4 n5;have a0:=aA X2.o (i:=0) rfl;have a1:=aA X2.o (i:=1) rfl;have RT:=aC (dW c o (HTA.o.kept B1.o));obtain⟨r,hr⟩:∃ r,aW c o 0 0 (pp [] t)=r:=⟨_,rfl⟩;have HR:=aC hr;rw [hr] at RT;clear hr;by_cases hr0:r=0
 ·subst hr0;obtain⟨N,hN⟩:∃ N,(usd t).length=N:=⟨_,rfl⟩;have E:Hid (frV c o t=((N:Int)==0)):=aC (by unfold frV;rw [if_pos HR.o,hN]);have UC:Hid (∀ W,wBl w W->Calls Tryz.prog 40 #[.agg (nDf t.f)] W (fun e w'=>(∃ (q:Option Addr) (k:Nat),e=.returned (.slice q N k))/\wBl W w')):=fun W hW=>(aV3 (HTA.o.kept hW) (mD HR.o)).mono (by
   rintro e w' ⟨q,k,h1,h2,h3⟩;rw [hN] at h1;exact⟨⟨q,k,h1⟩,h3⟩)
  clear hN;go_wp2_with (first |(go_at_call 39;refine(RT.o).mono ?_;rintro e w2 ⟨rfl,h2⟩;have B2:=aC (aJ B1.o h2 lz9);have Y1:Hid (BoxN w2 w.heap.size t.f):=(h2.block _ (aB X1.o)).trans X1.o;clear h2 n0 n1 n2 n3 n4 n5 a0 a1;obtain⟨n0,n1,n2,n3,n4,n5⟩:=Y1.o.six;simp only [m9] at n1 n2 n3 n4 n5) |(go_at_call 40;refine(UC.o _ B2.o).mono ?_;rintro e w3 ⟨⟨q3,k3,rfl⟩,h3⟩;have B3:=aC (aJ B2.o h3 lz9);clear h3))
  go_ret;exact⟨by rw [E.o];rfl,B3.o⟩
 ·have E:Hid (frV c o t=false):=aC (by unfold frV;rw [if_neg (by rw [HR.o];exact hr0)]);have q0:(r != 0)=true:=by simpa using hr0
  have q1:(r==0)=false:=by simpa using hr0
  clear hr0;go_wp2_with (go_at_call 39;refine(RT.o).mono ?_;rintro e w2 ⟨rfl,h2⟩;have B2:=aC (aJ B1.o h2 lz9);clear h2)
  go_ret;exact⟨by rw [E.o];rfl,B2.o⟩
end
section
attribute [local go_sem] Oper.semAt_some
noncomputable def tvI (ρ:dJ (Int)) (c o:Bool) (t:Tr):Int:=if aW c o 0 0 (pp [] t)=0 then (ev ρ (fun _=>0) t).1 else 0
theorem bR5{Glo:World->Prop}(hglo:∀ {A B:World},CK A B->Glo A->Glo B){w:World}(hgw:Glo w){t:Tr}{Good:Int->Prop}{ρ:dJ (Int)}{c o:Bool}(hta:TB w t)(hr:RuI Glo (NP c o) Good ρ c o)(hg:∀ t xs g,NP c o t->xs.length=t.ks.length->(∀ x∈xs,Good x)->(∀ i,Good (g i))->Good (ρ t.f t.ks xs g))(h0:Good 0) :
  Calls Tryz.prog 41 #[.agg (nDf t.f),.agg #[.bool c,.bool o],.func (.func 42) #[] #[]] w fun e w'=>e=.returned (enI (tvI ρ c o t))/\wBl w w':=by
 have HTA:=aC hta;have HGW:=aC hgw;have HR:=aC hr;clear hgw;have HG:=aC hg;have H0:=aC h0;clear hta hr hg h0;by_cases hz:aW c o 0 0 (pp [] t)=0
 ·have HV:Hid (tvI ρ c o t=(ev ρ (fun _=>0) t).1):=if_pos hz;have HZ:=aC hz;clear hz;have hmm:=@run_makeMap Tryz.prog;go_enter Tryz.func41,Tryz.ntmps41;go_upto_region 8 with (go_at_call 39;refine(dW c o (HTA.o.kept (((bz9).alloc (by simp only [f4];omega) _).alloc (by simp only [f4];omega) _))).mono ?_;rintro e w1 ⟨rfl,h1⟩;have B1:=aC h1;clear h1;have rz:=HZ.o)
  have l1:(((w.alloc (.cells (nDf t.f) 25)).alloc (.cells #[.bool c,.bool o] 27)).alloc (.cells #[.func (.func 42) #[] #[]] 97)).heap.size<=w1.heap.size:=B1.o.size;simp only [f4] at l1;have b1:w1.heap[w.heap.size]?=some (.cells (nDf t.f) 25 (0,0)):=(B1.o.block _ (by simp only [f4];omega)).trans (by(repeat (first | exact aK _ (by first | rfl | simp only [f4]) | rw [Below.heap_alloc _ _ _ (by first | omega |(simp only [f4];omega))])));have b2:w1.heap[w.heap.size+1]?=some (.cells #[.bool c,.bool o] 27 (0,0)):=(B1.o.block _ (by simp only [f4];omega)).trans (by(repeat (first | exact aK _ (by first | rfl | simp only [f4]) | rw [Below.heap_alloc _ _ _ (by first | omega |(simp only [f4];omega))])));have b3:w1.heap[w.heap.size+1+1]?=some (.cells #[.func (.func 42) #[] #[]] 97 (0,0)):=(B1.o.block _ (by simp only [f4];omega)).trans (by(repeat (first | exact aK _ (by first | rfl | simp only [f4]) | rw [Below.heap_alloc _ _ _ (by first | omega |(simp only [f4];omega))])));have TT:Hid (TWI ((((w1.alloc (.map #[] 0)).alloc (.cells #[.map (some w1.heap.size)] 153)).alloc (.cells #[.func (.func 81) #[] #[.pointer (some ⟨w1.heap.size+1,0,none⟩)]] 112)).alloc (.cells #[.func (.func 82) #[] #[.pointer (some ⟨w.heap.size+1,0,none⟩),.pointer (some ⟨w1.heap.size+1+1,0,none⟩),.pointer (some ⟨w1.heap.size+1+1+1,0,none⟩),.pointer (some ⟨w.heap.size+1+1,0,none⟩),.pointer (some ⟨w1.heap.size+1,0,none⟩)]] 154)) (w.heap.size+1) (w1.heap.size+1+1) (w1.heap.size+1+1+1) (w.heap.size+1+1) (w1.heap.size+1) w1.heap.size c o):=⟨by rw [<- b2];(repeat (first | exact aK _ (by first | rfl | simp only [f4]) | rw [Below.heap_alloc _ _ _ (by first | omega |(simp only [f4];omega))])),by(repeat (first | exact aK _ (by first | rfl | simp only [f4]) | rw [Below.heap_alloc _ _ _ (by first | omega |(simp only [f4];omega))])),by(repeat (first | exact aK _ (by first | rfl | simp only [f4]) | rw [Below.heap_alloc _ _ _ (by first | omega |(simp only [f4];omega))])),by rw [<- b3];(repeat (first | exact aK _ (by first | rfl | simp only [f4]) | rw [Below.heap_alloc _ _ _ (by first | omega |(simp only [f4];omega))])),by(repeat (first | exact aK _ (by first | rfl | simp only [f4]) | rw [Below.heap_alloc _ _ _ (by first | omega |(simp only [f4];omega))]))⟩;have BX:Hid (wBl w1 ((((w1.alloc (.map #[] 0)).alloc (.cells #[.map (some w1.heap.size)] 153)).alloc (.cells #[.func (.func 81) #[] #[.pointer (some ⟨w1.heap.size+1,0,none⟩)]] 112)).alloc (.cells #[.func (.func 82) #[] #[.pointer (some ⟨w.heap.size+1,0,none⟩),.pointer (some ⟨w1.heap.size+1+1,0,none⟩),.pointer (some ⟨w1.heap.size+1+1+1,0,none⟩),.pointer (some ⟨w.heap.size+1+1,0,none⟩),.pointer (some ⟨w1.heap.size+1,0,none⟩)]] 154))):=(((bz9).alloc (by simp only [f4];omega) _).alloc (by simp only [f4];omega) _).alloc (by simp only [f4];omega) _;have MM:Hid (MapV ((((w1.alloc (.map #[] 0)).alloc (.cells #[.map (some w1.heap.size)] 153)).alloc (.cells #[.func (.func 81) #[] #[.pointer (some ⟨w1.heap.size+1,0,none⟩)]] 112)).alloc (.cells #[.func (.func 82) #[] #[.pointer (some ⟨w.heap.size+1,0,none⟩),.pointer (some ⟨w1.heap.size+1+1,0,none⟩),.pointer (some ⟨w1.heap.size+1+1+1,0,none⟩),.pointer (some ⟨w.heap.size+1+1,0,none⟩),.pointer (some ⟨w1.heap.size+1,0,none⟩)]] 154)) (.I 0) w1.heap.size 0 (fun _=>enI 0)):=(((MapV.made w1 (.I 0)).kept (bz9)).kept (bz9)).kept (bz9);have BN:=aC ((BX.o.block _ (aB b1)).trans b1);generalize hWX:((((w1.alloc (.map #[] 0)).alloc (.cells #[.map (some w1.heap.size)] 153)).alloc (.cells #[.func (.func 81) #[] #[.pointer (some ⟨w1.heap.size+1,0,none⟩)]] 112)).alloc (.cells #[.func (.func 82) #[] #[.pointer (some ⟨w.heap.size+1,0,none⟩),.pointer (some ⟨w1.heap.size+1+1,0,none⟩),.pointer (some ⟨w1.heap.size+1+1+1,0,none⟩),.pointer (some ⟨w.heap.size+1+1,0,none⟩),.pointer (some ⟨w1.heap.size+1,0,none⟩)]] 154))=WX at TT BX MM BN ⊢;clear hWX b1 b2 b3;have B9:Hid (wBl w WX):=aJ (aJ (((bz9).alloc (by simp only [f4];omega) _).alloc (by simp only [f4];omega) _) B1.o lz9) BX.o lz9;have hO:=bZ3 hglo HR.o (fun t h k=>h.wf k) HG.o (w.heap.size+1) (w1.heap.size+1+1) (w1.heap.size+1+1+1) (w.heap.size+1+1) (w1.heap.size+1) w1.heap.size t.sz t WX 0 (fun _=>0) lz9 (by have:=jM HZ.o;omega) (hglo (CK.of_below B9.o) HGW.o) (HTA.o.kept B9.o) (eW HZ.o) (fun _=>H0.o) TT.o MM.o;obtain⟨x,hx⟩:∃ x,tvI ρ c o t=x:=⟨_,rfl⟩;have HC:Hid (Calls Tryz.prog 82 #[.agg (nDf t.f),.pointer (some ⟨w.heap.size+1,0,none⟩),.pointer (some ⟨w1.heap.size+1+1,0,none⟩),.pointer (some ⟨w1.heap.size+1+1+1,0,none⟩),.pointer (some ⟨w.heap.size+1+1,0,none⟩),.pointer (some ⟨w1.heap.size+1,0,none⟩)] WX (fun e w'=>e=.returned (.I x)/\Fr (fun k=>k=w1.heap.size) WX w')):=aC (hO.mono fun e w' h=>⟨by rw [h.1,<- HV.o,hx];rfl,h.2.2⟩);have HX:=aC hx;clear hO hx;have o0:WX.cell? ⟨w1.heap.size+1+1+1,0,none⟩=some (.func (.func 82) #[] #[.pointer (some ⟨w.heap.size+1,0,none⟩),.pointer (some ⟨w1.heap.size+1+1,0,none⟩),.pointer (some ⟨w1.heap.size+1+1+1,0,none⟩),.pointer (some ⟨w.heap.size+1+1,0,none⟩),.pointer (some ⟨w1.heap.size+1,0,none⟩)]):=aA TT.o.o (i:=0) rfl;have n0:WX.cell? ⟨w.heap.size,0,none⟩=some (.I t.f.k):=aA BN.o (i:=0) rfl;have n1:WX.cell? ⟨w.heap.size,1,none⟩=some (.I t.f.n):=aA BN.o (i:=1) rfl;have n2:WX.cell? ⟨w.heap.size,2,none⟩=some (.I t.f.mn):=aA BN.o (i:=2) rfl;have n3:WX.cell? ⟨w.heap.size,3,none⟩=some (.I t.f.mx):=aA BN.o (i:=3) rfl;have n4:WX.cell? ⟨w.heap.size,4,none⟩=some (.slice t.f.rq t.f.rs.length t.f.rc):=aA BN.o (i:=4) rfl;have n5:WX.cell? ⟨w.heap.size,5,none⟩=some (.slice t.f.kq t.f.kl t.f.kc):=aA BN.o (i:=5) rfl;go_wp2_with (go_at_call 82;refine HC.o.mono ?_;rintro e w5 ⟨rfl,h5⟩;have F5:=aC h5;clear h5)
  go_ret;exact⟨by rw [HX.o];rfl,bB B9.o F5.o lz9 (fun k e=>by rw [e];exact m8 (by omega) l1)⟩
 ·have HV:Hid (tvI ρ c o t=0):=if_neg hz;have HZ:=aC hz;obtain⟨r,hrr⟩:∃ r,aW c o 0 0 (pp [] t)=r:=⟨_,rfl⟩;have rz:(r==0)=false:=by rw [<- hrr];simpa using hz
  have rz2:(r != 0)=true:=by rw [bne,rz];rfl
  have HQ:=aC hrr;clear hz hrr;go_enter Tryz.func41,Tryz.ntmps41;go_wp2_with (go_at_call 39;refine(dW c o (HTA.o.kept (((bz9).alloc (by simp only [f4];omega) _).alloc (by simp only [f4];omega) _))).mono ?_;rw [HQ.o];rintro e w1 ⟨rfl,h1⟩;have B1:=aC h1;clear h1)
  go_ret;exact⟨by rw [HV.o];rfl,aJ (((bz9).alloc (by simp only [f4];omega) _).alloc (by simp only [f4];omega) _) B1.o lz9⟩
end
section
attribute [local go_sem] Oper.semAt_some aS
def wide(l:lIi):Int:=16 * ((l.filter fun r=>decide (127 < r.2)).length:Int)
def gS(l:lIi):Int:=if l.any (fun r=>decide (r.2<=127)) then 1 else 0
def oE(c:Bool)(l:lIi):Int:=if c then max (wide l+gS l) 1 else 1
theorem aO1(l:lIi)(r:Int × Int):wide (l ++ [r])=wide l+(if 127 < r.2 then 16 else 0):=by
 unfold wide;rw [List.filter_append];by_cases h:127 < r.2
 ·simp [h];omega
 ·simp [h]
theorem zE(l:lIi)(r:Int × Int):gS (l ++ [r])=if 127 < r.2 then gS l else 1:=by
 unfold gS;rw [List.any_append];by_cases h:127 < r.2
 ·have e:[r].any (fun r=>decide (r.2<=127))=false:=by simp;omega
  rw [e,Bool.or_false,if_pos h]
 ·have e:[r].any (fun r=>decide (r.2<=127))=true:=by simp;omega
  rw [e,Bool.or_true,if_neg h]
  rfl
theorem aI0(l:lIi):0<=wide l/\wide l<=16 * (l.length:Int):=by
 unfold wide;have:=List.length_filter_le (fun r:Int × Int=>decide (127 < r.2)) l;omega
theorem vF(l:lIi):0<=gS l/\gS l<=1:=by unfold gS;split <;> omega
theorem aP4{w:World}{q:Option Addr}{k:Nat}{L:lIi}(c o:Bool)(h:ArgR w (.slice q L.length k) L)(hl:L.length<=600000) :
  Calls Tryz.prog 83 #[.slice q L.length k,.agg #[.bool c,.bool o]] w fun e w'=>e=.returned (.I (oE c L))/\wBl w w':=by
 have B0:Hid (wBl w (w.alloc (.cells #[.bool c,.bool o] 27))):=bz9
 cases c with
 | false=>
  go_enter Tryz.func83,Tryz.ntmps83;go_wp2;go_ret;exact⟨rfl,B0.o⟩
 | true=>
  obtain⟨q',k',e,h1,h2,h3⟩:=h.slice;injection e with e1 _ e3;subst e1 e3;have H3:=aC h3;have h9:L.length<=9223372036854775807:=h1;clear h3 h h1;obtain⟨mx,hmx⟩:∃ m,oE true L=m:=⟨_,rfl⟩;have hmr:∀ t ty w,(Builtin.max_ t ty #[.I (wide L+gS L),.I 1]).run Tryz.prog w=.ok (.I mx) w:=fun t ty w=>by rw [iZ,<- hmx];rfl
  have HX:=aC hmx;have hb1:=aI0 L;have hb2:=vF L;clear hmx;go_enter Tryz.func83,Tryz.ntmps83;go_wp2;go_loopw [5,6,14] (fun a b i wr=>∃ j:Nat,j<=L.length/\i=.I (j:Int)/\a=.I (wide (L.take j))/\b=.I (gS (L.take j))/\wBl w wr) (fun _ _ i _=>L.length - (intOf i).toNat)
  case atStart=>exact⟨0,o9 _,rfl,rfl,rfl,B0.o⟩
  case round=>
   obtain⟨j,hj,rfl,rfl,rfl,hb⟩:=hrel;have HB:=aC hb;clear hb;by_cases hjl:j < L.length
   ·obtain⟨r,hr⟩:∃ r,L[j]?=some r:=⟨_,i9 hjl⟩;obtain⟨g,off,rfl,hg,c1,c2⟩:=H3.o j r hr;have e1:(j:Int) < (L.length:Int):=(by omega);have c3:=(HB.o.cell (p:=⟨g,off+2 * j,none⟩) hg).trans c1;have c4:=(HB.o.cell (p:=⟨g,off+2 * j+1,none⟩) hg).trans c2;rw [aAU] at c3 c4;have T1:Hid (L.take (j+1)=L.take j ++ [r]):=(by rw [t7,hr];rfl);have S1:=aC (aO1 (L.take j) r);have S2:=aC (zE (L.take j) r);have w1:=aI0 (L.take j);have w2:=vF (L.take j);have w3:(L.take j).length<=L.length:=(by rw [aAA];omega);clear c1 c2 hr;by_cases hw:127 < r.2
    ·rw [if_pos hw] at S1 S2;go_wp2;go_roundw
     case rel=>exact⟨j+1,by omega,by go_num,by rw [T1.o,S1.o];try go_num,by rw [T1.o,S2.o],HB.o.alloc HB.o.size _⟩
     case measure=>simp only [intOf];omega
    ·rw [if_neg hw] at S1 S2;go_wp2;go_roundw
     case rel=>exact⟨j+1,by omega,by go_num,by rw [T1.o,S1.o];try go_num,by rw [T1.o,S2.o],HB.o.alloc HB.o.size _⟩
     case measure=>simp only [intOf];omega
   ·have e1:¬ (j:Int) < (L.length:Int):=by omega
    rw [n8 (by omega)];go_wp2;go_ret;exact⟨by rw [HX.o];rfl,HB.o⟩
def gQ(f:Fl):Int:=if f.mx=-1 then f.mn+1 else max f.mx 1
theorem bI1{f:Fl}(w:World)(hb:fI f.mn f.mx=true):Calls Tryz.prog 84 #[.agg (nDf f)] w fun e w'=>e=.returned (.I (gQ f))/\wBl w w':=by
 have B0:Hid (wBl w (w.alloc (.cells (nDf f) 25))):=bz9;have hb':0<=f.mn/\f.mn<=255:=by simp [fI] at hb;omega
 clear hb;by_cases hi:f.mx=-1
 ·have h1:(f.mx==-1)=true:=by simpa using hi
  have HV:Hid (gQ f=f.mn+1):=if_pos hi;clear hi;go_enter Tryz.func84,Tryz.ntmps84;go_wp2;go_ret;exact⟨by rw [HV.o];go_num,B0.o⟩
 ·have h1:(f.mx==-1)=false:=by simpa using hi
  have HV:Hid (gQ f=max f.mx 1):=if_neg hi;have hm:∀ t ty w,(Builtin.max_ t ty #[.I f.mx,.I 1]).run Tryz.prog w=.ok (.I (max f.mx 1)) w:=fun t ty w=>iZ _ t ty w _ _;clear hi;go_enter Tryz.func84,Tryz.ntmps84;go_wp2;go_ret;exact⟨by rw [HV.o];rfl,B0.o⟩
def cG(c:Bool)(f:Fl)(xs:List Int):Int:=if f.k=2 then oE c f.rs else if f.k=5\/f.k=6 then (xs.length:Int)+xs.sum else if f.k=7 then xs.headD 0+2 else if f.k=9 then (xs.headD 0+2) * gQ f else 1
def fW(c:Bool):dJ Int:=fun f _ xs _=>min (cG c f xs) 10001
def fX(x:Int):Prop:=0<=x/\x<=10001
theorem aM9(xs:List Int):ceI xs=xs.map (Value.int .i64):=by
 induction xs with
 | nil=>rfl
 | cons x l ih=>rw [aBP,<- ih];rfl
theorem sF{l:List Int}(h:∀ x∈l,fX x):0<=l.sum/\l.sum<=10001 * (l.length:Int):=by
 induction l with
 | nil=>simp
 | cons x l ih=>
  have h1:=h x (r9 ..);have h2:=ih fun y hy=>h y (r8 _ hy);unfold fX at h1;rw [List.sum_cons,o5];omega
theorem jP{c o:Bool}{t:Tr}(h:NP c o t):t.f.k=1\/t.f.k=2\/t.f.k=3\/t.f.k=4\/t.f.k=5\/t.f.k=6\/t.f.k=7\/t.f.k=8\/t.f.k=9:=by
 have:=sE h.1;simp [eL] at this;omega
theorem sW{c o:Bool}{t:Tr}(h:NP c o t)(hk:t.f.k=2):nD c o t.f.rs:=by
 have:=h.1;unfold dA at this;rw [hk] at this;simp at this;exact this.1
theorem aK4{c o:Bool}{t:Tr}(h:NP c o t)(hk:t.f.k=5\/t.f.k=6):1 < t.ks.length:=by
 have:=h.1;unfold dA at this;rcases hk with hk | hk <;> (rw [hk] at this;simp at this;exact this.1)
theorem gR{c o:Bool}{t:Tr}(h:NP c o t)(hk:t.f.k=7\/t.f.k=9):t.ks.length=1:=by
 have:=h.1;unfold dA at this;rcases hk with hk | hk
 ·rw [hk] at this;simp at this;exact this.1
 ·rw [hk] at this;simp at this;exact this.2.1
theorem nH{c o:Bool}{t:Tr}(h:NP c o t)(hk:t.f.k=9):fI t.f.mn t.f.mx=true:=by
 have:=h.1;unfold dA at this;rw [hk] at this;simp at this;exact this.1
theorem aK5{c o:Bool}{t:Tr}(h:NP c o t)(hk:t.f.k=8):1<=t.f.n/\t.f.n<=9:=by
 have:=h.1;unfold dA at this;rw [hk] at this;simp at this;exact this.1
theorem yI{f:Fl}(h:fI f.mn f.mx=true):1<=gQ f/\gQ f<=256:=by
 simp [fI] at h;unfold gQ
 split <;> omega
theorem aX7(c:Bool)(l:lIi):1<=oE c l:=by
 unfold oE
 split <;> omega
theorem uZ{c o:Bool}(t:Tr)(xs:List Int)(g:Int->Int)(hn:NP c o t)(_:xs.length=t.ks.length)(hx:∀ x∈xs,fX x)(_:∀ i,fX (g i)):fX (fW c t.f t.ks xs g):=by
 have:0<=cG c t.f xs:=by
  have hh:0<=xs.headD 0:=by
   cases xs with
   | nil=>simp
   | cons x l=>have:=hx x (r9 ..);unfold fX at this;simpa using this.1
  unfold cG
  split
  ·have:=aX7 c t.f.rs;omega
  ·split
   ·have:=sF hx;omega
   ·split
    ·omega
    ·split
     ·rename_i hk
      have:=yI (nH hn hk);exact aCL (by omega) (by omega)
     ·omega
 unfold fW fX;omega
theorem bS1(c o:Bool):RuI (fun _=>True) (NP c o) fX (fW c) c o:=by
 intro t xs g W v bp bb n base _ hnp hsz hnb hlen hgx _ hown _ _;obtain⟨qv,cv,rfl⟩:=aR hown;have B0:Hid (wBl W (W.alloc (.cells (cX t.f c o (.slice qv xs.length cv) (.func (.func 81) #[] #[bx bp])) 156))):=bz9;have HO:=aC hown;have HLEN:=aC hlen;have HNB:=aC hnb;have HGX:=aC hgx;have HV:Hid (fW c t.f t.ks xs g=min (cG c t.f xs) 10001):=rfl;have hxl:xs.length<=9223372036854775807:=by
  rcases hown.2 with⟨_,h0⟩ | ⟨_,cap,_,_,_,_,h1,h2,_⟩
  ·omega
  ·unfold maxLen at h2;omega
 have hmin:∀ t' ty w,(Builtin.min_ t' ty #[.I (cG c t.f xs),.I 10001]).run Tryz.prog w=.ok (.I (fW c t.f t.ks xs g)) w:=fun t' ty w=>oN _ t' ty w _ _;have hsum:=sF hgx;have hkl:t.ks.length<=1000000:=hsz;clear hown hnb hgx hlen;unfold cX at *;rcases jP hnp with hk | hk | hk | hk | hk | hk | hk | hk | hk
 ·have ha:cG c t.f xs=1:=by unfold cG;rw [hk];rfl
  rw [ha] at hmin;rw [hk] at B0 ⊢;clear hk ha hnp hsum;go_enter Tryz.func42,Tryz.ntmps42;go_wp2;go_ret;exact⟨rfl,B0.o⟩
 ·have ha:cG c t.f xs=oE c t.f.rs:=by unfold cG;rw [hk];rfl
  have HM:=aC (sW hnp hk);rw [ha] at hmin;rw [hk] at B0 ⊢;clear hk ha hnp hsum;have HC:=aC (aP4 (w:=W.alloc (.cells #[.I 2,.I t.f.n,.I t.f.mn,.I t.f.mx,.slice t.f.rq t.f.rs.length t.f.rc,.slice t.f.kq t.f.kl t.f.kc,.bool c,.bool o,.slice qv xs.length cv,.func (.func 81) #[] #[bx bp]] 156)) c o (HNB.o.r.kept B0.o) (oF HM.o.1));go_enter Tryz.func42,Tryz.ntmps42;go_wp2_with (go_at_call 83;refine HC.o.mono ?_;rintro e w5 ⟨rfl,h5⟩;have B5:=aC h5;clear h5)
  go_ret;exact⟨rfl,aJ B0.o B5.o lz9⟩
 ·have ha:cG c t.f xs=1:=by unfold cG;rw [hk];rfl
  rw [ha] at hmin;rw [hk] at B0 ⊢;clear hk ha hnp hsum;go_enter Tryz.func42,Tryz.ntmps42;go_wp2;go_ret;exact⟨rfl,B0.o⟩
 ·have ha:cG c t.f xs=1:=by unfold cG;rw [hk];rfl
  rw [ha] at hmin;rw [hk] at B0 ⊢;clear hk ha hnp hsum;go_enter Tryz.func42,Tryz.ntmps42;go_wp2;go_ret;exact⟨rfl,B0.o⟩
 ·have ha:cG c t.f xs=(xs.length:Int)+xs.sum:=by unfold cG;rw [hk];rfl
  rw [ha] at hmin;rw [hk] at B0 ⊢;clear hk ha hnp;have hc:∀ (i:Nat) (x:Int),xs[i]?=some x->∃ gb,qv=some ⟨gb,0,none⟩/\gb < W.heap.size/\W.cell? ⟨gb,i,none⟩=some (.I x):=fun i x hx=>by
   have hi:=(m7.1 hx).1;obtain⟨gb,cb,e⟩:=aL HO.o (by omega);injection e with e1 e2 e3;subst e1 e3;exact⟨gb,rfl,(aF HO.o rfl).2.1,aM HO.o (by rw [aM9];simp [hx])⟩
  have HC:=aC hc;clear hc;have hl:xs.length<=1000000:=by rw [HLEN.o];exact hkl
  go_enter Tryz.func42,Tryz.ntmps42;go_wp2;go_loopw [3,26] (fun a i wr=>∃ j:Nat,j<=xs.length/\i=.I (j:Int)/\a=.I ((xs.length:Int)+(xs.take j).sum)/\wBl W wr) (fun _ i _=>xs.length - (intOf i).toNat)
  case atStart=>exact⟨0,o9 _,rfl,by simp,B0.o⟩
  case round=>
   obtain⟨j,hj,rfl,rfl,hb⟩:=hrel;have HB:=aC hb;clear hb;by_cases hjl:j < xs.length
   ·obtain⟨x,hx⟩:∃ x,xs[j]?=some x:=⟨_,i9 hjl⟩;obtain⟨gb,rfl,hg,c1⟩:=HC.o j x hx;have e1:(j:Int) < (xs.length:Int):=(by omega);have c3:=(HB.o.cell (p:=⟨gb,j,none⟩) hg).trans c1;have T1:=aC (show (xs.take (j+1)).sum=(xs.take j).sum+x by rw [t7,hx];simp);have s1:=sF (l:=xs.take j) fun y hy=>HGX.o y (aAJ hy);have s2:=HGX.o x (n7 hx);have s3:(xs.take j).length<=xs.length:=(by rw [aAA];omega);unfold fX at s2;clear c1 hx;go_wp2;go_roundw
    case rel=>exact⟨j+1,by omega,by go_num,by rw [T1.o];go_num,HB.o⟩
    case measure=>simp only [intOf];omega
   ·have e1:¬ (j:Int) < (xs.length:Int):=by omega
    rw [n8 (by omega)];go_wp2;go_ret;exact⟨rfl,HB.o⟩
 ·have ha:cG c t.f xs=(xs.length:Int)+xs.sum:=by unfold cG;rw [hk];rfl
  rw [ha] at hmin;rw [hk] at B0 ⊢;clear hk ha hnp;have hc:∀ (i:Nat) (x:Int),xs[i]?=some x->∃ gb,qv=some ⟨gb,0,none⟩/\gb < W.heap.size/\W.cell? ⟨gb,i,none⟩=some (.I x):=fun i x hx=>by
   have hi:=(m7.1 hx).1;obtain⟨gb,cb,e⟩:=aL HO.o (by omega);injection e with e1 e2 e3;subst e1 e3;exact⟨gb,rfl,(aF HO.o rfl).2.1,aM HO.o (by rw [aM9];simp [hx])⟩
  have HC:=aC hc;clear hc;have hl:xs.length<=1000000:=by rw [HLEN.o];exact hkl
  go_enter Tryz.func42,Tryz.ntmps42;go_wp2;go_loopw [3,26] (fun a i wr=>∃ j:Nat,j<=xs.length/\i=.I (j:Int)/\a=.I ((xs.length:Int)+(xs.take j).sum)/\wBl W wr) (fun _ i _=>xs.length - (intOf i).toNat)
  case atStart=>exact⟨0,o9 _,rfl,by simp,B0.o⟩
  case round=>
   obtain⟨j,hj,rfl,rfl,hb⟩:=hrel;have HB:=aC hb;clear hb;by_cases hjl:j < xs.length
   ·obtain⟨x,hx⟩:∃ x,xs[j]?=some x:=⟨_,i9 hjl⟩;obtain⟨gb,rfl,hg,c1⟩:=HC.o j x hx;have e1:(j:Int) < (xs.length:Int):=(by omega);have c3:=(HB.o.cell (p:=⟨gb,j,none⟩) hg).trans c1;have T1:=aC (show (xs.take (j+1)).sum=(xs.take j).sum+x by rw [t7,hx];simp);have s1:=sF (l:=xs.take j) fun y hy=>HGX.o y (aAJ hy);have s2:=HGX.o x (n7 hx);have s3:(xs.take j).length<=xs.length:=(by rw [aAA];omega);unfold fX at s2;clear c1 hx;go_wp2;go_roundw
    case rel=>exact⟨j+1,by omega,by go_num,by rw [T1.o];go_num,HB.o⟩
    case measure=>simp only [intOf];omega
   ·have e1:¬ (j:Int) < (xs.length:Int):=by omega
    rw [n8 (by omega)];go_wp2;go_ret;exact⟨rfl,HB.o⟩
 ·obtain⟨x,rfl⟩:∃ x,xs=[x]:=by
   have:=gR hnp (.inl hk)
   match xs,HLEN.o with
   | [x],_=>exact⟨x,rfl⟩
   | [],e=>rw [this] at e;simp at e
   | _ :: _ :: _,e=>rw [this] at e;simp at e
  have ha:cG c t.f [x]=x+2:=by unfold cG;rw [hk];rfl
  rw [ha] at hmin;rw [hk] at B0 ⊢;have hx:=HGX.o x (r9 ..);unfold fX at hx;clear hk ha hnp hsum;simp only [o5,List.length_nil,m9] at B0 HO ⊢;obtain⟨gb,cb,e⟩:=aL HO.o (by omega);injection e with e1 e2 e3;subst e1 e3;have hg:=(aF HO.o rfl).2.1;have c1:W.cell? ⟨gb,0,none⟩=some (.I x):=aM HO.o (j:=0) rfl;clear e2;go_enter Tryz.func42,Tryz.ntmps42;go_wp2;go_ret;exact⟨rfl,B0.o⟩
 ·have ha:cG c t.f xs=1:=by unfold cG;rw [hk];rfl
  rw [ha] at hmin;rw [hk] at B0 ⊢;clear hk ha hnp hsum;go_enter Tryz.func42,Tryz.ntmps42;go_wp2;go_ret;exact⟨rfl,B0.o⟩
 ·obtain⟨x,rfl⟩:∃ x,xs=[x]:=by
   have:=gR hnp (.inr hk)
   match xs,HLEN.o with
   | [x],_=>exact⟨x,rfl⟩
   | [],e=>rw [this] at e;simp at e
   | _ :: _ :: _,e=>rw [this] at e;simp at e
  have hbd:=nH hnp hk;have htl:=yI hbd;have hx:=HGX.o x (r9 ..);unfold fX at hx;obtain⟨tn,htn⟩:∃ y,gQ t.f=y:=⟨_,rfl⟩;have HT:=aC htn;rw [htn] at htl;have hmul:0<=(x+2) * tn/\(x+2) * tn<=10003 * 256:=⟨aCL (by omega) (by omega),Int.mul_le_mul (by omega) htl.2 (by omega) (by omega)⟩;have ha:cG c t.f [x]=(x+2) * tn:=by unfold cG;rw [hk,htn];rfl
  have HBD:=aC hbd;have HK:=aC hk;rw [ha] at hmin;rw [hk] at B0 ⊢;clear hk ha hnp hsum hbd htn;simp only [o5,List.length_nil,m9] at B0 HO ⊢;obtain⟨gb,cb,e⟩:=aL HO.o (by omega);injection e with e1 e2 e3;subst e1 e3;have hg:=(aF HO.o rfl).2.1;have c1:W.cell? ⟨gb,0,none⟩=some (.I x):=aM HO.o (j:=0) rfl;clear e2;have tc:∀ w,Calls Tryz.prog 84 #[.agg #[.I 9,.I t.f.n,.I t.f.mn,.I t.f.mx,.slice t.f.rq t.f.rs.length t.f.rc,.slice t.f.kq t.f.kl t.f.kc]] w fun e w'=>e=.returned (.I tn)/\wBl w w':=fun w=>by
   have:=bI1 (f:=t.f) w HBD.o;rw [HT.o,HK.o] at this;exact this
  have TC:=aC tc;clear tc;go_enter Tryz.func42,Tryz.ntmps42;go_wp2;refine wx9 ?_
  repeat (go_big_quiet_step (first | exact rfl |(go_at_call 84;exact bQ (TC.o _))))
  refine wpQuiet_nil ?_;intro w3 hw;have B3:=aC (aP hw);clear hw;go_wp2;go_ret;exact⟨rfl,aJ B0.o B3.o lz9⟩
end
end Go.Proofs.YtdgfpiekjigfnaaGreatDoor

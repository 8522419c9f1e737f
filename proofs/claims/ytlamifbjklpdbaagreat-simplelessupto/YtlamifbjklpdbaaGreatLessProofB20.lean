/-
  Parts of the proof.
-/
import Derived.Test.YtlamifbjklpdbaaGreatLessProofA0
import Derived.Test.YtlamifbjklpdbaaGreatLessProofB13
import Derived.Test.YtlamifbjklpdbaaGreatLessProofB17
import Derived.Test.YtlamifbjklpdbaaGreatLessProofB19
import Derived.Test.YtlamifbjklpdbaaGreatLessProofB14
import Derived.Test.YtlamifbjklpdbaaGreatLessProofB2
import Derived.Test.YtlamifbjklpdbaaGreatLessProofB0
import Derived.BigQuiet
import Derived.Deep.DeepCutAuto
import Derived.Maps.OwnIn
import Derived.Sort.CutIn
import Derived.Test.YtlamifbjklpdbaaGreatLessProofB4
set_option linter.unusedSimpArgs false
set_option maxRecDepth 100000
set_option maxHeartbeats 8000000
namespace Go.Proofs.YtlamifbjklpdbaaGreat
open Go Go.RowKit
section
theorem vE(l:List (Int×Int))(c:Int):aJ5 l c=true↔In l c:=by
 unfold aJ5 In
 simp
theorem hun(l:List (Int×Int))(c:Int):aJ5 (unC l) c=true↔aJ5 l c=true:=by rw [vE,vE,mN]
theorem fG(a b:List (Int×Int)):wide (a++b)=wide a+wide b:=by
 unfold wide;rw [List.filter_append,j3];omega
theorem xZ(a:List (Int×Int)):0<=wide a:=by unfold wide;omega
theorem cU(a:List (Int×Int)):0<=bS a/\bS a<=1:=by unfold bS;split <;> omega
theorem dP(a b:List (Int×Int)):bS (a++b)<=bS a+bS b/\bS a<=bS (a++b)/\bS b<=bS (a++b):=by
 unfold bS
 rw [List.any_append]
 cases a.any (fun r=>decide (r.2<=127)) <;> cases b.any (fun r=>decide (r.2<=127)) <;> simp
theorem vQ{a b:List (Int×Int)}(h:a.Perm b):wide a=wide b:=by
 unfold wide;rw [(h.filter _).length_eq]
theorem rC{a b:List (Int×Int)}(h:a.Perm b):bS a=bS b:=by
 unfold bS
 have:a.any (fun r=>decide (r.2<=127))=b.any (fun r=>decide (r.2<=127)):=by
  rw [Bool.eq_iff_iff,s8,s8]
  exact⟨fun⟨x,hx,h1⟩=>⟨x,h.mem_iff.1 hx,h1⟩,fun⟨x,hx,h1⟩=>⟨x,h.mem_iff.2 hx,h1⟩⟩
 rw [this]
theorem pO(r:Int×Int):wide [r]=(if 127<r.2 then 16 else 0)/\bS [r]=(if 127<r.2 then 0 else 1):=by
 unfold wide bS
 by_cases h:127<r.2
 ·rw [if_pos h,if_pos h];simp [h]
 ·rw [if_neg h,if_neg h];simp [h]
theorem xS(C:List (Int×Int))(r:Int×Int):wide (bC C r)<=wide (C++[r])/\bS (bC C r)<=bS (C++[r]):=by
 have hp:=dP C [r]
 by_cases h:r.2<r.1
 ·rw [fM h,fG]
  have:=xZ [r]
  omega
 ·rcases eO C with rfl | ⟨D,x,rfl⟩
  ·rw [gS h];exact⟨s6 _,s6 _⟩
  ·by_cases hf:x.2+1<r.1
   ·rw [gT h hf];exact⟨s6 _,s6 _⟩
   ·rw [fF h hf]
    have o1:=pO x
    have o2:=pO r
    have o3:=pO (x.1,max x.2 r.2)
    simp only at o3
    have n1:=dP D [x]
    have n2:=dP D [(x.1,max x.2 r.2)]
    have n3:=dP (D++[x]) [r]
    have p1:=cU D
    rw [fG,fG,fG]
    have p2:=cU (D++[x]++[r])
    refine⟨?_,?_⟩
    ·rw [o1.1,o2.1,o3.1];split <;> split <;> split <;> omega
    ·by_cases hd:bS D=1
     ·have:=cU (D++[(x.1,max x.2 r.2)]);omega
     ·by_cases hm:127<max x.2 r.2
      ·rw [o3.2,if_pos hm] at n2;omega
      ·have hx:¬ 127<x.2:=by omega
       rw [o1.2,if_neg hx] at n1
       have:=cU (D++[(x.1,max x.2 r.2)])
       omega
theorem xG:∀ (S C:List (Int×Int)),wide (S.foldl bC C)<=wide (C++S)/\bS (S.foldl bC C)<=bS (C++S):=by
 intro S
 induction S with
 | nil=>intro C;rw [l9];exact⟨s6 _,s6 _⟩
 | cons r S ih=>
  intro C
  have a:=xS C r
  have b:=ih (bC C r)
  have e:C++r :: S=C++[r]++S:=by simp
  rw [List.foldl_cons,e]
  have c1:=fG (bC C r) S
  have c2:=fG (C++[r]) S
  have d1:=dP (bC C r) S
  have d2:=dP (C++[r]) S
  have p1:=cU (C++[r])
  have p2:=cU S
  have p3:=cU (bC C r)
  have p4:=cU (bC C r++S)
  have p5:=cU (C++[r]++S)
  refine⟨by omega,?_⟩
  by_cases h1:bS (bC C r)=1
  ·omega
  ·omega
theorem yC(l:List (Int×Int)):wide (unC l)<=wide l/\bS (unC l)<=bS l:=by
 have:=xG (srt l) []
 rw [n9] at this
 rw [<- vQ (kE l),<- rC (kE l)]
 exact this
theorem zB(c:Bool)(l:List (Int×Int)):dZ c (unC l)<=dZ c l:=by
 have:=yC l
 unfold dZ
 split
 ·omega
 ·omega
theorem iY(c:Bool)(l:List (Int×Int)):1<=dZ c l:=by
 unfold dZ
 split <;> omega
theorem wB(c:Bool)(a b:List (Int×Int)):dZ c (a++b)<=dZ c a+dZ c b:=by
 unfold dZ
 have:=fG a b
 have:=dP a b
 split <;> omega
def zS(c:Bool)(x:Ps):Int:=sG c (tp x)
def zT(c:Bool):List Ps->Int
 | []=>0
 | x :: l=>1+zS c x+zT c l
variable (c:Bool)
theorem xW(l:List Ps):((l.map tp).map (sG c)).length+((l.map tp).map (sG c)).sum=zT c l:=by
 induction l with
 | nil=>rfl
 | cons x l ih=>
  rw [l8,l8,List.sum_cons,i9,zT,<- ih]
  unfold zS
  omega
theorem aT5(k n:Int)(rs:List (Int×Int))(h2:k≠5)(h3:k≠6)(h4:k≠7)(h5:k≠9):zS c (.lf k n rs)=if k=2 then min (dZ c rs) 10001 else 1:=by
 unfold zS
 rw [gE,tp]
 unfold eJ
 show min (if k=2 then _ else if k=5\/k=6 then _ else if k=7 then _ else if k=9 then _ else _) _=_
 by_cases h:k=2
 ·rw [if_pos h,if_pos h];rfl
 ·rw [if_neg h,if_neg h,if_neg (by rintro (h | h) <;> contradiction),if_neg h4,if_neg h5];rfl
theorem sH(rs:List (Int×Int))(n:Int):zS c (.lf 2 n rs)=min (dZ c rs) 10001:=by
 rw [aT5 c 2 n rs (by decide) (by decide) (by decide) (by decide),if_pos rfl]
theorem sK(n:Nat)(x:Ps):zS c (.grp n x)=min (zS c x+2) 10001:=by
 unfold zS
 rw [gE,tp]
 rfl
theorem sI(a b:Int)(x:Ps):zS c (.rep a b x)=min ((zS c x+2)*(if b=-1 then a+1 else max b 1)) 10001:=by
 unfold zS
 rw [gE,tp]
 rfl
theorem uA:zS c (.row [])=1:=by
 unfold zS
 rw [gE,tp]
 rfl
theorem oX{l:List Ps}(h:l≠[]):zS c (.row l)=min (zT c l) 10001:=by
 unfold zS
 rw [gE,tp,if_neg (by cases l with | nil=>exact absurd rfl h | cons=>simp),<- xW,uD]
 rfl
theorem sL(l:List Ps):zS c (.alt l)=min (zT c l) 10001:=by
 unfold zS
 rw [gE,tp,<- xW,uD]
 rfl
theorem xY(x:Ps):zS c x<=10001:=by unfold zS;rw [gE];omega
theorem aN3(a b:List Ps):zT c (a++b)=zT c a+zT c b:=by
 induction a with
 | nil=>rw [n9,zT];omega
 | cons x a ih=>rw [l7,zT,zT,ih];omega
theorem sF{l:List Ps}(h:∀ x∈l,0<=zS c x):(l.length:Int)<=zT c l:=by
 induction l with
 | nil=>exact s6 _
 | cons x l ih=>
  have h1:=h x (g7 ..)
  have h2:=ih fun y hy=>h y (b6 _ hy)
  rw [zT,i9]
  omega
def RpN(x:Ps):Prop:=∀ a b,Sgn.rp a b∈pfl x->0<=a
theorem sJ(x:Ps):RpN x->0<=zS c x:=by
 refine Ps.ind (P:=fun x=>RpN x->0<=zS c x) (fun x ih=>?_) x
 intro h
 cases x with
 | lf k n rs=>
  unfold zS
  rw [gE,tp]
  show 0<=min (if k=2 then dZ c rs else if k=5\/k=6 then (0:Int) else if k=7 then 2 else if k=9 then 2 else 1) 10001
  have:=iY c rs
  repeat' split
  all_goals omega
 | grp n y=>
  have:=ih y (by simp [Ps.kids]) fun a b q=>h a b (by rw [pfl];simp [q])
  rw [sK]
  omega
 | rep a b y=>
  have h1:=ih y (by simp [Ps.kids]) fun a' b' q=>h a' b' (by rw [pfl];simp [q])
  have h2:=h a b (by rw [pfl];simp)
  rw [sI]
  have:0<=(zS c y+2)*(if b=-1 then a+1 else max b 1):=Int.mul_nonneg (by omega) (by split <;> omega)
  omega
 | row l=>
  by_cases he:l=[]
  ·subst he;rw [uA];omega
  ·rw [oX c he]
   have:=sF c (l:=l) fun y hy=>ih y hy fun a b q=>h a b (by rw [pfl];exact(eB l _).2 ⟨y,hy,q⟩)
   omega
 | alt l=>
  rw [sL]
  have:=sF c (l:=l) fun y hy=>ih y hy fun a b q=>h a b (by rw [pfl];exact jC hy q)
  omega
theorem vO(p:Ps->Bool){l:List Ps}(h:∀ x∈l,0<=zS c x):zT c (l.filter p)<=zT c l:=by
 induction l with
 | nil=>exact s6 _
 | cons x l ih=>
  have h1:=h x (g7 ..)
  have h2:=ih fun y hy=>h y (b6 _ hy)
  rw [r8]
  split
  ·rw [zT,zT];omega
  ·rw [zT];omega
def zQ:List Ps->Int
 | []=>0
 | x :: l=>(if isS x then zS c x else 0)+zQ l
theorem aE6(u:List (Int×Int)){l:List Ps}:zT c (bT u true l)+zQ c l<=zT c l:=by
 induction l with
 | nil=>rw [bT,zT,zQ];omega
 | cons x l ih=>
  rw [bT,zQ,zT]
  by_cases hx:isS x=true
  ·rw [if_pos hx,if_pos hx,if_pos rfl];omega
  ·rw [if_neg hx,if_neg hx,zT];omega
theorem xX(u:List (Int×Int)){l:List Ps}(h:l.any isS=true):zT c (bT u false l)+zQ c l<=zT c l+zS c (.lf 2 0 u):=by
 induction l with
 | nil=>simp at h
 | cons x l ih=>
  rw [bT,zQ,zT]
  by_cases hx:isS x=true
  ·rw [if_pos hx,if_pos hx,if_neg (by decide),zT]
   have:=aE6 c u (l:=l)
   omega
  ·rw [if_neg hx,if_neg hx,zT]
   have:=ih (by rw [aAI] at h;simpa [hx] using h)
   omega
theorem vP(l:List Ps):zQ c (l.filter isS)=zQ c l:=by
 induction l with
 | nil=>rfl
 | cons x l ih=>
  rw [r8]
  by_cases hx:isS x=true
  ·rw [if_pos hx,zQ,zQ,ih]
  ·rw [if_neg hx,zQ,if_neg hx,ih];omega
theorem aE8:∀ (m:List Ps),m≠[]->(∀ x∈m,isS x=true)->min (dZ c (m.flatMap rsP)) 10001<=zQ c m:=by
 intro m
 induction m with
 | nil=>intro h;exact absurd rfl h
 | cons x m ih=>
  intro _ h
  have hx:=h x (g7 ..)
  obtain⟨n,rs,rfl⟩:=pZ hx
  rw [zQ,if_pos hx,s4,sH]
  cases m with
  | nil=>rw [zQ];simp [rsP]
  | cons y m=>
   have h1:=ih (by simp) fun z hz=>h z (b6 _ hz)
   have h2:=wB c rs ((y :: m).flatMap rsP)
   have h3:=iY c rs
   have h4:=iY c ((y :: m).flatMap rsP)
   show min (dZ c (rs++_)) 10001<=_
   omega
theorem aE7{l:List Ps}:zT c (bB unC l)<=zT c l:=by
 unfold bB
 split
 ·rename_i h
  have hn:l.filter isS≠[]:=fun e=>by rw [e] at h;simp at h
  have h1:=aE8 c (l.filter isS) hn fun x hx=>(o6.1 hx).2
  rw [vP] at h1
  have ha:l.any isS=true:=by
   obtain⟨x,hx⟩:=List.exists_mem_of_ne_nil _ hn
   exact s8.2 ⟨x,(o6.1 hx).1,(o6.1 hx).2⟩
  have h2:=xX c (unC ((l.filter isS).flatMap rsP)) ha
  rw [sH] at h2
  have h3:=zB c ((l.filter isS).flatMap rsP)
  omega
 ·exact s6 _
theorem xV{l:List Ps}(h:∀ x∈l,0<=zS c x):∀ acc,zT c (aT acc l)<=zT c acc+zT c l:=by
 induction l with
 | nil=>intro acc;rw [aT,zT];omega
 | cons x l ih=>
  intro acc
  have h1:=h x (g7 ..)
  have h2:=ih fun y hy=>h y (b6 _ hy)
  rw [aT,zT]
  split
  ·have:=h2 acc;omega
  ·have:=h2 (acc++[x])
   rw [aN3] at this
   simp only [zT] at this
   omega
theorem aN4{l:List Ps}(h:∀ x∈l,0<=zS c x):zS c (mkP l)<=min (zT c l) 10001:=by
 unfold mkP
 split
 ·rename_i x
  have:=xY c x
  simp only [zT]
  omega
 ·rw [sL];exact s6 _
theorem qQ{un:List (Int×Int)->List (Int×Int)}{l:List Ps}{y:Ps}(h:y∈bI un l):∃ x∈l,y=sim un x:=by
 rw [cI] at h
 obtain⟨x,hx,rfl⟩:=m9.1 h
 exact⟨x,hx,rfl⟩
theorem pG{x:Ps}(h:RpN x):RpN (sim unC x):=fun a b q=>
 sU unC (P:=fun s=>∀ a b,s=.rp a b->0<=a) (fun a b e=>by cases e) (fun _ _ _ a b e=>by cases e) x (fun s hs a b e=>h a b (e ▸ hs)) _ q a b rfl
theorem yV(x:Ps):RpN x->zS c (sim unC x)<=zS c x:=by
 refine Ps.ind (P:=fun x=>RpN x->zS c (sim unC x)<=zS c x) (fun x ih=>?_) x
 intro h
 have hts:∀ l:List Ps,(∀ y∈l,zS c (sim unC y)<=zS c y)->zT c (bI unC l)<=zT c l:=by
  intro l
  induction l with
  | nil=>intro _;rw [bI];exact s6 _
  | cons y l ih2=>
   intro hh
   have h1:=hh y (g7 ..)
   have h2:=ih2 fun z hz=>hh z (b6 _ hz)
   rw [bI,zT,zT]
   omega
 cases x with
 | lf k n rs=>rw [sim];exact s6 _
 | grp n y=>
  have:=ih y (by simp [Ps.kids]) fun a b q=>h a b (by rw [pfl];simp [q])
  rw [sim,sK,sK]
  omega
 | rep a b y=>
  have hy:RpN y:=fun a' b' q=>h a' b' (by rw [pfl];simp [q])
  have h1:=ih y (by simp [Ps.kids]) hy
  have h2:=h a b (by rw [pfl];simp)
  have h3:=sJ c (sim unC y) (pG hy)
  have h5:=xY c (sim unC y)
  rw [sim,sI]
  have hT:1<=(if b=-1 then a+1 else max b 1):=by split <;> omega
  generalize hTT:(if b=-1 then a+1 else max b 1)=T at hT
  have h4:(zS c y+2)*1<=(zS c y+2)*T:=Int.mul_le_mul_of_nonneg_left hT (by omega)
  unfold gC
  split
  ·omega
  ·split
   ·omega
   ·split
    ·rw [uA];omega
    ·split
     ·rw [uA];omega
     ·rw [sI,hTT]
      have:(zS c (sim unC y)+2)*T<=(zS c y+2)*T:=Int.mul_le_mul_of_nonneg_right (by omega) (by omega)
      omega
 | row l=>
  by_cases he:l=[]
  ·subst he;rw [sim,bI];exact s6 _
  ·have hr:∀ y∈l,RpN y:=fun y hy a b q=>h a b (by rw [pfl];exact(eB l _).2 ⟨y,hy,q⟩)
   have h1:=hts l fun y hy=>ih y hy (hr y hy)
   have hp:∀ y∈bI unC l,0<=zS c y:=fun y hy=>by
    obtain⟨x,hx,rfl⟩:=qQ hy
    exact sJ c _ (pG (hr x hx))
   have hlen:=sF c hp
   have hne:bI unC l≠[]:=fun e=>he (by rw [cI] at e;simpa using e)
   rw [sim,oX c he]
   unfold gV
   split
   ·have h2:=vO c (fun x=>!isE x) hp
    unfold mkB
    split
    ·rename_i x e
     have:=xY c x
     rw [e] at h2
     simp only [zT] at h2
     omega
    ·by_cases hf:(bI unC l).filter (fun x=>!isE x)=[]
     ·rw [hf,uA]
      have:0<(bI unC l).length:=List.length_pos_iff.2 hne
      omega
     ·rw [oX c hf];omega
   ·rw [oX c hne];omega
 | alt l=>
  have hr:∀ y∈l,RpN y:=fun y hy a b q=>h a b (by rw [pfl];exact jC hy q)
  have h1:=hts l fun y hy=>ih y hy (hr y hy)
  have hp:∀ y∈bI unC l,0<=zS c y:=fun y hy=>by
   obtain⟨x,hx,rfl⟩:=qQ hy
   exact sJ c _ (pG (hr x hx))
  have hj:∀ y∈bB unC (bI unC l),0<=zS c y:=fun y hy=>by
   rcases gM unC hy with⟨u,rfl⟩ | hy
   ·rw [sH];have:=iY c u;omega
   ·exact hp y hy
  have h2:=aE7 c (l:=bI unC l)
  have h3:=xV c hj []
  have ht:∀ y∈aT [] (bB unC (bI unC l)),0<=zS c y:=fun y hy=>by
   rcases (cZ _ [] y).1 hy with hy | hy
   ·cases hy
   ·exact hj y hy
  have h4:=aN4 c ht
  rw [sim,sL]
  unfold iK
  simp only [zT] at h3
  omega
end
theorem aM1(c:Bool)(a:Tr):∀ b:Tr,er a=er b->sG c a=sG c b:=by
 refine Tr.ind (P:=fun a=>∀ b:Tr,er a=er b->sG c a=sG c b) (fun a ih=>?_) a
 intro b h
 obtain⟨h1,h2,h3,h4,h5,h6⟩:=(nO a b).1 h
 have hk:a.ks.map (sG c)=b.ks.map (sG c):=by
  have:∀ (l m:List Tr),(∀ u∈l,u∈a.ks)->l.map er=m.map er->l.map (sG c)=m.map (sG c):=by
   intro l
   induction l with
   | nil=>intro m _ e;cases m with
    | nil=>rfl
    | cons=>simp at e
   | cons x l ih2=>
    intro m hs e
    cases m with
    | nil=>simp at e
    | cons y m=>
     rw [l8,l8] at e
     injection e with e1 e2
     rw [l8,l8,ih x (hs x (g7 ..)) y e1,ih2 m (fun u hu=>hs u (b6 _ hu)) e2]
  exact this a.ks b.ks (fun _ h=>h) h6
 rw [gE,gE,hk]
 congr 1
 unfold eJ iJ
 rw [h1,h3,h4,h5]
theorem aQ0{c o:Bool}{x:Ps}(h:∀ s∈pfl x,dD c o s):RpN x:=fun a b q=>by
 have:eW a b=true:=h _ q
 unfold eW at this
 simp at this
 omega
theorem vV{c o:Bool}{x:Ps}{n m:Tr}(hx:PsOK c o x)(en:er n=te x)(em:er m=te (sim unC x)):tvI (gH c) c o m<=tvI (gH c) c o n:=by
 rw [sO,sO,if_pos (hx.right en),if_pos (hx.sim.right em),aM1 c m (tp (sim unC x)) (by rw [aM6];exact em),aM1 c n (tp x) (by rw [aM6];exact en)]
 exact yV c x (aQ0 hx.sg)
theorem aD1{x:Ps}{n m:Tr}(en:er n=te x)(em:er m=te (sim unC x)):eK m<=eK n:=by
 have h1:m.sz<=n.sz:=by rw [<- eF,<- eF,em,en,eT,eT];exact mU unC x
 unfold eK
 rw [cL,cL]
 omega
theorem aB8{c o:Bool}{x:Ps}{n m:Tr}(hx:PsOK c o x)(en:er n=te x)(em:er m=te (sim unC x)):aI (pp [] m)=aI (pp [] n):=by
 rw [mH _ m em hx.sim.wf,mH _ n en hx.wf]
 have h1:=(tR x 0 [] [] []).1 (by rw [l9];exact hx.hk)
 exact(yY unC x 0 [] h1.1).2.1
structure LN(v:Tr):Prop where
 rep:v.f.k=9->∃ u,v.ks=[u]/\¬ (v.f.mn=1/\v.f.mx=1)/\¬ (v.f.mn=0/\v.f.mx=-1/\u.f.k=9/\u.f.mn=0/\u.f.mx=-1)/\¬ (v.f.mx=0/\aI (pp [] u)=0)
 alt:v.f.k=6->∀ (a b:Nat) (x y:Tr),b<a->v.ks[a]?=some x->v.ks[b]?=some y->¬ (x.f.k=2/\y.f.k=2)/\er x≠er y
theorem sN{α:Type}{p:α->Bool}:∀ (l:List α) (a b:Nat) (x y:α),b<a->l[a]?=some x->l[b]?=some y->p x=true->p y=true->2<=(l.filter p).length:=by
 intro l
 induction l with
 | nil=>intro a b x y _ h;simp at h
 | cons z l ih=>
  intro a b x y hab ha hb hx hy
  cases a with
  | zero=>omega
  | succ a=>
   cases b with
   | zero=>
    simp at hb
    subst hb
    have hm:x∈l.filter p:=o6.2 ⟨i5 (by simpa using ha),hx⟩
    rw [r8,if_pos hy,i9]
    have:=List.length_pos_of_mem hm
    omega
   | succ b=>
    have:=ih a b x y (by omega) (by simpa using ha) (by simpa using hb) hx hy
    rw [r8]
    split
    ·rw [i9];omega
    ·exact this
theorem wT{α:Type}{l:List α}(h:l.Nodup){a b:Nat}{x y:α}(hab:b<a)(ha:l[a]?=some x)(hb:l[b]?=some y):x≠y:=by
 intro e
 subst e
 obtain⟨h1,e1⟩:=i7.1 ha
 obtain⟨h2,e2⟩:=i7.1 hb
 have:=List.pairwise_iff_getElem.1 h b a h2 h1 hab
 exact this (e2.trans e1.symm)
theorem aJ3{t:Tr}{x:Ps}(e:er t=te x)(hw:wf x)(hn:nrm x):LN t:=by
 have hk:t.f.k=x.kd:=by rw [<- cQ,e,cR]
 have hnd:=Nd.of hw hn
 refine⟨fun h9=>?_,fun h6 a b u v hab ha hb=>?_⟩
 ·obtain⟨p,q,y,rfl⟩:=nJ hnd (by rw [<- hk];exact h9)
  obtain⟨-,e2,e3,u,e4,e5⟩:=lL e
  rw [nrm] at hn
  obtain⟨n1,n2,n3,-,-⟩:=hn
  have hwy:=hnd.kw y (by simp [Ps.kids])
  refine⟨u,e4,by rw [e2,e3];exact n1,fun⟨g1,g2,g3,g4,g5⟩=>n2 ⟨by rw [<- e2];exact g1,by rw [<- e3];exact g2,?_⟩,fun⟨g1,g2⟩=>n3 ⟨by rw [<- e3];exact g1,by rw [<- mH y u e5 hwy];exact g2⟩⟩
  rw [<- vM hwy e5]
  unfold kC
  rw [g3,g4,g5]
  rfl
 ·obtain⟨l,rfl⟩:=tQ hnd (by rw [<- hk];exact h6)
  obtain⟨-,e2⟩:=sQ e
  rw [nrm] at hn
  have get:∀ (i:Nat) (u:Tr),t.ks[i]?=some u->∃ y,l[i]?=some y/\er u=te y:=fun i u hi=>by
   have h1:(t.ks.map er)[i]?=some (er u):=by simp [hi]
   rw [e2] at h1
   simp at h1
   obtain⟨y,h2,h3⟩:=h1
   exact⟨y,h2,h3.symm⟩
  obtain⟨yu,hu1,hu2⟩:=get a u ha
  obtain⟨yv,hv1,hv2⟩:=get b v hb
  have wu:=hnd.kw yu (i5 hu1)
  have wv:=hnd.kw yv (i5 hv1)
  refine⟨fun⟨g1,g2⟩=>?_,fun q=>wT hn.2.1 hab hu1 hv1 (yI yu yv wu wv (by rw [<- hu2,<- hv2,q]))⟩
  have s1:isS yu=true:=by rw [pY wu,<- cR,<- hu2,cQ];simpa using g1
  have s2:isS yv=true:=by rw [pY wv,<- cR,<- hv2,cQ];simpa using g2
  have:=sN l a b yu yv hab hu1 hv1 s1 s2
  omega
theorem aR4(x:Ps):∀ t:Tr,er t=te x->wf x->nrm x->bG LN t:=by
 refine Ps.ind (P:=fun x=>∀ t:Tr,er t=te x->wf x->nrm x->bG LN t) (fun x ih=>?_) x
 intro t e hw hn
 refine(aL _).2 ⟨aJ3 e hw hn,(aO _).2 fun u hu=>?_⟩
 have hm:er u∈x.kids.map te:=by rw [<- pW e];exact m9.2 ⟨u,hu,rfl⟩
 obtain⟨y,hy,ey⟩:=m9.1 hm
 exact ih y hy u ey.symm (dC hw hy) (uS hn hy)
section
attribute [local go_sem] Oper.semAt_some
theorem mY{w:World}{t:Tr}(hta:TB w t):Calls Tryz.prog 14 #[.agg #[.int .i64 t.f.k,.int .i64 t.f.n,.int .i64 t.f.mn,.int .i64 t.f.mx,.slice t.f.rq t.f.rs.length t.f.rc,.slice t.f.kq t.f.kl t.f.kc]] w fun e w'=>e=.returned (.int .i64 ((if 2000<(pp [] t).length then 0 else aI (pp [] t):Nat):Int))/\Below w.heap.size w w':=by
 have B1:Hid (Below w.heap.size w (w.alloc (.cells #[.int .i64 t.f.k,.int .i64 t.f.n,.int .i64 t.f.mn,.int .i64 t.f.mx,.slice t.f.rq t.f.rs.length t.f.rc,.slice t.f.kq t.f.kl t.f.kc] 25))):=bz9
 have N1:BoxN (w.alloc (.cells #[.int .i64 t.f.k,.int .i64 t.f.n,.int .i64 t.f.mn,.int .i64 t.f.mx,.slice t.f.rq t.f.rs.length t.f.rc,.slice t.f.kq t.f.kl t.f.kc] 25)) w.heap.size t.f:=aD w _
 obtain⟨c0,c1,c2,c3,c4,c5⟩:=N1.six
 simp only [a7] at c1 c2 c3 c4 c5
 have LD:=aB (lS (w:=w.alloc (.cells #[.int .i64 t.f.k,.int .i64 t.f.n,.int .i64 t.f.mn,.int .i64 t.f.mx,.slice t.f.rq t.f.rs.length t.f.rc,.slice t.f.kq t.f.kl t.f.kc] 25)) 2001 (by omega) (hta.kept B1.out))
 have hl:=gK 2001 t
 have HMP:=aB (gJ 2001 t)
 have HL:=aB hl
 have hle:(fW 2001 t).length<=2001:=by omega
 generalize fW 2001 t=Z at LD HMP HL hle
 obtain⟨R,hR⟩:∃ R,(if 2000<(pp [] t).length then 0 else aI (pp [] t))=R:=⟨_,rfl⟩
 rw [hR]
 have HR:=aB hR
 clear hR
 clear N1 hta hl
 go_enter Tryz.func14,Tryz.ntmps14
 go_upto_region 4 with (go_at_call 19;refine(LD.out).mono ?_;rintro e w5 ⟨q5,k5,rfl,h51,h52⟩;have Z5:=aB h51;have B5:=aB h52;clear h51 h52)
 have B6:=aB (aF B1.out B5.out lz9)
 clear c0 c1 c2 c3 c4 c5 B1 B5 LD
 by_cases hbig:Z.length<=2000
 ·have b0:(Z.length:Int)<=2000:=by omega
  have hn:¬ 2000<(pp [] t).length:=by have:=HL.out;omega
  have he:Z.map (·.1)=pp [] t:=by rw [HMP.out,j5 (by omega)]
  have HE:=aB he
  have HN:=aB hn
  clear he hn
  go_loopw [5,4] (fun i d wr=>∃ j:Nat,j<=Z.length/\i=.int .i64 (j:Int)/\d=.int .i64 (aI ((pp [] t).take j):Int)/\wr=w5) (fun i _ _=>Z.length-(intOf i).toNat)
  case atStart=>exact⟨0,m7 _,rfl,rfl,rfl⟩
  case round=>
   obtain⟨j,hj,rfl,rfl,rfl⟩:=hrel
   by_cases hjl:j<Z.length
   ·have i0:(j:Int)<(Z.length:Int):=by omega
    obtain⟨z,hz⟩:∃ z,Z[j]?=some z:=⟨_,b7 hjl⟩
    obtain⟨g,cc,hq⟩:=aN Z5.out (by omega)
    injection hq with hq1 _ hq2
    subst hq1 hq2
    have y6:=Z5.out.cells hz (j:=0) (v:=.int .i64 z.1.2.f.k) rfl
    rw [aAE] at y6
    have hx:(pp [] t)[j]?=some z.1:=by rw [<- HE.out,t8,hz];rfl
    have hgl:aI ((pp [] t).take j)<=2000:=by have:=mI ((pp [] t).take j);rw [o9] at this;omega
    by_cases hk:z.1.2.f.k=7
    ·have HD:=aB (show (aI ((pp [] t).take (j+1)):Int)=(aI ((pp [] t).take j):Int)+1 by rw [oN _ _ _ hx,if_pos hk];rfl)
     have e1:(z.1.2.f.k==7)=true:=by simpa using hk
     clear hz hx hk
     go_wp2
     go_roundw
     case rel=>exact⟨j+1,by omega,by go_num,by rw [HD.out],by trivial⟩
     case measure=>simp only [intOf];omega
    ·have HD:=aB (show (aI ((pp [] t).take (j+1)):Int)=(aI ((pp [] t).take j):Int) by rw [oN _ _ _ hx,if_neg hk];rfl)
     have e1:(z.1.2.f.k==7)=false:=by simpa using hk
     clear hz hx hk
     go_wp2
     go_roundw
     case rel=>exact⟨j+1,by omega,by go_num,by rw [HD.out],by trivial⟩
     case measure=>simp only [intOf];omega
   ·have i0:¬ (j:Int)<(Z.length:Int):=by omega
    have HD:=aB (show (if 2000<(pp [] t).length then 0 else aI (pp [] t))=aI ((pp [] t).take j) by
     have h1:=congrArg List.length HE.out
     rw [r7] at h1
     rw [if_neg HN.out,j5 (by omega)])
    go_wp2
    go_ret
    have hRR:=HR.out.symm.trans HD.out
    subst hRR
    exact⟨rfl,B6.out⟩
 ·have b0:¬ (Z.length:Int)<=2000:=by omega
  have HD:=aB (show (if 2000<(pp [] t).length then 0 else aI (pp [] t))=0 by rw [if_pos (by have:=HL.out;omega)])
  go_loopw [5,4] (fun i d wr=>i=.int .i64 0/\d=.int .i64 0/\wr=w5) (fun _ _ _=>0)
  case atStart=>exact⟨rfl,rfl,rfl⟩
  case round=>
   obtain⟨rfl,rfl,rfl⟩:=hrel
   have i0:(0:Int)<(Z.length:Int):=by omega
   go_wp2
   go_ret
   have hRR:=HR.out.symm.trans HD.out
   subst hRR
   exact⟨rfl,B6.out⟩
end
section
attribute [local go_sem] Oper.semAt_some bU
def grI(t:Tr):Int:=((if 2000<(pp [] t).length then 0 else aI (pp [] t):Nat):Int)
theorem uR{w:World}{t:Tr}(hta:TB w t):Calls Tryz.prog 30 #[.agg #[.int .i64 t.f.k,.int .i64 t.f.n,.int .i64 t.f.mn,.int .i64 t.f.mx,.slice t.f.rq t.f.rs.length t.f.rc,.slice t.f.kq t.f.kl t.f.kc]] w fun e w'=>e=.returned (.bool (grI t==0))/\Below w.heap.size w w':=by
 have B1:Hid (Below w.heap.size w (w.alloc (.cells #[.int .i64 t.f.k,.int .i64 t.f.n,.int .i64 t.f.mn,.int .i64 t.f.mx,.slice t.f.rq t.f.rs.length t.f.rc,.slice t.f.kq t.f.kl t.f.kc] 25))):=bz9
 have N1:Hid (BoxN (w.alloc (.cells #[.int .i64 t.f.k,.int .i64 t.f.n,.int .i64 t.f.mn,.int .i64 t.f.mx,.slice t.f.rq t.f.rs.length t.f.rc,.slice t.f.kq t.f.kl t.f.kc] 25)) w.heap.size t.f):=aD w _
 have GC:=aB (mY (hta.kept B1.out))
 obtain⟨G,hG⟩:∃ G:Int,grI t=G:=⟨_,rfl⟩
 rw [hG]
 unfold grI at hG
 rw [hG] at GC
 clear hta hG
 obtain⟨c0,c1,c2,c3,c4,c5⟩:=N1.out.six
 simp only [a7] at c1 c2 c3 c4 c5
 go_enter Tryz.func30,Tryz.ntmps30
 go_wp2_with (go_at_call 14;(with_reducible refine GC.out.mono ?_);rintro e w5 ⟨rfl,h5⟩;have B5:=aB (aF B1.out h5 lz9);clear h5)
 go_ret
 exact⟨rfl,B5.out⟩
theorem aS4{t u:Tr}(h:u∈t.ks)(hs:t.sz<=2000):grI u=(aI (pp [] u):Int):=by
 unfold grI
 rw [if_neg (by rw [cL];have:=bW h;omega)]
theorem aM2{a b:Tr}(h:er a≠er b):rsB a b=false:=by
 unfold rsB
 cases hs:eA (er a) (er b) with
 | false=>simp
 | true=>exact absurd ((dU _ _).1 hs) h
theorem aR5{w:World}{t:Tr}(hta:TB w t)(hs:t.sz<=2000)(hln:bG LN t):Calls Tryz.prog 15 #[.agg #[.int .i64 t.f.k,.int .i64 t.f.n,.int .i64 t.f.mn,.int .i64 t.f.mx,.slice t.f.rq t.f.rs.length t.f.rc,.slice t.f.kq t.f.kl t.f.kc]] w fun e w'=>e=.returned (.bool false)/\Below w.heap.size w w':=by
 have B0:Hid (Below w.heap.size w (w.alloc (.cells #[.int .i64 t.f.k,.int .i64 t.f.n,.int .i64 t.f.mn,.int .i64 t.f.mx,.slice t.f.rq t.f.rs.length t.f.rc,.slice t.f.kq t.f.kl t.f.kc] 25))):=bz9
 have N0:Hid (BoxN (w.alloc (.cells #[.int .i64 t.f.k,.int .i64 t.f.n,.int .i64 t.f.mn,.int .i64 t.f.mx,.slice t.f.rq t.f.rs.length t.f.rc,.slice t.f.kq t.f.kl t.f.kc] 25)) w.heap.size t.f):=aD w _
 have hl:(pp [] t).length<=2000:=by rw [cL];exact hs
 have LD:Hid (Calls Tryz.prog 19 #[.agg #[.int .i64 t.f.k,.int .i64 t.f.n,.int .i64 t.f.mn,.int .i64 t.f.mx,.slice t.f.rq t.f.rs.length t.f.rc,.slice t.f.kq t.f.kl t.f.kc],.int .i64 2000] (w.alloc (.cells #[.int .i64 t.f.k,.int .i64 t.f.n,.int .i64 t.f.mn,.int .i64 t.f.mx,.slice t.f.rq t.f.rs.length t.f.rc,.slice t.f.kq t.f.kl t.f.kc] 25)) (aE3 (w.alloc (.cells #[.int .i64 t.f.k,.int .i64 t.f.n,.int .i64 t.f.mn,.int .i64 t.f.mx,.slice t.f.rq t.f.rs.length t.f.rc,.slice t.f.kq t.f.kl t.f.kc] 25)) (fW 2000 t))):=aB (lS 2000 (by omega) (hta.kept B0.out))
 have HMP:Hid ((fW 2000 t).map (·.1)=pp [] t):=aB (by rw [gJ,j5 hl])
 have hZ:(fW 2000 t).length<=2000:=by have:=gK 2000 t;omega
 have hZ0:0<(fW 2000 t).length:=by rw [gK,cL];have:=dM t;omega
 generalize fW 2000 t=Z at LD HMP hZ hZ0
 have HND:Hid (∀ (i:Nat) (z:Zl),Z[i]?=some z->TB w z.1.2/\LN z.1.2/\z.1.2.sz<=2000):=aB fun i z hz=>by
  have hm:z.1∈pp [] t:=by rw [<- HMP.out];exact m9.2 ⟨z,i5 hz,rfl⟩
  refine⟨gO t [] hta z.1 hm,((aL _).1 (gO t [] hln z.1 hm)).1,?_⟩
  have:bG (fun v=>v.sz<=2000) t:=by
   refine Tr.ind (P:=fun t=>t.sz<=2000->bG (fun v=>v.sz<=2000) t) (fun t ih h=>(aL _).2 ⟨h,(aO _).2 fun u hu=>ih u hu (by have:=bW hu;omega)⟩) t hs
  exact((aL _).1 (gO t [] this z.1 hm)).1
 clear hta hs hln hl HMP
 go_enter Tryz.func15,Tryz.ntmps15
 go_upto_region 1 with fail
 generalize (w.alloc (.cells #[.int .i64 t.f.k,.int .i64 t.f.n,.int .i64 t.f.mn,.int .i64 t.f.mx,.slice t.f.rq t.f.rs.length t.f.rc,.slice t.f.kq t.f.kl t.f.kc] 25))=w1 at B0 N0 LD ⊢
 obtain⟨n0,n1,n2,n3,n4,n5⟩:=N0.out.six
 simp only [a7] at n1 n2 n3 n4 n5
 go_upto_region 2 with (go_at_call 19;(with_reducible refine LD.out.mono ?_);rintro e w5 ⟨q5,k5,rfl,h51,h52⟩;have Z5:=aB h51;have B5:=aB (aF B0.out h52 lz9);clear h51 h52)
 clear n0 n1 n2 n3 n4 n5 N0 B0 LD
 obtain⟨g,cc,hq⟩:=aN Z5.out (by omega)
 injection hq with hq1 _ hq2
 subst hq1 hq2
 go_upto_region 3 with fail
 go_loopw [4] (fun i wr=>∃ k:Nat,k<=Z.length/\i=.int .i64 (k:Int)/\Below w5.heap.size w5 wr) (fun i _=>Z.length-(intOf i).toNat)
 case atStart=>exact⟨0,m7 _,rfl,Below.refl _ _⟩
 case round=>
  obtain⟨k,hk,rfl,hb⟩:=hrel
  have HB:=aB hb
  clear hb
  by_cases hkl:k<Z.length
  ·have i0:(k:Int)<(Z.length:Int):=by omega
   obtain⟨z,hz⟩:∃ z,Z[k]?=some z:=⟨_,b7 hkl⟩
   obtain⟨hv1,hv2,hv3⟩:=HND.out k z hz
   have Z6:=aB (show ZR w1.heap.size wr _ Z from aK Z5.out (Fr.of_below (S:=fun _=>False) HB.out) (fun _ _ q=>q))
   have y0:=Z6.out.cells hz (j:=0) (v:=.int .i64 z.1.2.f.k) rfl
   rw [aAE] at y0
   have y1:=Z6.out.cells hz (j:=1) (v:=.int .i64 z.1.2.f.n) rfl
   have y2:=Z6.out.cells hz (j:=2) (v:=.int .i64 z.1.2.f.mn) rfl
   have y3:=Z6.out.cells hz (j:=3) (v:=.int .i64 z.1.2.f.mx) rfl
   have y4:=Z6.out.cells hz (j:=4) (v:=.slice z.1.2.f.rq z.1.2.f.rs.length z.1.2.f.rc) rfl
   have y5:=Z6.out.cells hz (j:=5) (v:=.slice z.1.2.f.kq z.1.2.f.kl z.1.2.f.kc) rfl
   generalize z.1.2=v at y0 y1 y2 y3 y4 y5 hv1 hv2 hv3
   have K7:Below wr.heap.size wr (wr.alloc (.cells #[.int .i64 v.f.k,.int .i64 v.f.n,.int .i64 v.f.mn,.int .i64 v.f.mx,.slice v.f.rq v.f.rs.length v.f.rc,.slice v.f.kq v.f.kl v.f.kc] 25)):=bz9
   have B7:=aB (aF HB.out K7 lz9)
   have N7:Hid (BoxN (wr.alloc (.cells #[.int .i64 v.f.k,.int .i64 v.f.n,.int .i64 v.f.mn,.int .i64 v.f.mx,.slice v.f.rq v.f.rs.length v.f.rc,.slice v.f.kq v.f.kl v.f.kc] 25)) wr.heap.size v.f):=aB (aD wr _)
   have T7:=aB (hv1.kept (aF B5.out B7.out lz9))
   have HLN:=aB hv2
   clear hz K7 hv1 hv2
   go_upto_region 6 with fail
   generalize (wr.alloc (.cells #[.int .i64 v.f.k,.int .i64 v.f.n,.int .i64 v.f.mn,.int .i64 v.f.mx,.slice v.f.rq v.f.rs.length v.f.rc,.slice v.f.kq v.f.kl v.f.kc] 25))=w7 at B7 N7 T7 ⊢
   clear y0 y1 y2 y3 y4 y5 Z6
   obtain⟨n0,n1,n2,n3,n4,n5⟩:=N7.out.six
   simp only [a7] at n1 n2 n3 n4 n5
   by_cases h9:v.f.k=9
   ·obtain⟨u,hku,r1,r2,r3⟩:=HLN.out.rep h9
    have hun:u∈v.ks:=by rw [hku];simp
    have hgu:=aS4 hun hv3
    obtain⟨g',off,cap,q1,q2,q3,hgl,hsx⟩:=mG T7.out hku
    rw [q1,q2,q3] at n5
    have e9:(v.f.k==9)=true:=by rw [h9];rfl
    have e6:(v.f.k != 6)=true:=by rw [h9];rfl
    obtain⟨d0,d1,d2,d3,d4,d5⟩:=hsx
    have K8:Below w7.heap.size w7 (w7.alloc (.cells #[.int .i64 u.f.k,.int .i64 u.f.n,.int .i64 u.f.mn,.int .i64 u.f.mx,.slice u.f.rq u.f.rs.length u.f.rc,.slice u.f.kq u.f.kl u.f.kc] 25)):=bz9
    have B8:=aB (aF B7.out K8 lz9)
    have N8:Hid (BoxN (w7.alloc (.cells #[.int .i64 u.f.k,.int .i64 u.f.n,.int .i64 u.f.mn,.int .i64 u.f.mx,.slice u.f.rq u.f.rs.length u.f.rc,.slice u.f.kq u.f.kl u.f.kc] 25)) w7.heap.size u.f):=aB (aD w7 _)
    have M8:Hid (BoxN (w7.alloc (.cells #[.int .i64 u.f.k,.int .i64 u.f.n,.int .i64 u.f.mn,.int .i64 u.f.mx,.slice u.f.rq u.f.rs.length u.f.rc,.slice u.f.kq u.f.kl u.f.kc] 25)) wr.heap.size v.f):=aB ((K8.block _ (aC N7.out)).trans N7.out)
    have PC:=aB (uR ((T7.out.kid hun).kept K8))
    obtain⟨G,hG⟩:∃ G:Int,grI u=G:=⟨_,rfl⟩
    rw [hG] at PC
    have hr3:(v.f.mx==0)=true->(G==0)=false:=fun q=>by
     have q':v.f.mx=0:=by simpa using q
     have:¬ aI (pp [] u)=0:=fun z=>r3 ⟨q',z⟩
     rw [<- hG,hgu]
     simpa using this
    have R1:=aB r1
    have R2:=aB r2
    have R3:=aB hr3
    clear h9 r1 r2 r3 hr3 hku hun hgu q1 q2 q3 hgl hG K8
    go_upto_region 8 with fail
    generalize (w7.alloc (.cells #[.int .i64 u.f.k,.int .i64 u.f.n,.int .i64 u.f.mn,.int .i64 u.f.mx,.slice u.f.rq u.f.rs.length u.f.rc,.slice u.f.kq u.f.kl u.f.kc] 25))=w8 at B8 N8 M8 PC ⊢
    clear n0 n1 n2 n3 n4 n5 d0 d1 d2 d3 d4 d5
    obtain⟨m0,m1,m2,m3,m4,m5⟩:=N8.out.six
    simp only [a7] at m1 m2 m3 m4 m5
    go_upto_region 9 with (go_at_call 30;(with_reducible refine PC.out.mono ?_);rintro e w9 ⟨rfl,h5⟩;have B9:=aB (aF B8.out h5 lz9);have N9:Hid (BoxN w9 w7.heap.size u.f):=aB ((h5.block _ (aC N8.out)).trans N8.out);have M9:Hid (BoxN w9 wr.heap.size v.f):=aB ((h5.block _ (aC M8.out)).trans M8.out);clear h5)
    clear m0 m1 m2 m3 m4 m5
    obtain⟨m0,m1,m2,m3,m4,m5⟩:=N9.out.six
    obtain⟨n0,n1,n2,n3,n4,n5⟩:=M9.out.six
    simp only [a7] at m1 m2 m3 m4 m5 n1 n2 n3 n4 n5
    go_cut [8] (fun x wx=>x=.bool false/\wx=w9)
    case first=>
     have r2:¬ ((v.f.mn==0)=true/\(v.f.mx==-1)=true/\(u.f.k==9)=true/\(u.f.mn==0)=true/\(u.f.mx==-1)=true):=fun⟨a,b,c,d,e⟩=>R2.out ⟨by simpa using a,by simpa using b,by simpa using c,by simpa using d,by simpa using e⟩
     have RR2:=aB r2
     clear r2
     cases b1:(v.f.mn==0) with
     | false=>go_wp2;go_meet;exact⟨rfl,rfl⟩
     | true=>
      cases b2:(v.f.mx==-1) with
      | false=>go_wp2;go_meet;exact⟨rfl,rfl⟩
      | true=>
       cases b3:(u.f.k==9) with
       | false=>go_wp2;go_meet;exact⟨rfl,rfl⟩
       | true=>
        cases b4:(u.f.mn==0) with
        | false=>go_wp2;go_meet;exact⟨rfl,rfl⟩
        | true=>
         cases b5:(u.f.mx==-1) with
         | false=>go_wp2;go_meet;exact⟨rfl,rfl⟩
         | true=>exact absurd ⟨b1,b2,b3,b4,b5⟩ RR2.out
    case rest=>
    obtain⟨rfl,hwc⟩:=hcut
    subst hwc
    go_upto_region 10 with fail
    go_cut [76] (fun x wx=>x=.bool false/\wx=wc)
    case first=>
     have r1:¬ ((v.f.mn==1)=true/\(v.f.mx==1)=true):=fun⟨a,b⟩=>R1.out ⟨by simpa using a,by simpa using b⟩
     have RR1:=aB r1
     clear r1
     cases b3:(v.f.mx==0) with
     | true=>
      have g0:=R3.out b3
      have b2:(v.f.mx==1)=false:=by
       have:v.f.mx=0:=by simpa using b3
       rw [this];rfl
      cases b1:(v.f.mn==1) with
      | false=>go_wp2;go_meet;exact⟨rfl,rfl⟩
      | true=>go_wp2;go_meet;exact⟨rfl,rfl⟩
     | false=>
      cases b1:(v.f.mn==1) with
      | false=>go_wp2;go_meet;exact⟨rfl,rfl⟩
      | true=>
       cases b2:(v.f.mx==1) with
       | false=>go_wp2;go_meet;exact⟨rfl,rfl⟩
       | true=>exact absurd ⟨b1,b2⟩ RR1.out
    case rest=>
    obtain⟨rfl,hwc⟩:=hcut
    subst hwc
    go_wp2
    go_roundw
    case rel=>exact⟨k+1,by omega,by go_num,B9.out⟩
    case measure=>simp [intOf];omega
   ·have e9:(v.f.k==9)=false:=by simpa using h9
    by_cases h6:v.f.k=6
    ·have e6:(v.f.k != 6)=false:=by rw [h6];rfl
     have HAL:=aB (HLN.out.alt h6)
     obtain⟨q',c',e,hml,-,hx⟩:=T7.out.node.k.slice
     injection e with e1 e2 e3
     rw [e1,e2,e3] at n5
     have hkn:v.ks.length<=2000:=by have:=eD v.ks;have:=dY v;omega
     have HX:=aB hx
     obtain⟨bx,hbx⟩:∃ b,wr.heap.size=b:=⟨_,rfl⟩
     rw [hbx] at N7 n0 n1 n2 n3 n4 n5 ⊢
     have C5:=aB n5
     clear hbx
     clear h9 h6 e1 e2 e3 hml hx
     go_upto_region 14 with fail
     clear n0 n1 n2 n3 n4 n5
     go_loopw [9] (fun i wx=>∃ a:Nat,a<=v.ks.length/\i=.int .i64 (a:Int)/\Below w7.heap.size w7 wx) (fun i _=>v.ks.length-(intOf i).toNat)
     case atStart=>exact⟨0,m7 _,rfl,Below.refl _ _⟩
     case round=>
      obtain⟨a,ha,rfl,hb⟩:=hrel
      have HB8:=aB hb
      clear hb
      have c5:=(HB8.out.cell (p:=⟨bx,5,none⟩) (aC N7.out)).trans C5.out
      by_cases hal:a<v.ks.length
      ·have a0:(a:Int)<(v.ks.length:Int):=by omega
       obtain⟨xa,hxa⟩:∃ x,v.ks[a]?=some x:=⟨_,b7 hal⟩
       obtain⟨g',off,hq,hgl,hsx⟩:=HX.out a xa hxa
       obtain⟨d0,d1,d2,d3,d4,d5⟩:=hsx.ck (CK.of_below HB8.out) hgl
       have hina:xa∈v.ks:=i5 hxa
       have PC:=aB (uR ((T7.out.kid hina).kept HB8.out))
       obtain⟨P,hP⟩:∃ P,(grI xa==0)=P:=⟨_,rfl⟩
       rw [hP] at PC
       have HXA:=aB hxa
       rw [hq] at c5
       clear hsx hP hxa
       go_upto_region 17 with (go_at_call 30;(with_reducible refine PC.out.mono ?_);rintro e w9 ⟨rfl,h5⟩;have B9:=aB (aF HB8.out h5 lz9);clear h5)
       clear c5 d0 d1 d2 d3 d4 d5 PC
       go_upto_region 18 with fail
       go_loopw [11] (fun i wy=>∃ b:Nat,b<=a/\i=.int .i64 (b:Int)/\Below w9.heap.size w9 wy) (fun i _=>a-(intOf i).toNat)
       case atStart=>exact⟨0,m7 _,rfl,Below.refl _ _⟩
       case round=>
        obtain⟨b,hb,rfl,hbl⟩:=hrel
        have BY:=aB (aF B9.out hbl lz9)
        have BZ:=aB hbl
        clear hbl
        by_cases hba:b<a
        ·have b0:(b:Int)<(a:Int):=by omega
         have b1:(b:Int)<(v.ks.length:Int):=by omega
         obtain⟨xb,hxb⟩:∃ x,v.ks[b]?=some x:=⟨_,b7 (by omega)⟩
         obtain⟨no1,no2⟩:=HAL.out a b xa xb hba HXA.out hxb
         obtain⟨g1,o1,hq1,hl1,hs1⟩:=HX.out a xa HXA.out
         obtain⟨g2,o2,hq2,hl2,hs2⟩:=HX.out b xb hxb
         rw [hq] at hq1 hq2
         cases hq1
         cases hq2
         have hinb:xb∈v.ks:=i5 hxb
         obtain⟨d0,d1,d2,d3,d4,d5⟩:=hs1.ck (CK.of_below BY.out) hl1
         obtain⟨f0,f1,f2,f3,f4,f5⟩:=hs2.ck (CK.of_below BY.out) hl1
         have c5:=(BY.out.cell (p:=⟨bx,5,none⟩) (aC N7.out)).trans C5.out
         rw [hq] at c5
         have RS:=lN ((T7.out.kid hina).kept BY.out) ((T7.out.kid hinb).kept BY.out)
         rw [aM2 no2] at RS
         have RSE:Hid (∀ z:Ext wr,Calls Tryz.prog 16 #[.agg #[.int .i64 xa.f.k,.int .i64 xa.f.n,.int .i64 xa.f.mn,.int .i64 xa.f.mx,.slice xa.f.rq xa.f.rs.length xa.f.rc,.slice xa.f.kq xa.f.kl xa.f.kc],.agg #[.int .i64 xb.f.k,.int .i64 xb.f.n,.int .i64 xb.f.mn,.int .i64 xb.f.mx,.slice xb.f.rq xb.f.rs.length xb.f.rc,.slice xb.f.kq xb.f.kl xb.f.kc]] z.val fun e w''=>e=.returned (.bool false)/\∃ y:Ext wr,w''=y.val):=aB fun z=>dH ((lN (((T7.out.kid hina).kept BY.out).kept (cP z)) (((T7.out.kid hinb).kept BY.out).kept (cP z))).mono fun e w' ⟨h1,h2⟩=>⟨by rw [h1,aM2 no2],h2⟩)
         have NO1:=aB no1
         have hgw:g'<wr.heap.size:=j2 hl1 BY.out.size
         have hbw:bx<wr.heap.size:=j2 (aC N7.out) BY.out.size
         clear hs1 hs2 hxb no1 no2 RS hl2
         go_upto_region 20 with fail
         go_cut [113] (fun x wx=>x=.bool false/\wx=wr)
         case first=>
          cases p1:(xa.f.k==2) with
          | false=>go_wp2;go_meet;exact⟨rfl,rfl⟩
          | true=>
           have p2:(xb.f.k==2)=false:=by
            have h1:xa.f.k=2:=by simpa using p1
            have h2:¬ xb.f.k=2:=fun q=>NO1.out ⟨h1,q⟩
            simpa using h2
           go_wp2
           go_meet
           exact⟨rfl,rfl⟩
         case rest=>
         obtain⟨rfl,hwc⟩:=hcut
         subst hwc
         go_upto_region 22 with fail
         go_cut [12] (fun x wx=>x=.bool false/\Below wc.heap.size wc wx)
         case first=>
          cases P with
          | false=>
           refine wx9 ?_
           repeat (go_big_quiet_step (first | exact rfl))
           refine wpQuiet_nil ?_
           intro w4 hw
           have B4:=aB (aS hw)
           clear hw
           go_wp2
           go_meet
           exact⟨rfl,B4.out⟩
          | true=>
           refine wx9 ?_
           repeat (go_big_quiet_step (first | exact rfl |(go_at_call 16;with_reducible exact RSE.out _)))
           refine wpQuiet_nil ?_
           intro w4 hw
           have B4:=aB (aS hw)
           clear hw
           go_wp2
           go_meet
           exact⟨rfl,B4.out⟩
         case rest=>
         obtain⟨rfl,hbz⟩:=hcut
         have BU:=aB (aF BZ.out hbz lz9)
         clear hbz
         go_wp2
         go_roundw
         case rel=>exact⟨b+1,by omega,by go_num,BU.out⟩
         case measure=>simp [intOf];omega
        ·have b0:¬ (b:Int)<(a:Int):=by omega
         go_wp2
         go_roundw
         case rel=>exact⟨a+1,by omega,by go_num,BY.out⟩
         case measure=>simp [intOf];omega
      ·have a0:¬ (a:Int)<(v.ks.length:Int):=by omega
       go_wp2
       go_roundw
       case rel=>exact⟨k+1,by omega,by go_num,aF B7.out HB8.out lz9⟩
       case measure=>simp [intOf];omega
    ·have e6:(v.f.k != 6)=true:=by simpa using h6
     clear h9 h6
     go_wp2
     go_roundw
     case rel=>exact⟨k+1,by omega,by go_num,B7.out⟩
     case measure=>simp [intOf];omega
  ·have i0:¬ (k:Int)<(Z.length:Int):=by omega
   go_wp2
   go_ret
   exact⟨rfl,aF B5.out HB.out lz9⟩
end
theorem NB.foot{W:World}{t:Tr}(h:NB W t):oQ (fun k=>k<W.heap.size) t:=by
 refine⟨fun a e hz=>?_,fun a e hz=>?_⟩
 ·rcases h.r with⟨p,cap,-,e2,-⟩ | ⟨g,off,cap,e2,hg,-⟩
  ·exact absurd e2 hz
  ·injection e2 with e3
   rw [e] at e3
   cases e3
   exact hg
 ·rcases h.k with⟨p,cap,-,e2,-⟩ | ⟨g,off,cap,e2,hg,-⟩
  ·exact absurd e2 hz
  ·injection e2 with e3
   rw [e] at e3
   cases e3
   exact hg
theorem TB.foot{W:World}{t:Tr}(h:TB W t):Foot (fun k=>k<W.heap.size) t:=dA (fun _=>NB.foot) t h
theorem NB.ckN{N:Nat->Prop}{W W':World}{t:Tr}(h:NB W t)(hf:oQ N t)(hc:CKeep N W W'):NB W' t:=by
 refine⟨?_,?_,h.fit,h.len⟩
 ·rcases h.r with q | ⟨g,off,cap,e,hg,h1,h2,h3⟩
  ·exact .inl q
  ·injection e with e1 e2 e3
   refine .inr ⟨g,off,cap,by rw [e1,e3],j2 hg hc.size,h1,h2,fun i x hx=>?_⟩
   have hN:N g:=hf.1 _ e1 (fun z=>by rw [z] at hx;simp at hx)
   exact⟨cF hc (p:=⟨g,off+2*i,none⟩) hN (h3 i x hx).1,cF hc (p:=⟨g,off+2*i+1,none⟩) hN (h3 i x hx).2⟩
 ·rcases h.k with q | ⟨g,off,cap,e,hg,h1,h2,h3⟩
  ·exact .inl q
  ·injection e with e1 e2 e3
   refine .inr ⟨g,off,cap,by rw [e1,e2,e3],j2 hg hc.size,h1,h2,fun i x hx=>(h3 i x hx).ck hc (hf.2 _ e1 (fun z=>by rw [z] at hx;simp at hx))⟩
theorem TB.ckN{N:Nat->Prop}{W W':World}{t:Tr}(h:TB W t)(hf:Foot N t)(hc:CKeep N W W'):TB W' t:=fE (fun _ a b=>NB.ckN a b hc) t h hf
section
open Go Go.RowKit Go.Shelf
attribute [local go_sem] Oper.semAt_some
theorem tJ{V:World}{b b':Nat}{e1 e2:TypeId}{s1 s2 n1 n2:Nat}{v1 v2:Value}{x1 x2:List Value}(h1:V.ownsRow b e1 s1 v1 n1 x1)(h2:V.ownsRow b' e2 s2 v2 n2 x2)(ht:e1≠e2){k:Nat}(hk:v1.ownBlock=some k):v2.ownBlock≠some k:=fun hk2=>by
 obtain⟨_,_,c1,q1⟩:=aG h1 hk
 obtain⟨_,_,c2,q2⟩:=aG h2 hk2
 rw [q1] at q2;cases q2;exact ht rfl
end
def zFl:Fl:=⟨0,0,0,0,[],none,0,none,0,0⟩
structure CI(w1:World)(b bz:Nat)(t:Tr)(rv:Value)(nk:List Tr)(v:Value)(W:World):Prop where
 bx:BoxN W b t.f
 rz:BoxN W bz zFl
 rr:RR w1.heap.size W rv t.f.rs
 row:W.ownsRow w1.heap.size 25 6 v nk.length (aQ nk)
 new:∀ u∈nk,TB W u/\Foot (fun k=>w1.heap.size<=k/\v.ownBlock≠some k) u
 bel:Below w1.heap.size w1 W
theorem CI.kept{w1:World}{b bz:Nat}{t:Tr}{rv:Value}{nk:List Tr}{v:Value}{W W':World}(h:CI w1 b bz t rv nk v W)(hb:Below W.heap.size W W'):CI w1 b bz t rv nk v W':=
 ⟨(hb.block _ (aC h.bx)).trans h.bx,(hb.block _ (aC h.rz)).trans h.rz,aK h.rr (Fr.of_below (S:=fun _=>False) hb) (fun _ _ q=>q),aK h.row (Fr.of_below (S:=fun _=>False) hb) (fun _ _ q=>q),fun u hu=>⟨(h.new u hu).1.kept hb,(h.new u hu).2⟩,aF h.bel hb lz9⟩
theorem CI.snoc{w1:World}{b bz:Nat}{t:Tr}{rv:Value}{nk:List Tr}{v v':Value}{W W5 W6 W7:World}{u:Tr}(h:CI w1 b bz t rv nk v W)(hbw:b<w1.heap.size)(hbz:bz<w1.heap.size)(h5:Below W.heap.size W W5)(hu:TB W5 u)(hf:Foot (fun k=>W.heap.size<=k) u)(h6:Below W5.heap.size W5 W6)
  (ho:W7.ownsRow w1.heap.size 25 6 v' (nk.length+1) (aQ nk++u.f.cells)) (hg:W6.grownBy W7 v.ownBlock) (hv:v'.ownBlock=v.ownBlock\/v'.ownBlock=some W6.heap.size):CI w1 b bz t rv (nk++[u]) v' W7:=by
 have B6:Below W.heap.size W W6:=aF h5 h6 lz9
 have h':=h.kept B6
 have F:Fr (fun k=>v.ownBlock=some k) W6 W7:=(Fr.refl _ _).grown hg (fun k hk=>hk)
 have hlo:∀ k,v.ownBlock=some k->w1.heap.size<=k:=fun k hk=>(aG h.row hk).1
 have hlt:∀ k,v.ownBlock=some k->k<W.heap.size:=fun k hk=>(aG h.row hk).2.1
 have box:∀ {k:Nat} {f:Fl},k<w1.heap.size->BoxN W6 k f->BoxN W7 k f:=fun {k f} hk hx=>(F.block k (aC hx) (fun q=>by have:=hlo k q;omega)).trans hx
 refine⟨box hbw h'.bx,box hbz h'.rz,?_,?_,fun x hx=>?_,fT h'.bel lz9 h'.row hg⟩
 ·exact aK h'.rr F (fun k hk q=>tJ h'.rr h'.row (by decide) hk q)
 ·rw [j3,cO,show aQ [u]=u.f.cells by simp [aQ]]
  exact ho
 ·have fresh:∀ k,k<W6.heap.size->v.ownBlock≠some k->v'.ownBlock≠some k:=fun k hk hn q=>by
   rcases hv with e | e
   ·exact hn (e.symm.trans q)
   ·rw [e] at q;have:=Option.some.inj q;omega
  rcases j6.1 hx with hx | hx
  ·obtain⟨a1,a2⟩:=h'.new x hx
   have a3:Foot (fun k=>k<W6.heap.size/\(w1.heap.size<=k/\v.ownBlock≠some k)) x:=fE (fun _ p q=>⟨fun a e z=>⟨p.1 a e z,q.1 a e z⟩,fun a e z=>⟨p.2 a e z,q.2 a e z⟩⟩) x a1.foot a2
   exact⟨a1.ckN a3 (F.ckeep (fun k q p=>p.2.2 q)),a3.mono fun k q=>⟨q.2.1,fresh k q.1 q.2.2⟩⟩
  ·obtain rfl:=s9.1 hx
   have a1:=hu.kept h6
   have a3:Foot (fun k=>k<W6.heap.size/\W.heap.size<=k) x:=fE (fun _ p q=>⟨fun a e z=>⟨p.1 a e z,q.1 a e z⟩,fun a e z=>⟨p.2 a e z,q.2 a e z⟩⟩) x a1.foot hf
   have hs:=h.bel.size
   exact⟨a1.ckN a3 (F.ckeep (fun k q p=>by have:=hlt k q;omega)),a3.mono fun k q=>⟨by omega,fresh k q.1 (fun z=>by have:=hlt k z;omega)⟩⟩
theorem CI.tree{w1:World}{b bz:Nat}{t:Tr}{nk:List Tr}{rq kq:Option Addr}{rc kc:Nat}{W W':World}(h:CI w1 b bz t (.slice rq t.f.rs.length rc) nk (.slice kq nk.length kc) W)(hbw:b<w1.heap.size)(hbz:bz<w1.heap.size)(hF:Fit t.f.rs)(hl:t.f.rs.length+3<=8796093022208)
  (hf:Fr (fun k=>k=b\/k=bz) W W') (w0:Nat) (hw0:w0<=w1.heap.size):TB W' (.mk ⟨t.f.k,t.f.n,t.f.mn,t.f.mx,t.f.rs,rq,rc,kq,nk.length,kc⟩ nk)/\Foot (fun k=>w0<=k) (.mk ⟨t.f.k,t.f.n,t.f.mn,t.f.mx,t.f.rs,rq,rc,kq,nk.length,kc⟩ nk):=by
 have rr:RR w1.heap.size W' (.slice rq t.f.rs.length rc) t.f.rs:=aK h.rr hf (fun k hk q=>by have:=(aG h.rr hk).1;rcases q with rfl | rfl <;> omega)
 have row:W'.ownsRow w1.heap.size 25 6 (.slice kq nk.length kc) nk.length (aQ nk):=aK h.row hf (fun k hk q=>by have:=(aG h.row hk).1;rcases q with rfl | rfl <;> omega)
 refine⟨(aL _).2 ⟨⟨rr.arg,kM row,hF,hl⟩,(aO _).2 fun u hu=>?_⟩,(aL _).2 ⟨⟨fun a e z=>?_,fun a e z=>?_⟩,(aO _).2 fun u hu=>?_⟩⟩
 ·exact(h.new u hu).1.ckN (h.new u hu).2 (hf.ckeep (fun k q p=>by rcases q with rfl | rfl <;> omega))
 ·have:=(aG rr (g:=a.block) (by rw [show rq=some a from e];rfl)).1;omega
 ·have:=(aG row (g:=a.block) (by rw [show kq=some a from e];rfl)).1;omega
 ·exact(h.new u hu).2.mono fun k q=>by omega
theorem oJ{R:Ending->World->Prop}{a:Act}{W:World}{b:Nat}{f:Fl}(h:Six W b 0 f)(ha:a.tmps[2]?.getD undef=.pointer (some ⟨b,0,none⟩))(hd:a.defers=[])(hR:R (.returned (.agg #[.int .i64 f.k,.int .i64 f.n,.int .i64 f.mn,.int .i64 f.mx,.slice f.rq f.rs.length f.rc,.slice f.kq f.kl f.kc])) W):bodyPost Tryz.prog Tryz.f12 R .ret a W:=by
 obtain⟨z0,z1,z2,z3,z4,z5⟩:=h
 simp only [a7] at z1 z2 z3 z4 z5
 refine bodyPost_ret (v:=.agg #[.int .i64 f.k,.int .i64 f.n,.int .i64 f.mn,.int .i64 f.mx,.slice f.rq f.rs.length f.rc,.slice f.kq f.kl f.kc]) ?_ hd hR
 simp [results,Tryz.results12,go_sem,ha,z0,z1,z2,z3,z4,z5]
def aT3(w:World)(x:Er)(e:Ending)(w':World):Prop:=∃ t',e=.returned (.agg #[.int .i64 t'.f.k,.int .i64 t'.f.n,.int .i64 t'.f.mn,.int .i64 t'.f.mx,.slice t'.f.rq t'.f.rs.length t'.f.rc,.slice t'.f.kq t'.f.kl t'.f.kc])/\TB w' t'/\er t'=x/\Foot (fun k=>w.heap.size<=k) t'/\Below w.heap.size w w'
theorem vK:∀ (m:Nat) (t:Tr) (w:World),t.sz<=m->t.sz<=1000000->TB w t->Calls Tryz.prog 12 #[.agg #[.int .i64 t.f.k,.int .i64 t.f.n,.int .i64 t.f.mn,.int .i64 t.f.mx,.slice t.f.rq t.f.rs.length t.f.rc,.slice t.f.kq t.f.kl t.f.kc]] w (aT3 w (er t)):=by
 intro m
 induction m with
 | zero=>intro t w hm;exact absurd (dM t) (by omega)
 | succ m ih=>
  intro t w hm hsz hta
  have IH:=aB ih
  have HM:=aB hm
  have HTA:=aB hta
  have HKL:=aB hta.node.kl
  have hkn:t.ks.length<=1000000:=by have:=uG t.ks;rw [dY] at hsz;omega
  have hln:=hta.node.len
  have HSZ:=aB hsz
  obtain⟨t0,hi,hz0,hz1,hz2⟩:=aW cA
  obtain⟨s0,ji,jz0,jz1,jz2⟩:=aW fD
  have B0:Hid (Below w.heap.size w ((w.alloc (.cells #[.int .i64 t.f.k,.int .i64 t.f.n,.int .i64 t.f.mn,.int .i64 t.f.mx,.slice t.f.rq t.f.rs.length t.f.rc,.slice t.f.kq t.f.kl t.f.kc] 25)).alloc (.cells #[.int .i64 0,.int .i64 0,.int .i64 0,.int .i64 0,.slice none 0 0,.slice none 0 0] 25))):=(bz9).alloc (by simp) _
  have N0:Hid (BoxN ((w.alloc (.cells #[.int .i64 t.f.k,.int .i64 t.f.n,.int .i64 t.f.mn,.int .i64 t.f.mx,.slice t.f.rq t.f.rs.length t.f.rc,.slice t.f.kq t.f.kl t.f.kc] 25)).alloc (.cells #[.int .i64 0,.int .i64 0,.int .i64 0,.int .i64 0,.slice none 0 0,.slice none 0 0] 25)) w.heap.size t.f):=(Below.heap_alloc _ _ _ (by simp)).trans (aD w _)
  have R0:Hid (BoxN ((w.alloc (.cells #[.int .i64 t.f.k,.int .i64 t.f.n,.int .i64 t.f.mn,.int .i64 t.f.mx,.slice t.f.rq t.f.rs.length t.f.rc,.slice t.f.kq t.f.kl t.f.kc] 25)).alloc (.cells #[.int .i64 0,.int .i64 0,.int .i64 0,.int .i64 0,.slice none 0 0,.slice none 0 0] 25)) (w.heap.size+1) zFl):=aB (by
   have:=aD (w.alloc (.cells #[.int .i64 t.f.k,.int .i64 t.f.n,.int .i64 t.f.mn,.int .i64 t.f.mx,.slice t.f.rq t.f.rs.length t.f.rc,.slice t.f.kq t.f.kl t.f.kc] 25)) (.cells #[.int .i64 0,.int .i64 0,.int .i64 0,.int .i64 0,.slice none 0 0,.slice none 0 0] 25)
   rwa [m8] at this)
  clear ih hm hta hsz
  go_enter Tryz.func12,Tryz.ntmps12
  go_upto_region 1 with fail
  have hsw1:((w.alloc (.cells #[.int .i64 t.f.k,.int .i64 t.f.n,.int .i64 t.f.mn,.int .i64 t.f.mx,.slice t.f.rq t.f.rs.length t.f.rc,.slice t.f.kq t.f.kl t.f.kc] 25)).alloc (.cells #[.int .i64 0,.int .i64 0,.int .i64 0,.int .i64 0,.slice none 0 0,.slice none 0 0] 25)).heap.size=w.heap.size+2:=by simp
  generalize ((w.alloc (.cells #[.int .i64 t.f.k,.int .i64 t.f.n,.int .i64 t.f.mn,.int .i64 t.f.mx,.slice t.f.rq t.f.rs.length t.f.rc,.slice t.f.kq t.f.kl t.f.kc] 25)).alloc (.cells #[.int .i64 0,.int .i64 0,.int .i64 0,.int .i64 0,.slice none 0 0,.slice none 0 0] 25))=w1 at B0 N0 R0 hsw1 ⊢
  have T1:=aB (HTA.out.kept B0.out)
  obtain⟨n0,n1,n2,n3,n4,n5⟩:=N0.out.six
  simp only [a7] at n1 n2 n3 n4 n5
  cases hrq:t.f.rq with
  | none=>
   have hr0:t.f.rs=[]/\t.f.rc=0:=by
    rcases HTA.out.node.r with⟨p,cap,e,e2,e3⟩ | ⟨g,off,cap,e,_⟩
    ·rw [hrq] at e
     injection e with e4 e5 e6
     exact⟨e2,e6.trans (e3 e4.symm)⟩
    ·rw [hrq] at e
     injection e with e4
     cases e4
   rw [hrq,hr0.1,hr0.2] at n4
   have HR0:=aB hr0
   clear hr0
   have SV:(.slice none 0 0:Value)=.slice none t.f.rs.length 0:=by rw [HR0.out.1];rfl
   have OV:w1.ownsRow w1.heap.size 53 2 (.slice none t.f.rs.length 0) t.f.rs.length (aH t.f.rs):=by rw [HR0.out.1];exact t4 _ _ _ _
   have HSV:=aB SV
   have O2:Hid (RR w1.heap.size w1 (.slice none t.f.rs.length 0) t.f.rs):=OV
   have B2:Hid (Below w1.heap.size w1 w1):=Below.refl _ _
   clear SV OV
   go_upto_region 3 with (at_builtin;refine wpList_append_own_none rfl _ _ 22 rfl w1.heap.size 53 t0 2 aU hi (.slice none t.f.rs.length 0) t.f.rs.length (aH t.f.rs) HSV.out O2.out rfl ?_)
   have C0:Hid (CI w1 w.heap.size (w.heap.size+1) t (.slice none t.f.rs.length 0) [] (.slice none 0 0) w1):=⟨(B2.out.block _ (by omega)).trans N0.out,(B2.out.block _ (by omega)).trans R0.out,O2.out,t4 _ _ _ _,fun u hu=>(by cases hu),B2.out⟩
   clear n0 n1 n2 n3 n4 n5
   go_wp2
   go_loopw [4,5] (fun s i wr=>∃ (j:Nat) (nk:List Tr) (kq:Option Addr) (kc:Nat),j<=t.ks.length/\i=.int .i64 (j:Int)/\s=.slice kq nk.length kc/\nk.map er=(t.ks.take j).map er/\CI w1 w.heap.size (w.heap.size+1) t (.slice none t.f.rs.length 0) nk (.slice kq nk.length kc) wr) (fun _ i _=>t.ks.length-(intOf i).toNat)
   case atStart=>exact⟨0,[],none,0,m7 _,rfl,rfl,rfl,C0.out⟩
   case round=>
    obtain⟨j,nk,kq,kc,hj,rfl,rfl,hmap,hC⟩:=hrel
    have K:=aB hC
    have HMP:=aB hmap
    have hnl:nk.length<=1000000:=by have:=congrArg List.length hmap;rw [r7,r7,o9] at this;omega
    have BW:Hid (Below w.heap.size w wr):=aF B0.out K.out.bel (by omega)
    obtain⟨n0,n1,n2,n3,n4,n5⟩:=K.out.bx.six
    simp only [a7] at n1 n2 n3 n4 n5
    have l1:=aC K.out.bx
    clear hmap hC
    by_cases hlt:j<t.ks.length
    ·obtain⟨u,hu⟩:∃ u,t.ks[j]?=some u:=⟨_,b7 hlt⟩
     have inu:u∈t.ks:=i5 hu
     obtain⟨qk,capk,e1,hm1,hcp1,hx1⟩:=HTA.out.node.k.slice
     injection e1 with e11 e12 e13
     obtain⟨g,o,eq,hg,six⟩:=hx1 j u hu
     rw [e11,HKL.out,eq] at n5
     obtain⟨c0,c1,c2',c3,c4,c5⟩:=six.ck (CK.of_below BW.out) hg
     have hgr:g<wr.heap.size:=j2 hg BW.out.size
     have i0:(0:Int)<=(j:Int):=by omega
     have i1:(j:Int)<(t.ks.length:Int):=by omega
     have hwr:IntKind.wrap .i64 ((j:Int)+1)=(j:Int)+1:=wrap_small _ (by omega) (by omega)
     have CU:=aB (IH.out u wr (by have:=bW inu;have:=HM.out;omega) (by have:=bW inu;have:=HSZ.out;omega) ((HTA.out.kid inu).kept BW.out))
     have NX:Hid (∀ u',er u'=er u->(nk++[u']).map er=(t.ks.take (j+1)).map er):=fun u' he=>by rw [o7,hu,o4,o4,HMP.out];simp [he]
     clear six hu e11 e12 e13 eq hx1 hm1 hcp1
     go_upto_region 8 with (go_at_call 12;refine(CU.out).mono ?_;rintro e w5 ⟨u',rfl,h51,h52,h53,h54⟩;have T5:=aB h51;have E5:=aB h52;have F5:=aB h53;have B5:=aB h54;clear h51 h52 h53 h54)
     have N6:Hid (BoxN (w5.alloc (.cells #[.int .i64 u'.f.k,.int .i64 u'.f.n,.int .i64 u'.f.mn,.int .i64 u'.f.mx,.slice u'.f.rq u'.f.rs.length u'.f.rc,.slice u'.f.kq u'.f.kl u'.f.kc] 25)) w5.heap.size u'.f):=aD w5 _
     have B6:Hid (Below w5.heap.size w5 (w5.alloc (.cells #[.int .i64 u'.f.k,.int .i64 u'.f.n,.int .i64 u'.f.mn,.int .i64 u'.f.mx,.slice u'.f.rq u'.f.rs.length u'.f.rc,.slice u'.f.kq u'.f.kl u'.f.kc] 25))):=bz9
     clear n0 n1 n2 n3 n4 n5 c0 c1 c2' c3 c4 c5
     generalize hz5:w5.heap.size=z5 at N6 B6 ⊢
     generalize (w5.alloc (.cells #[.int .i64 u'.f.k,.int .i64 u'.f.n,.int .i64 u'.f.mn,.int .i64 u'.f.mx,.slice u'.f.rq u'.f.rs.length u'.f.rc,.slice u'.f.kq u'.f.kl u'.f.kc] 25))=w6 at N6 B6 ⊢
     obtain⟨n0,n1,n2,n3,n4,n5⟩:=N6.out.six
     simp only [a7] at n1 n2 n3 n4 n5
     have B7:Hid (Below w6.heap.size w6 (w6.alloc (.cells #[.int .i64 u'.f.k,.int .i64 u'.f.n,.int .i64 u'.f.mn,.int .i64 u'.f.mx,.slice u'.f.rq u'.f.rs.length u'.f.rc,.slice u'.f.kq u'.f.kl u'.f.kc] 25))):=bz9
     have N7:=aB (eU (aD w6 (.cells #[.int .i64 u'.f.k,.int .i64 u'.f.n,.int .i64 u'.f.mn,.int .i64 u'.f.mx,.slice u'.f.rq u'.f.rs.length u'.f.rc,.slice u'.f.kq u'.f.kl u'.f.kc] 25)))
     have K7:=aB (((K.out.kept B5.out).kept (by rw [hz5];exact B6.out)).kept B7.out)
     have B67:Hid (Below w5.heap.size w5 (w6.alloc (.cells #[.int .i64 u'.f.k,.int .i64 u'.f.n,.int .i64 u'.f.mn,.int .i64 u'.f.mx,.slice u'.f.rq u'.f.rs.length u'.f.rc,.slice u'.f.kq u'.f.kl u'.f.kc] 25))):=aF (by rw [hz5];exact B6.out) B7.out lz9
     go_wp2_with (at_builtin;refine wpList_append_own_at _ rfl _ _ 23 rfl w1.heap.size 25 s0 (.agg #[.int .i64 0,.int .i64 0,.int .i64 0,.int .i64 0,.slice none 0 0,.slice none 0 0]) 6 80 bY ji jz0 jz1 jz2 rfl (by decide) (.slice kq nk.length kc) nk.length (aQ nk) rfl K7.out.row ⟨w6.heap.size,0,none⟩ 1 1 u'.f.cells rfl rfl N7.out (fun v hv=>by simp [Fl.cells] at hv;rcases hv with rfl | rfl | rfl | rfl | rfl | rfl <;> rfl) (by unfold maxLen;omega) (by omega) K7.out.bel.size ?_;intro v' w8 hown' hgrow _ hblk;obtain⟨q8,c8,rfl⟩:=aR hown';have K8:=aB (K.out.snoc (by omega) (by omega) B5.out T5.out F5.out B67.out hown' hgrow hblk);clear hown' hgrow hblk)
     go_roundw
     case rel=>exact⟨j+1,nk++[u'],q8,c8,by omega,by go_num,by rw [j3];rfl,NX.out u' E5.out,by rw [j3];exact K8.out⟩
     case measure=>simp [intOf];omega
    ·obtain rfl:j=t.ks.length:=by omega
     rw [aAB] at HMP
     rw [HKL.out] at n5
     have i1:¬ (t.ks.length:Int)<(t.ks.length:Int):=by omega
     have fb:=fun z=>aJ K.out.bx z
     have hbz:w.heap.size+1<wr.heap.size:=aC K.out.rz
     have BX1:Hid (BoxN (wr.setCell ⟨w.heap.size,4,none⟩ (.slice none t.f.rs.length 0)) w.heap.size ⟨t.f.k,t.f.n,t.f.mn,t.f.mx,t.f.rs,none,0,t.f.kq,t.f.kl,t.f.kc⟩):=aM K.out.bx 4 _
     have F1:Hid (Fr (fun z=>z=w.heap.size) wr (wr.setCell ⟨w.heap.size,4,none⟩ (.slice none t.f.rs.length 0))):=(Fr.refl (fun z=>z=w.heap.size) wr).setCell (p:=⟨w.heap.size,4,none⟩) rfl _
     go_upto_region 10 with fail
     clear n0 n1 n2 n3 n4 n5 fb
     generalize (wr.setCell ⟨w.heap.size,4,none⟩ (.slice none t.f.rs.length 0))=w10 at BX1 F1 ⊢
     obtain⟨n0,n1,n2,n3,n4,n5⟩:=BX1.out.six
     simp only [a7] at n1 n2 n3 n4 n5
     have fb:=fun z=>aJ BX1.out z
     have BX2:Hid (BoxN (w10.setCell ⟨w.heap.size,5,none⟩ (.slice kq nk.length kc)) w.heap.size ⟨t.f.k,t.f.n,t.f.mn,t.f.mx,t.f.rs,none,0,kq,nk.length,kc⟩):=aM BX1.out 5 _
     have F2:Hid (Fr (fun z=>z=w.heap.size) wr (w10.setCell ⟨w.heap.size,5,none⟩ (.slice kq nk.length kc))):=F1.out.setCell (p:=⟨w.heap.size,5,none⟩) rfl _
     go_upto_region 11 with fail
     clear n0 n1 n2 n3 n4 n5 fb
     generalize (w10.setCell ⟨w.heap.size,5,none⟩ (.slice kq nk.length kc))=w11 at BX2 F2 ⊢
     have RS:BoxN w11 (w.heap.size+1) zFl:=(F2.out.block _ hbz (by omega)).trans K.out.rz
     obtain⟨n0,n1,n2,n3,n4,n5⟩:=BX2.out.six
     simp only [a7] at n1 n2 n3 n4 n5
     obtain⟨r0,r1,r2,r3,r4,r5⟩:=RS.six
     simp only [a7] at r1 r2 r3 r4 r5
     have rz:=fun z=>aJ RS z
     have FP:=cE w11 (w.heap.size+1) 0 ⟨t.f.k,t.f.n,t.f.mn,t.f.mx,t.f.rs,none,0,kq,nk.length,kc⟩
     have FA:Fr (fun k=>k=w.heap.size\/k=w.heap.size+1) wr (bH w11 (w.heap.size+1) 0 ⟨t.f.k,t.f.n,t.f.mn,t.f.mx,t.f.rs,none,0,kq,nk.length,kc⟩):=(F2.out.mono fun k hk=>.inl hk).trans (FP.mono fun k hk=>.inr hk)
     have TR:=aB (K.out.tree (by omega) (by omega) HTA.out.node.fit hln FA w.heap.size (by omega))
     have BE:Hid (Below w.heap.size w (bH w11 (w.heap.size+1) 0 ⟨t.f.k,t.f.n,t.f.mn,t.f.mx,t.f.rs,none,0,kq,nk.length,kc⟩)):=aX BW.out FA lz9 (fun k e=>by omega)
     have X9:=aB (cJ (g:=⟨t.f.k,t.f.n,t.f.mn,t.f.mx,t.f.rs,none,0,kq,nk.length,kc⟩) RS.six)
     have XE:=aB (show er (.mk ⟨t.f.k,t.f.n,t.f.mn,t.f.mx,t.f.rs,none,0,kq,nk.length,kc⟩ nk)=er t by
      rw [bQ,bQ t]
      show Er.mk t.f.k t.f.n t.f.mn t.f.mx t.f.rs (nk.map er)=_
      rw [HMP.out])
     have PST:Hid (aT3 w (er t) (.returned (.agg #[.int .i64 t.f.k,.int .i64 t.f.n,.int .i64 t.f.mn,.int .i64 t.f.mx,.slice none t.f.rs.length 0,.slice kq nk.length kc])) (bH w11 (w.heap.size+1) 0 ⟨t.f.k,t.f.n,t.f.mn,t.f.mx,t.f.rs,none,0,kq,nk.length,kc⟩)):=⟨_,rfl,TR.out.1,XE.out,TR.out.2,BE.out⟩
     unfold bH at X9 PST
     clear RS FP FA TR BE XE K
     go_wp2
     refine oJ X9.out rfl rfl ?_
     exact PST.out
  | some ad=>
   rw [hrq] at n4
   have HG:=aB (T1.out.node.r)
   rw [hrq] at HG
   go_upto_region 3 with (at_builtin;refine wpList_append_own_at _ rfl _ _ 22 rfl w1.heap.size 53 t0 (.agg #[.int .i64 0,.int .i64 0]) 2 16 aU hi hz0 hz1 hz2 rfl (by decide) (.slice none 0 0) 0 [] rfl (t4 _ _ _ _) ad t.f.rs.length t.f.rc (aH t.f.rs) rfl (by rw [bV]) HG.out.news (eR t.f.rs) (by unfold maxLen;omega) (by omega) lz9 ?_;rw [a7,n9];intro v' w2 hown' hgrow _ hblk;obtain⟨q2,c2,rfl⟩:=aR hown';have O2:Hid (RR w1.heap.size w2 (.slice q2 t.f.rs.length c2) t.f.rs):=hown';have B2:Hid (Below w1.heap.size w1 w2):=fT (Below.refl _ _) lz9 (t4 (base:=w1.heap.size) w1 53 2) hgrow;clear hown' hgrow hblk)
   have C0:Hid (CI w1 w.heap.size (w.heap.size+1) t (.slice q2 t.f.rs.length c2) [] (.slice none 0 0) w2):=⟨(B2.out.block _ (by omega)).trans N0.out,(B2.out.block _ (by omega)).trans R0.out,O2.out,t4 _ _ _ _,fun u hu=>(by cases hu),B2.out⟩
   clear n0 n1 n2 n3 n4 n5
   go_wp2
   go_loopw [4,5] (fun s i wr=>∃ (j:Nat) (nk:List Tr) (kq:Option Addr) (kc:Nat),j<=t.ks.length/\i=.int .i64 (j:Int)/\s=.slice kq nk.length kc/\nk.map er=(t.ks.take j).map er/\CI w1 w.heap.size (w.heap.size+1) t (.slice q2 t.f.rs.length c2) nk (.slice kq nk.length kc) wr) (fun _ i _=>t.ks.length-(intOf i).toNat)
   case atStart=>exact⟨0,[],none,0,m7 _,rfl,rfl,rfl,C0.out⟩
   case round=>
    obtain⟨j,nk,kq,kc,hj,rfl,rfl,hmap,hC⟩:=hrel
    have K:=aB hC
    have HMP:=aB hmap
    have hnl:nk.length<=1000000:=by have:=congrArg List.length hmap;rw [r7,r7,o9] at this;omega
    have BW:Hid (Below w.heap.size w wr):=aF B0.out K.out.bel (by omega)
    obtain⟨n0,n1,n2,n3,n4,n5⟩:=K.out.bx.six
    simp only [a7] at n1 n2 n3 n4 n5
    have l1:=aC K.out.bx
    clear hmap hC
    by_cases hlt:j<t.ks.length
    ·obtain⟨u,hu⟩:∃ u,t.ks[j]?=some u:=⟨_,b7 hlt⟩
     have inu:u∈t.ks:=i5 hu
     obtain⟨qk,capk,e1,hm1,hcp1,hx1⟩:=HTA.out.node.k.slice
     injection e1 with e11 e12 e13
     obtain⟨g,o,eq,hg,six⟩:=hx1 j u hu
     rw [e11,HKL.out,eq] at n5
     obtain⟨c0,c1,c2',c3,c4,c5⟩:=six.ck (CK.of_below BW.out) hg
     have hgr:g<wr.heap.size:=j2 hg BW.out.size
     have i0:(0:Int)<=(j:Int):=by omega
     have i1:(j:Int)<(t.ks.length:Int):=by omega
     have hwr:IntKind.wrap .i64 ((j:Int)+1)=(j:Int)+1:=wrap_small _ (by omega) (by omega)
     have CU:=aB (IH.out u wr (by have:=bW inu;have:=HM.out;omega) (by have:=bW inu;have:=HSZ.out;omega) ((HTA.out.kid inu).kept BW.out))
     have NX:Hid (∀ u',er u'=er u->(nk++[u']).map er=(t.ks.take (j+1)).map er):=fun u' he=>by rw [o7,hu,o4,o4,HMP.out];simp [he]
     clear six hu e11 e12 e13 eq hx1 hm1 hcp1
     go_upto_region 8 with (go_at_call 12;refine(CU.out).mono ?_;rintro e w5 ⟨u',rfl,h51,h52,h53,h54⟩;have T5:=aB h51;have E5:=aB h52;have F5:=aB h53;have B5:=aB h54;clear h51 h52 h53 h54)
     have N6:Hid (BoxN (w5.alloc (.cells #[.int .i64 u'.f.k,.int .i64 u'.f.n,.int .i64 u'.f.mn,.int .i64 u'.f.mx,.slice u'.f.rq u'.f.rs.length u'.f.rc,.slice u'.f.kq u'.f.kl u'.f.kc] 25)) w5.heap.size u'.f):=aD w5 _
     have B6:Hid (Below w5.heap.size w5 (w5.alloc (.cells #[.int .i64 u'.f.k,.int .i64 u'.f.n,.int .i64 u'.f.mn,.int .i64 u'.f.mx,.slice u'.f.rq u'.f.rs.length u'.f.rc,.slice u'.f.kq u'.f.kl u'.f.kc] 25))):=bz9
     clear n0 n1 n2 n3 n4 n5 c0 c1 c2' c3 c4 c5
     generalize hz5:w5.heap.size=z5 at N6 B6 ⊢
     generalize (w5.alloc (.cells #[.int .i64 u'.f.k,.int .i64 u'.f.n,.int .i64 u'.f.mn,.int .i64 u'.f.mx,.slice u'.f.rq u'.f.rs.length u'.f.rc,.slice u'.f.kq u'.f.kl u'.f.kc] 25))=w6 at N6 B6 ⊢
     obtain⟨n0,n1,n2,n3,n4,n5⟩:=N6.out.six
     simp only [a7] at n1 n2 n3 n4 n5
     have B7:Hid (Below w6.heap.size w6 (w6.alloc (.cells #[.int .i64 u'.f.k,.int .i64 u'.f.n,.int .i64 u'.f.mn,.int .i64 u'.f.mx,.slice u'.f.rq u'.f.rs.length u'.f.rc,.slice u'.f.kq u'.f.kl u'.f.kc] 25))):=bz9
     have N7:=aB (eU (aD w6 (.cells #[.int .i64 u'.f.k,.int .i64 u'.f.n,.int .i64 u'.f.mn,.int .i64 u'.f.mx,.slice u'.f.rq u'.f.rs.length u'.f.rc,.slice u'.f.kq u'.f.kl u'.f.kc] 25)))
     have K7:=aB (((K.out.kept B5.out).kept (by rw [hz5];exact B6.out)).kept B7.out)
     have B67:Hid (Below w5.heap.size w5 (w6.alloc (.cells #[.int .i64 u'.f.k,.int .i64 u'.f.n,.int .i64 u'.f.mn,.int .i64 u'.f.mx,.slice u'.f.rq u'.f.rs.length u'.f.rc,.slice u'.f.kq u'.f.kl u'.f.kc] 25))):=aF (by rw [hz5];exact B6.out) B7.out lz9
     go_wp2_with (at_builtin;refine wpList_append_own_at _ rfl _ _ 23 rfl w1.heap.size 25 s0 (.agg #[.int .i64 0,.int .i64 0,.int .i64 0,.int .i64 0,.slice none 0 0,.slice none 0 0]) 6 80 bY ji jz0 jz1 jz2 rfl (by decide) (.slice kq nk.length kc) nk.length (aQ nk) rfl K7.out.row ⟨w6.heap.size,0,none⟩ 1 1 u'.f.cells rfl rfl N7.out (fun v hv=>by simp [Fl.cells] at hv;rcases hv with rfl | rfl | rfl | rfl | rfl | rfl <;> rfl) (by unfold maxLen;omega) (by omega) K7.out.bel.size ?_;intro v' w8 hown' hgrow _ hblk;obtain⟨q8,c8,rfl⟩:=aR hown';have K8:=aB (K.out.snoc (by omega) (by omega) B5.out T5.out F5.out B67.out hown' hgrow hblk);clear hown' hgrow hblk)
     go_roundw
     case rel=>exact⟨j+1,nk++[u'],q8,c8,by omega,by go_num,by rw [j3];rfl,NX.out u' E5.out,by rw [j3];exact K8.out⟩
     case measure=>simp [intOf];omega
    ·obtain rfl:j=t.ks.length:=by omega
     rw [aAB] at HMP
     rw [HKL.out] at n5
     have i1:¬ (t.ks.length:Int)<(t.ks.length:Int):=by omega
     have fb:=fun z=>aJ K.out.bx z
     have hbz:w.heap.size+1<wr.heap.size:=aC K.out.rz
     have BX1:Hid (BoxN (wr.setCell ⟨w.heap.size,4,none⟩ (.slice q2 t.f.rs.length c2)) w.heap.size ⟨t.f.k,t.f.n,t.f.mn,t.f.mx,t.f.rs,q2,c2,t.f.kq,t.f.kl,t.f.kc⟩):=aM K.out.bx 4 _
     have F1:Hid (Fr (fun z=>z=w.heap.size) wr (wr.setCell ⟨w.heap.size,4,none⟩ (.slice q2 t.f.rs.length c2))):=(Fr.refl (fun z=>z=w.heap.size) wr).setCell (p:=⟨w.heap.size,4,none⟩) rfl _
     go_upto_region 10 with fail
     clear n0 n1 n2 n3 n4 n5 fb
     generalize (wr.setCell ⟨w.heap.size,4,none⟩ (.slice q2 t.f.rs.length c2))=w10 at BX1 F1 ⊢
     obtain⟨n0,n1,n2,n3,n4,n5⟩:=BX1.out.six
     simp only [a7] at n1 n2 n3 n4 n5
     have fb:=fun z=>aJ BX1.out z
     have BX2:Hid (BoxN (w10.setCell ⟨w.heap.size,5,none⟩ (.slice kq nk.length kc)) w.heap.size ⟨t.f.k,t.f.n,t.f.mn,t.f.mx,t.f.rs,q2,c2,kq,nk.length,kc⟩):=aM BX1.out 5 _
     have F2:Hid (Fr (fun z=>z=w.heap.size) wr (w10.setCell ⟨w.heap.size,5,none⟩ (.slice kq nk.length kc))):=F1.out.setCell (p:=⟨w.heap.size,5,none⟩) rfl _
     go_upto_region 11 with fail
     clear n0 n1 n2 n3 n4 n5 fb
     generalize (w10.setCell ⟨w.heap.size,5,none⟩ (.slice kq nk.length kc))=w11 at BX2 F2 ⊢
     have RS:BoxN w11 (w.heap.size+1) zFl:=(F2.out.block _ hbz (by omega)).trans K.out.rz
     obtain⟨n0,n1,n2,n3,n4,n5⟩:=BX2.out.six
     simp only [a7] at n1 n2 n3 n4 n5
     obtain⟨r0,r1,r2,r3,r4,r5⟩:=RS.six
     simp only [a7] at r1 r2 r3 r4 r5
     have rz:=fun z=>aJ RS z
     have FP:=cE w11 (w.heap.size+1) 0 ⟨t.f.k,t.f.n,t.f.mn,t.f.mx,t.f.rs,q2,c2,kq,nk.length,kc⟩
     have FA:Fr (fun k=>k=w.heap.size\/k=w.heap.size+1) wr (bH w11 (w.heap.size+1) 0 ⟨t.f.k,t.f.n,t.f.mn,t.f.mx,t.f.rs,q2,c2,kq,nk.length,kc⟩):=(F2.out.mono fun k hk=>.inl hk).trans (FP.mono fun k hk=>.inr hk)
     have TR:=aB (K.out.tree (by omega) (by omega) HTA.out.node.fit hln FA w.heap.size (by omega))
     have BE:Hid (Below w.heap.size w (bH w11 (w.heap.size+1) 0 ⟨t.f.k,t.f.n,t.f.mn,t.f.mx,t.f.rs,q2,c2,kq,nk.length,kc⟩)):=aX BW.out FA lz9 (fun k e=>by omega)
     have X9:=aB (cJ (g:=⟨t.f.k,t.f.n,t.f.mn,t.f.mx,t.f.rs,q2,c2,kq,nk.length,kc⟩) RS.six)
     have XE:=aB (show er (.mk ⟨t.f.k,t.f.n,t.f.mn,t.f.mx,t.f.rs,q2,c2,kq,nk.length,kc⟩ nk)=er t by
      rw [bQ,bQ t]
      show Er.mk t.f.k t.f.n t.f.mn t.f.mx t.f.rs (nk.map er)=_
      rw [HMP.out])
     have PST:Hid (aT3 w (er t) (.returned (.agg #[.int .i64 t.f.k,.int .i64 t.f.n,.int .i64 t.f.mn,.int .i64 t.f.mx,.slice q2 t.f.rs.length c2,.slice kq nk.length kc])) (bH w11 (w.heap.size+1) 0 ⟨t.f.k,t.f.n,t.f.mn,t.f.mx,t.f.rs,q2,c2,kq,nk.length,kc⟩)):=⟨_,rfl,TR.out.1,XE.out,TR.out.2,BE.out⟩
     unfold bH at X9 PST
     clear RS FP FA TR BE XE K
     go_wp2
     refine oJ X9.out rfl rfl ?_
     exact PST.out
abbrev At(b k:Nat):Prop:=k=b
structure XN9(N:Nat->Prop)(W:World)(t:Tr):Prop where
 r:t.f.rs=[]\/∃ g off cur,t.f.rq=some ⟨g,off,none⟩/\N g/\W.heap[g]?=some (.cells cur 53 (0,0))/\off+2*t.f.rs.length<=cur.size
 k:t.ks=[]\/∃ g off,t.f.kq=some ⟨g,off,none⟩/\N g/\(∃ cur,W.heap[g]?=some (.cells cur 25 (0,0)))/\∀ i u,t.ks[i]?=some u->Six W g (off+i*6) u.f\/Six W g (off+i*6) (dO (-5))
 kl:t.f.kl=t.ks.length
 rl:t.f.rs.length<=8796093022208
 ml:t.ks.length<=maxLen
def XA9(N:Nat->Prop)(W:World)(t:Tr):Prop:=bG (XN9 N W) t
theorem aK5{W:World}{g i:Nat}{cur:Array Value}{t:TypeId}{v:Value}(hc:W.heap[g]?=some (.cells cur t (0,0)))(h:W.cell? ⟨g,i,none⟩=some v):i<cur.size:=by
 unfold World.cell? at h
 simp only [hc] at h
 by_cases hi:i<cur.size
 ·exact hi
 ·rw [Array.getElem?_eq_none (by omega)] at h;cases h
theorem NA.sn{N:Nat->Prop}{W:World}{t:Tr}(h:NA W t)(hf:oQ N t):XN9 N W t:=by
 refine⟨?_,?_,h.kl,by have:=h.len;omega,?_⟩
 ·by_cases e:t.f.rs=[]
  ·exact .inl e
  ·rcases h.r with⟨p,cap,-,z,-⟩ | ⟨g,off,cap,z,h2,h3,h4,h5⟩
   ·exact absurd z e
   ·injection z with z1
    obtain⟨cur,hc⟩:=h.own.1 _ z1 e
    refine .inr ⟨g,off,cur,z1,hf.1 _ z1 e,hc,?_⟩
    have hl:t.f.rs.length-1<t.f.rs.length:=by have:t.f.rs.length≠0:=fun q=>e (n8 q);omega
    have:=aK5 hc (h5 _ _ (b7 hl)).2
    omega
 ·rcases h.k with⟨p,cap,-,z,-⟩ | ⟨g,off,cap,z,h2,h3,h4,h5⟩
  ·exact .inl z
  ·by_cases e:t.ks=[]
   ·exact .inl e
   ·injection z with z1
    exact .inr ⟨g,off,z1,hf.2 _ z1 e,h.own.2 _ z1 e,fun i u hu=>.inl (h5 i u hu)⟩
 ·obtain⟨q,cap,-,z,-⟩:=h.k.slice
  exact z
theorem TA.sa{N:Nat->Prop}{W:World}{t:Tr}(h:TA W t)(hf:Foot N t):XA9 N W t:=fE (fun _ a b=>NA.sn a b) t h hf
theorem XN9.mono{N M:Nat->Prop}{W:World}{t:Tr}(h:XN9 N W t)(hm:∀ k,k<W.heap.size->N k->M k):XN9 M W t:=
 ⟨h.r.imp id fun⟨g,off,cur,a,b,c,d⟩=>⟨g,off,cur,a,hm g (aC c) b,c,d⟩,h.k.imp id fun⟨g,off,a,b,c,d⟩=>⟨g,off,a,(by obtain⟨cur,c'⟩:=c;exact hm g (aC c') b),c,d⟩,h.kl,h.rl,h.ml⟩
theorem XA9.mono{N M:Nat->Prop}{W:World}{t:Tr}(h:XA9 N W t)(hm:∀ k,k<W.heap.size->N k->M k):XA9 M W t:=dA (fun _ q=>q.mono hm) t h
theorem iX{W W':World}{g o:Nat}{f:Fl}(h:Six W g o f)(hb:W'.heap[g]?=W.heap[g]?):Six W' g o f:=by
 have e:∀ i,W'.cell? ⟨g,i,none⟩=W.cell? ⟨g,i,none⟩:=fun i=>(by unfold World.cell?;simp only [hb])
 unfold Six
 simp only [e]
 exact h
theorem XN9.kept{N:Nat->Prop}{W W':World}{t:Tr}(h:XN9 N W t)(hb:Below W.heap.size W W'):XN9 N W' t:=
 ⟨h.r.imp id fun⟨g,off,cur,a,b,c,d⟩=>⟨g,off,cur,a,b,(hb.block _ (aC c)).trans c,d⟩,h.k.imp id fun⟨g,off,a,b,c,d⟩=>by
  obtain⟨cur,c'⟩:=c
  have e:=hb.block _ (aC c')
  exact⟨g,off,a,b,⟨cur,e.trans c'⟩,fun i u hu=>(d i u hu).imp (fun q=>iX q e) (fun q=>iX q e)⟩,h.kl,h.rl,h.ml⟩
theorem XA9.kept{N:Nat->Prop}{W W':World}{t:Tr}(h:XA9 N W t)(hb:Below W.heap.size W W'):XA9 N W' t:=dA (fun _ q=>q.kept hb) t h
theorem XN9.rng{N:Nat->Prop}{W W':World}{t:Tr}{b:Nat}{c1 c2:Array Value}(h:XN9 N W t)(hf:Fr (At b) W W')(h1:W.heap[b]?=some (.cells c1 53 (0,0)))(h2:W'.heap[b]?=some (.cells c2 53 (0,0)))(hs:c2.size=c1.size):XN9 N W' t:=by
 refine⟨h.r.imp id fun⟨g,off,cur,a,b',c,d⟩=>?_,h.k.imp id fun⟨g,off,a,b',c,d⟩=>?_,h.kl,h.rl,h.ml⟩
 ·by_cases e:g=b
  ·subst e
   rw [h1] at c
   cases c
   exact⟨g,off,c2,a,b',h2,by omega⟩
  ·exact⟨g,off,cur,a,b',(hf.block _ (aC c) e).trans c,d⟩
 ·obtain⟨cur,c'⟩:=c
  have e:=hf.block _ (aC c') (fun z:g=b=>pU c' h1 (by decide) z)
  exact⟨g,off,a,b',⟨cur,e.trans c'⟩,fun i u hu=>(d i u hu).imp (fun q=>iX q e) (fun q=>iX q e)⟩
theorem vX{W:World}{g o p:Nat}{f f':Fl}(h:Six W g o f)(h':Six W g p f'):o=p\/p+6<=o\/o+6<=p:=by
 have key:∀ (o d:Nat) (f f':Fl),Six W g o f->Six W g (o+d) f'->d=0\/6<=d:=by
  intro o d f f' h h'
  obtain⟨a0,a1,a2,a3,a4,a5⟩:=h
  obtain⟨b0,b1,b2,b3,b4,b5⟩:=h'
  by_cases hd:6<=d
  ·exact .inr hd
  ·have:d=0\/d=1\/d=2\/d=3\/d=4\/d=5:=by omega
   rcases this with rfl | rfl | rfl | rfl | rfl | rfl
   ·exact .inl rfl
   ·rw [show o+1+3=o+4 from rfl,a4] at b3;cases b3
   ·rw [show o+2+2=o+4 from rfl,a4] at b2;cases b2
   ·rw [show o+3+1=o+4 from rfl,a4] at b1;cases b1
   ·rw [a4] at b0;cases b0
   ·rw [a5] at b0;cases b0
 rcases Nat.le_total o p with q | q
 ·obtain⟨d,rfl⟩:=Nat.exists_eq_add_of_le q
  have:=key o d f f' h h'
  omega
 ·obtain⟨d,rfl⟩:=Nat.exists_eq_add_of_le q
  have:=key p d f' f h' h
  omega
theorem uI{W:World}{g o p:Nat}{f f':Fl}(h:Six W g o f)(h':Six W g p f'):Six (bH W g o (dO (-5))) g p f'\/Six (bH W g o (dO (-5))) g p (dO (-5)):=by
 rcases vX h h' with e | e
 ·subst e
  exact .inr (cJ h)
 ·obtain⟨k0,k1,k2,k3,k4,k5⟩:=h'
  exact .inl ⟨cX k0 (by omega),cX k1 (by omega),cX k2 (by omega),cX k3 (by omega),cX k4 (by omega),cX k5 (by omega)⟩
theorem XN9.kid{N:Nat->Prop}{W:World}{t:Tr}{b o:Nat}{f:Fl}{c1:Array Value}(h:XN9 N W t)(h1:W.heap[b]?=some (.cells c1 25 (0,0)))(h6:Six W b o f):XN9 N (bH W b o (dO (-5))) t:=by
 have hf:=cE W b o (dO (-5))
 refine⟨h.r.imp id fun⟨g,off,cur,a,b',c,d⟩=>?_,h.k.imp id fun⟨g,off,a,b',c,d⟩=>?_,h.kl,h.rl,h.ml⟩
 ·exact⟨g,off,cur,a,b',(hf.block _ (aC c) (fun z:g=b=>pU c h1 (by decide) z)).trans c,d⟩
 ·by_cases e:g=b
  ·subst e
   refine⟨g,off,a,b',?_,fun i u hu=>?_⟩
   ·unfold bH
    exact bO (bO (bO (bO (bO (bO ⟨_,h1⟩ _ _) _ _) _ _) _ _) _ _) _ _
   ·rcases d i u hu with q | q
    ·exact uI h6 q
    ·exact(uI h6 q).elim .inr .inr
  ·obtain⟨cur,c'⟩:=c
   have e2:=hf.block _ (aC c') e
   exact⟨g,off,a,b',⟨cur,e2.trans c'⟩,fun i u hu=>(d i u hu).imp (fun q=>iX q e2) (fun q=>iX q e2)⟩
structure XW9(N:Nat->Prop)(W W':World):Prop where
 fr:Fr N W W'
 sa:∀ t,XA9 N W t->XA9 N W' t
theorem XW9.refl(N:Nat->Prop)(W:World):XW9 N W W:=⟨Fr.refl _ _,fun _ h=>h⟩
theorem XW9.trans{N:Nat->Prop}{A B C:World}(h:XW9 N A B)(k:XW9 N B C):XW9 N A C:=⟨h.fr.trans k.fr,fun t q=>k.sa t (h.sa t q)⟩
theorem XW9.below{N:Nat->Prop}{A B:World}(h:Below A.heap.size A B):XW9 N A B:=⟨Fr.of_below h,fun _ q=>q.kept h⟩
theorem XW9.rng{N:Nat->Prop}{W:World}{g o:Nat}{cur:Array Value}(hN:N g)(h:W.heap[g]?=some (.cells cur 53 (0,0)))(x y:Value):XW9 N W ((W.setCell ⟨g,o,none⟩ x).setCell ⟨g,o+1,none⟩ y):=by
 have hf:∀ S:Nat->Prop,S g->Fr S W ((W.setCell ⟨g,o,none⟩ x).setCell ⟨g,o+1,none⟩ y):=fun S hS=>((Fr.refl S W).setCell (p:=⟨g,o,none⟩) hS _).setCell (p:=⟨g,o+1,none⟩) hS _
 exact⟨hf N hN,fun t q=>dA (fun _ q=>q.rng (hf (At g) rfl) h (aM (aM h o x) (o+1) y) (by simp)) t q⟩
theorem XW9.kid{N:Nat->Prop}{W:World}{g o:Nat}{f:Fl}{cur:Array Value}(hN:N g)(h:W.heap[g]?=some (.cells cur 25 (0,0)))(h6:Six W g o f):XW9 N W (bH W g o (dO (-5))):=by
 refine⟨?_,fun t q=>dA (fun _ q=>q.kid h h6) t q⟩
 have:=cE W g o (dO (-5))
 exact⟨this.os,this.tape,this.output,this.size,fun i hi hn=>this.block i hi (fun e=>hn (e ▸ hN))⟩
theorem XW9.mono{N M:Nat->Prop}{A B:World}(h:XW9 N A B)(h1:∀ k,N k->M k)(h2:∀ k,k<A.heap.size->M k->N k):XW9 M A B:=
 ⟨⟨h.fr.os,h.fr.tape,h.fr.output,h.fr.size,fun i hi hn=>h.fr.block i hi (fun z=>hn (h1 i z))⟩,fun t q=>(h.sa t (q.mono h2)).mono (fun k _ z=>h1 k z)⟩
theorem aK8(N:Nat->Prop)(W:World):XA9 N W (.mk (dO (-5)) []):=(aL _).2 ⟨⟨.inl rfl,.inl rfl,rfl,m7 _,m7 _⟩,(aO _).2 fun u hu=>by cases hu⟩
theorem yR:∀ (m:Nat) (t:Tr) (N:Nat->Prop) (W:World),t.sz<=m->XA9 N W t->Calls Tryz.prog 17 #[.agg #[.int .i64 t.f.k,.int .i64 t.f.n,.int .i64 t.f.mn,.int .i64 t.f.mx,.slice t.f.rq t.f.rs.length t.f.rc,.slice t.f.kq t.f.kl t.f.kc]] W fun e w'=>e=.returned (.tuple #[])/\XW9 N W w':=by
 intro m
 induction m with
 | zero=>intro t N W hm;exact absurd (dM t) (by omega)
 | succ m ih=>
  intro t N W hm hsa
  obtain⟨M,hM⟩:∃ M:Nat->Prop,M=fun k=>N k/\k<W.heap.size:=⟨_,rfl⟩
  have h1:XA9 M W t:=hsa.mono (fun k a b=>by rw [hM];exact⟨b,a⟩)
  have RES:Hid (∀ w',XW9 M W w'->XW9 N W w'):=fun w' h=>h.mono (fun k hk=>by rw [hM] at hk;exact hk.1) (fun k a b=>by rw [hM];exact⟨b,a⟩)
  have HML:Hid (¬ M W.heap.size):=fun h=>by rw [hM] at h;exact absurd h.2 (Nat.lt_irrefl _)
  have B0:Below W.heap.size W (W.alloc (.cells #[.int .i64 t.f.k,.int .i64 t.f.n,.int .i64 t.f.mn,.int .i64 t.f.mx,.slice t.f.rq t.f.rs.length t.f.rc,.slice t.f.kq t.f.kl t.f.kc] 25)):=bz9
  have S0:=aB (XW9.below (N:=M) B0)
  have SA1:=aB (h1.kept B0)
  have N1:Hid (BoxN (W.alloc (.cells #[.int .i64 t.f.k,.int .i64 t.f.n,.int .i64 t.f.mn,.int .i64 t.f.mx,.slice t.f.rq t.f.rs.length t.f.rc,.slice t.f.kq t.f.kl t.f.kc] 25)) W.heap.size t.f):=aD W _
  have IH:Hid (∀ u W',u.sz<=m->XA9 M W' u->Calls Tryz.prog 17 #[.agg #[.int .i64 u.f.k,.int .i64 u.f.n,.int .i64 u.f.mn,.int .i64 u.f.mx,.slice u.f.rq u.f.rs.length u.f.rc,.slice u.f.kq u.f.kl u.f.kc]] W' fun e w'=>e=.returned (.tuple #[])/\XW9 M W' w'):=fun u W' a b=>ih u M W' a b
  have HSZ:=aB hm
  have hkl:=((aL t).1 h1).1.kl
  have hrl:=((aL t).1 h1).1.rl
  have hml:=((aL t).1 h1).1.ml
  rw [<- hkl] at hml
  unfold maxLen at hml
  have HKL:=aB hkl
  clear ih hm hsa hM h1 B0 hkl
  go_enter Tryz.func17,Tryz.ntmps17
  go_upto_region 2 with fail
  generalize W.alloc (.cells #[.int .i64 t.f.k,.int .i64 t.f.n,.int .i64 t.f.mn,.int .i64 t.f.mx,.slice t.f.rq t.f.rs.length t.f.rc,.slice t.f.kq t.f.kl t.f.kc] 25)=W1 at S0 SA1 N1 ⊢
  go_loopw [2] (fun i wr=>∃ j:Nat,j<=t.f.rs.length/\i=.int .i64 (j:Int)/\XW9 M W1 wr) (fun i _=>t.f.rs.length-(intOf i).toNat)
  case atStart=>exact⟨0,m7 _,rfl,XW9.refl _ _⟩
  case round=>
   obtain⟨j,hj,rfl,hs⟩:=hrel
   have HS:=aB hs
   have hn:BoxN wr W.heap.size t.f:=(hs.fr.block _ (aC N1.out) HML.out).trans N1.out
   have ln:=aC hn
   have n4:=hn.six.2.2.2.2.1
   have HN:=aB hn
   clear hs hn
   by_cases hjl:j<t.f.rs.length
   ·have i0:(j:Int)<(t.f.rs.length:Int):=by omega
    rcases ((aL t).1 (HS.out.sa t SA1.out)).1.r with z | ⟨g,off,cur,z1,z2,z3,z4⟩
    ·rw [z] at hjl;exact absurd hjl (by simp)
    ·rw [z1] at n4
     obtain⟨v0,r0⟩:∃ v,wr.cell? ⟨g,off+j*2,none⟩=some v:=⟨_,aA z3 (i:=off+j*2) (Array.getElem?_eq_getElem (by omega))⟩
     obtain⟨v1,r1⟩:∃ v,wr.cell? ⟨g,off+j*2+1,none⟩=some v:=⟨_,aA z3 (i:=off+j*2+1) (Array.getElem?_eq_getElem (by omega))⟩
     have fz:=fun z=>aJ z3 z
     have lg:=aC z3
     have NX:=aB (XW9.rng (o:=off+j*2) z2 z3 (.int .i64 5) (.int .i64 (-5)))
     clear z1 z2 z3 z4
     go_wp2
     go_roundw
     case rel=>exact⟨j+1,by omega,by go_num,HS.out.trans NX.out⟩
     case measure=>simp only [intOf];omega
   ·have i0:¬ (j:Int)<(t.f.rs.length:Int):=by omega
    go_wp2
    go_loopw [3] (fun i wr=>∃ j:Nat,j<=t.f.kl/\i=.int .i64 (j:Int)/\XW9 M W1 wr) (fun i _=>t.f.kl-(intOf i).toNat)
    case atStart=>exact⟨0,m7 _,rfl,HS.out⟩
    case round=>
     clear HS HN ln
     obtain⟨j,hj,rfl,hs⟩:=hrel
     have HS:=aB hs
     have hn:BoxN wr W.heap.size t.f:=(hs.fr.block _ (aC N1.out) HML.out).trans N1.out
     have ln:=aC hn
     have n5:=hn.six.2.2.2.2.2
     clear hs hn
     by_cases hjl:j<t.f.kl
     ·have i0:(j:Int)<(t.f.kl:Int):=by omega
      obtain⟨v,hv⟩:∃ u,t.ks[j]?=some u:=⟨_,b7 (by rw [<- HKL.out];exact hjl)⟩
      have hT:=HS.out.sa t SA1.out
      have hin:=i5 hv
      rcases ((aL t).1 hT).1.k with z | ⟨g,off,z1,z2,⟨cur,z3⟩,z4⟩
      ·rw [z] at hin;cases hin
      ·obtain⟨u,hu6,husz,husa⟩:∃ u:Tr,Six wr g (off+j*6) u.f/\u.sz<=m/\XA9 M wr u:=by
        rcases z4 j v hv with q | q
        ·exact⟨v,q,by have:=bW hin;have:=HSZ.out;omega,cH hT hin⟩
        ·exact⟨.mk (dO (-5)) [],q,by have:=bW hin;have:=dM v;have:=HSZ.out;rw [dY];show szs []+1<=m;rw [dJ];omega,aK8 _ _⟩
       rw [z1] at n5
       obtain⟨c0,c1,c2,c3,c4,c5⟩:=hu6
       have lg:=aC z3
       have CC:=aB (IH.out u wr husz husa)
       have HV:=aB (show t.f.kq=some ⟨g,off,none⟩/\t.ks[j]?=some v from ⟨z1,hv⟩)
       clear z1 z2 z3 z4 hv hT hin husz husa
       go_upto_region 9 with (go_at_call 17;(with_reducible refine(CC.out).mono ?_);rintro e w6 ⟨rfl,h1⟩;have H6:=aB (HS.out.trans h1);clear h1)
       clear c0 c1 c2 c3 c4 c5 n5 lg ln
       have hT:=H6.out.sa t SA1.out
       have hn:BoxN w6 W.heap.size t.f:=(H6.out.fr.block _ (aC N1.out) HML.out).trans N1.out
       have ln:=aC hn
       have n5:=hn.six.2.2.2.2.2
       rcases ((aL t).1 hT).1.k with z | ⟨g',off',z1,z2,⟨cur',z3⟩,z4⟩
       ·have:=i5 HV.out.2;rw [z] at this;cases this
       ·have hq:=HV.out.1
        rw [z1] at hq
        cases hq
        rw [z1] at n5
        obtain⟨f,hf⟩:∃ f,Six w6 g (off+j*6) f:=(z4 j v HV.out.2).elim (fun q=>⟨_,q⟩) (fun q=>⟨_,q⟩)
        have NX:=aB (XW9.kid z2 z3 hf)
        unfold bH at NX
        obtain⟨c0,c1,c2,c3,c4,c5⟩:=hf
        have lg:=aC z3
        have fz:=fun z=>aJ z3 z
        clear z1 z2 z3 z4 hT hn
        go_wp2
        go_roundw
        case rel=>exact⟨j+1,by omega,by go_num,H6.out.trans NX.out⟩
        case measure=>simp only [intOf];omega
     ·have i0:¬ (j:Int)<(t.f.kl:Int):=by omega
      go_wp2
      go_end0
      exact⟨rfl,RES.out _ (S0.out.trans HS.out)⟩
section
attribute [local go_sem] Oper.semAt_some
theorem vJ{w:World}{t:Tr}(c o:Bool)(hta:TB w t)(hsm:Sm t):Calls Tryz.prog 8 #[.agg #[.int .i64 t.f.k,.int .i64 t.f.n,.int .i64 t.f.mn,.int .i64 t.f.mx,.slice t.f.rq t.f.rs.length t.f.rc,.slice t.f.kq t.f.kl t.f.kc],.agg #[.bool c,.bool o]] w fun e w'=>e=.returned (.int .i64 (tvI (gH c) c o t))/\Below w.heap.size w w':=by
 have X1:Hid (Bx2 w ((w.alloc (.cells #[.int .i64 t.f.k,.int .i64 t.f.n,.int .i64 t.f.mn,.int .i64 t.f.mx,.slice t.f.rq t.f.rs.length t.f.rc,.slice t.f.kq t.f.kl t.f.kc] 25)).alloc (.cells #[.bool c,.bool o] 27)) t.f c o):=⟨(bz9).alloc (by simp) _,(Below.heap_alloc _ _ _ (by simp)).trans (aD w _),lG _ (by simp only [m8])⟩
 have HTA:=aB hta
 have HSM:=aB hsm
 have HV:=aB (sO c o t)
 clear hta hsm
 go_enter Tryz.func8,Tryz.ntmps8
 go_upto_region 1 with fail
 generalize ((w.alloc (.cells #[.int .i64 t.f.k,.int .i64 t.f.n,.int .i64 t.f.mn,.int .i64 t.f.mx,.slice t.f.rq t.f.rs.length t.f.rc,.slice t.f.kq t.f.kl t.f.kc] 25)).alloc (.cells #[.bool c,.bool o] 27))=w1 at X1 ⊢
 obtain⟨n0,n1,n2,n3,n4,n5⟩:=X1.out.2.1.six
 simp only [a7] at n1 n2 n3 n4 n5
 have a0:=aA X1.out.2.2 (i:=0) rfl
 have a1:=aA X1.out.2.2 (i:=1) rfl
 have RT:=aB (wF c o (HTA.out.kept X1.out.1) HSM.out)
 by_cases hr:aV c o 0 0 (pp [] t)=0
 ·have HR:=aB hr
  rw [r9 hr] at RT
  rw [if_pos hr] at HV
  clear hr
  have CS:Hid (∀ W,Below w.heap.size w W->Calls Tryz.prog 25 #[.agg #[.int .i64 t.f.k,.int .i64 t.f.n,.int .i64 t.f.mn,.int .i64 t.f.mx,.slice t.f.rq t.f.rs.length t.f.rc,.slice t.f.kq t.f.kl t.f.kc],.agg #[.bool c,.bool o]] W fun e w'=>e=.returned (.int .i64 (sG c t))/\Below W.heap.size W w'):=fun W hW=>vH c o t.sz t W lz9 (zK HR.out) (HTA.out.kept hW) (zM HR.out)
  obtain⟨X,hX⟩:∃ X,sG c t=X:=⟨_,rfl⟩
  rw [hX] at HV CS
  clear hX
  go_upto_region 4 with (go_at_call 24;refine(RT.out).mono ?_;rintro e w2 ⟨rfl,h2⟩;have X2:=aB (X1.out.kept h2);clear h2)
  clear n0 n1 n2 n3 n4 n5 a0 a1
  obtain⟨n0,n1,n2,n3,n4,n5⟩:=X2.out.2.1.six
  simp only [a7] at n1 n2 n3 n4 n5
  have a0:=aA X2.out.2.2 (i:=0) rfl
  have a1:=aA X2.out.2.2 (i:=1) rfl
  go_wp2_with (go_at_call 25;refine(CS.out _ X2.out.1).mono ?_;rintro e w3 ⟨rfl,h3⟩;have B3:=aB (aF X2.out.1 h3 lz9);clear h3)
  go_ret
  exact⟨by rw [HV.out];rfl,B3.out⟩
 ·rw [j8 hr] at RT
  rw [if_neg hr] at HV
  clear hr
  go_wp2_with (go_at_call 24;refine(RT.out).mono ?_;rintro e w2 ⟨rfl,h2⟩;have B2:=aB (aF X1.out.1 h2 lz9);clear h2)
  go_ret
  exact⟨by rw [HV.out];rfl,B2.out⟩
end
end Go.Proofs.YtlamifbjklpdbaaGreat

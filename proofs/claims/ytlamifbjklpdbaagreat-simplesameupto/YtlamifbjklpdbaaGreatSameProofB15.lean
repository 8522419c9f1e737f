/-
  Parts of the proof.
-/
import Derived.Test.YtlamifbjklpdbaaGreatSameProofA0
import Derived.Test.YtlamifbjklpdbaaGreatSameProofB14
import Derived.Test.YtlamifbjklpdbaaGreatSameProofB9
import Derived.Test.YtlamifbjklpdbaaGreatSameProofB8
import Derived.Lib.IndexMore
set_option linter.unusedSimpArgs false
namespace Go.Proofs.YtlamifbjklpdbaaGreat
open Go Go.RowKit
section
theorem qD(a b:List Ps):bT (a++b)=bT a+bT b:=by
 induction a with
 | nil=>rw [bT];simp
 | cons x a ih=>rw [t4,bT,bT,ih];omega
theorem vD(a b:List Ps):cK (a++b)=cK b++cK a:=by
 induction a with
 | nil=>rw [cK];simp
 | cons x a ih=>rw [t4,cK,cK,ih,r8]
theorem tB(a b:List Ps):∀ (g:Nat) (e:List Nat),hps g e (a++b)↔hps g e a/\hps (g+bT a) (cK a++e) b:=by
 induction a with
 | nil=>intro g e;rw [hps,bT,cK];simp
 | cons x a ih=>intro g e;rw [t4,hps,hps,ih,bT,cK,and_assoc,aAU,r8]
theorem bB2(x:Ps):(gln x).length=grs x:=by
 refine Ps.ind (P:=fun x=>(gln x).length=grs x) (fun x ih=>?_) x
 have hrow:∀ l:List Ps,(∀ y∈l,y∈x.kids)->(cK l).length=bT l:=by
  intro l
  induction l with
  | nil=>intro _;rw [cK,bT];rfl
  | cons y l ih2=>intro hs;rw [cK,bT,o5,ih y (hs y (n9 ..)),ih2 (fun z hz=>hs z (m9 _ hz))];omega
 cases x with
 | lf k n rs=>rw [gln,grs];rfl
 | grp n y=>rw [gln,grs,o7,ih y (by simp [Ps.kids])]
 | rep a b y=>rw [gln,grs,ih y (by simp [Ps.kids])]
 | row l=>rw [gln,grs];exact hrow l (fun _ h=>h)
 | alt l=>rw [gln,grs];exact hrow l (fun _ h=>h)
theorem aR1{x:Ps}(h:grs x=0):gln x=[]:=List.length_eq_zero_iff.1 ((bB2 x).trans h)
structure aU8(g:Nat)(e:List Nat)(l m:List Ps):Prop where
 h:hps g e l->hps g e m
 r:bT m=bT l
 n:cK m=cK l
theorem bA4(l:List Ps):(∀ g e,hp g e (mkB l)↔hps g e l)/\grs (mkB l)=bT l/\gln (mkB l)=cK l:=by
 match l with
 | []=>exact⟨fun g e=>by show hp g e (.row [])↔_;rw [hp],by show grs (.row [])=_;rw [grs],by show gln (.row [])=_;rw [gln]⟩
 | [x]=>exact⟨fun g e=>by show hp g e x↔_;rw [hps,hps];simp,by show grs x=_;rw [bT,bT];rfl,by show gln x=_;rw [cK,cK];rfl⟩
 | x :: y :: r=>exact⟨fun g e=>by show hp g e (.row _)↔_;rw [hp],by show grs (.row _)=_;rw [grs],by show gln (.row _)=_;rw [gln]⟩
theorem bA3(l:List Ps):(∀ g e,hp g e (mkP l)↔hps g e l)/\grs (mkP l)=bT l/\gln (mkP l)=cK l:=by
 match l with
 | []=>exact⟨fun g e=>by show hp g e (.alt [])↔_;rw [hp],by show grs (.alt [])=_;rw [grs],by show gln (.alt [])=_;rw [gln]⟩
 | [x]=>exact⟨fun g e=>by show hp g e x↔_;rw [hps,hps];simp,by show grs x=_;rw [bT,bT];rfl,by show gln x=_;rw [cK,cK];rfl⟩
 | x :: y :: r=>exact⟨fun g e=>by show hp g e (.alt _)↔_;rw [hp],by show grs (.alt _)=_;rw [grs],by show gln (.alt _)=_;rw [gln]⟩
theorem yE(l:List Ps):∀ (g:Nat) (e:List Nat),aU8 g e l (l.filter fun x=>!isE x):=by
 induction l with
 | nil=>intro g e;exact⟨fun h=>h,rfl,rfl⟩
 | cons x l ih=>
  intro g e
  rw [aAV]
  by_cases he:isE x=true
  ·rw [if_neg (by rw [he];simp)]
   rw [(oV x).1 he]
   have i:=ih g e
   have h1:grs (.row [])=0:=by rw [grs,bT]
   have h2:gln (.row [])=[]:=by rw [gln,cK]
   exact⟨fun h=>by rw [hps,h1,h2] at h;exact i.h h.2,by rw [bT,h1,i.r];omega,by rw [cK,h2,i.n];simp⟩
  ·rw [if_pos (by simpa using he)]
   have i:=ih (g+grs x) (gln x++e)
   exact⟨fun h=>by rw [hps] at h ⊢;exact⟨h.1,i.h h.2⟩,by rw [bT,bT,i.r],by rw [cK,cK,i.n]⟩
theorem zP{x:Ps}(h:isS x=true):grs x=0/\gln x=[]/\∀ g e,hp g e x:=by
 cases x with
 | lf k n rs=>
  have hk:k=2:=by simpa [isS] using h
  refine⟨by rw [grs],by rw [gln],fun g e=>?_⟩
  rw [hp]
  intro q
  omega
 | grp=>cases h
 | rep=>cases h
 | row=>cases h
 | alt=>cases h
theorem aB9(u:List (Int×Int))(l:List Ps):∀ (s:Bool) (g:Nat) (e:List Nat),aU8 g e l (bV u s l):=by
 induction l with
 | nil=>intro s g e;rw [bV];exact⟨fun h=>h,rfl,rfl⟩
 | cons x l ih=>
  intro s g e
  rw [bV]
  by_cases hx:isS x=true
  ·obtain⟨h1,h2,h3⟩:=zP hx
   rw [if_pos hx]
   cases s with
   | true=>
    rw [if_pos rfl]
    have i:=ih true g e
    exact⟨fun h=>by rw [hps,h1,h2] at h;exact i.h h.2,by rw [bT,h1,i.r];omega,by rw [cK,h2,i.n];simp⟩
   | false=>
    rw [if_neg (by simp)]
    obtain⟨k1,k2,k3⟩:=zP (x:=.lf 2 0 u) rfl
    have i:=ih true g e
    exact⟨fun h=>by rw [hps,h1,h2] at h;rw [hps,k1,k2];exact⟨k3 g e,i.h h.2⟩,by rw [bT,bT,h1,k1,i.r],by rw [cK,cK,h2,k2,i.n]⟩
  ·rw [if_neg hx]
   have i:=ih s (g+grs x) (gln x++e)
   exact⟨fun h=>by rw [hps] at h ⊢;exact⟨h.1,i.h h.2⟩,by rw [bT,bT,i.r],by rw [cK,cK,i.n]⟩
theorem aF1(un:List (Int×Int)->List (Int×Int))(l:List Ps)(g:Nat)(e:List Nat):aU8 g e l (bG un l):=by
 unfold bG
 split
 ·exact aB9 _ l false g e
 ·exact⟨fun h=>h,rfl,rfl⟩
theorem aA9(g:Nat)(e:List Nat)(l:List Ps):∀ acc:List Ps,hps g e (acc++l)->hps g e (aW acc l)/\bT (aW acc l)=bT (acc++l)/\cK (aW acc l)=cK (acc++l):=by
 induction l with
 | nil=>intro acc h;rw [aW,t9] at *;exact⟨h,rfl,rfl⟩
 | cons x l ih=>
  intro acc h
  rw [aW]
  by_cases hx:x∈acc
  ·rw [if_pos hx]
   obtain⟨a1,a2,e1⟩:=List.append_of_mem hx
   have h1:=(tB _ _ _ _).1 h
   have h2:=h1.1
   rw [e1] at h2
   have h3:=((tB _ _ _ _).1 h2).2
   rw [hps] at h3
   have h4:=h1.2
   rw [hps] at h4
   have h0:grs x=0:=by
    apply Classical.byContradiction
    intro hne
    have:=bM2 x _ _ _ _ h3.1 h4.1 (by omega)
    rw [e1,qD,bT] at this
    omega
   have hn:=aR1 h0
   have h5:hps g e (acc++l):=(tB _ _ _ _).2 ⟨h1.1,by have:=h4.2;rw [h0,hn] at this;exact this⟩
   obtain⟨i1,i2,i3⟩:=ih acc h5
   exact⟨i1,by rw [i2,qD,qD,bT,h0];omega,by rw [i3,vD,vD,cK,hn];simp⟩
  ·rw [if_neg hx]
   have:=ih (acc++[x]) (by rw [r8];exact h)
   rw [r8] at this
   exact this
variable (un:List (Int×Int)->List (Int×Int))
theorem bI0(x:Ps):∀ (g:Nat) (e:List Nat),hp g e x->hp g e (sim un x)/\grs (sim un x)=grs x/\gln (sim un x)=gln x:=by
 refine Ps.ind (P:=fun x=>∀ (g:Nat) (e:List Nat),hp g e x->hp g e (sim un x)/\grs (sim un x)=grs x/\gln (sim un x)=gln x) (fun x ih g e h=>?_) x
 have hrow:∀ l:List Ps,(∀ y∈l,y∈x.kids)->∀ (g:Nat) (e:List Nat),hps g e l->hps g e (cC un l)/\bT (cC un l)=bT l/\cK (cC un l)=cK l:=by
  intro l
  induction l with
  | nil=>intro _ g e h;rw [cC];exact⟨h,rfl,rfl⟩
  | cons y l ih2=>
   intro hs g e h
   rw [hps] at h
   obtain⟨a1,a2,a3⟩:=ih y (hs y (n9 ..)) g e h.1
   obtain⟨b1,b2,b3⟩:=ih2 (fun z hz=>hs z (m9 _ hz)) _ _ h.2
   rw [cC,hps,bT,bT,cK,cK,a2,a3,b2,b3]
   exact⟨⟨a1,b1⟩,rfl,rfl⟩
 have hno:∀ g e,hp g e (.row []):=fun g e=>by rw [hp,hps];trivial
 have h0:grs (.row [])=0:=by rw [grs,bT]
 have hn0:gln (.row [])=[]:=by rw [gln,cK]
 cases x with
 | lf k n rs=>rw [sim];exact⟨h,rfl,rfl⟩
 | grp n y=>
  rw [hp] at h
  obtain⟨a1,a2,a3⟩:=ih y (by simp [Ps.kids]) _ _ h.2.2
  rw [sim,hp,grs,grs,gln,gln,a2,a3]
  exact⟨⟨h.1,h.2.1,a1⟩,rfl,rfl⟩
 | rep a b y=>
  rw [hp] at h
  obtain⟨a1,a2,a3⟩:=ih y (by simp [Ps.kids]) _ _ h
  rw [sim,grs,gln]
  unfold iL
  split
  ·exact⟨a1,a2,a3⟩
  split
  ·exact⟨a1,a2,a3⟩
  split
  ·rename_i q
   refine⟨hno g e,by rw [h0,<- a2];exact q.2.symm,by rw [hn0,<- a3];exact(aR1 q.2).symm⟩
  split
  ·rename_i q
   have e1:=(oV _).1 q
   rw [e1] at a2 a3
   exact⟨hno g e,a2,a3⟩
  ·rw [hp,grs,gln]
   exact⟨a1,a2,a3⟩
 | row l=>
  rw [hp] at h
  obtain⟨a1,a2,a3⟩:=hrow l (fun _ h=>h) g e h
  rw [sim,grs,gln]
  unfold jC
  split
  ·obtain⟨m1,m2,m3⟩:=bA4 ((cC un l).filter fun x=>!isE x)
   have f:=yE (cC un l) g e
   exact⟨(m1 g e).2 (f.h a1),by rw [m2,f.r,a2],by rw [m3,f.n,a3]⟩
  ·rw [hp,grs,gln]
   exact⟨a1,a2,a3⟩
 | alt l=>
  rw [hp] at h
  obtain⟨a1,a2,a3⟩:=hrow l (fun _ h=>h) g e h
  rw [sim,grs,gln]
  unfold kO
  have j:=aF1 un (cC un l) g e
  obtain⟨t1,t2,t3⟩:=aA9 g e (bG un (cC un l)) [] (by rw [aAI];exact j.h a1)
  rw [aAI] at t2 t3
  obtain⟨m1,m2,m3⟩:=bA3 (aW [] (bG un (cC un l)))
  exact⟨(m1 g e).2 t1,by rw [m2,t2,j.r,a2],by rw [m3,t3,j.n,a3]⟩
theorem bI1{x:Ps}(h:hk 0 [] [] (pfl x)):hk 0 [] [] (pfl (sim un x)):=by
 have h1:=(aQ7 x 0 [] [] []).1 (by rw [t9];exact h)
 have h2:=bI0 un x 0 [] h1.1
 have:=(aQ7 (sim un x) 0 [] [] []).2 ⟨h2.1,by rw [h2.2.1,h2.2.2];exact h1.2⟩
 rwa [t9] at this
end
section
theorem uF(a b:List Ps):bU (a++b)=bU a+bU b:=by
 induction a with
 | nil=>rw [gZ];simp
 | cons x a ih=>rw [t4,bH,bH,ih];omega
theorem oC(p:Ps->Bool)(l:List Ps):bU (l.filter p)<=bU l:=by
 induction l with
 | nil=>exact t8 _
 | cons x l ih=>
  rw [aAV]
  split
  ·rw [bH,bH];omega
  ·rw [bH];omega
theorem xE(u:List (Int×Int))(l:List Ps):∀ s,bU (bV u s l)<=bU l:=by
 induction l with
 | nil=>intro s;rw [bV];exact t8 _
 | cons x l ih=>
  intro s
  have h1:=gG x
  rw [bV]
  split
  ·split
   ·have:=ih s;rw [bH];omega
   ·have:=ih true;rw [bH,bH,Ps.sz];omega
  ·have:=ih s;rw [bH,bH];omega
theorem xD(l:List Ps):∀ acc,bU (aW acc l)<=bU acc+bU l:=by
 induction l with
 | nil=>intro acc;rw [aW];omega
 | cons x l ih=>
  intro acc
  rw [aW]
  split
  ·have:=ih acc;rw [bH];omega
  ·have:=ih (acc++[x]);rw [uF,bH,gZ] at this;rw [bH];omega
theorem uR(l:List Ps):(mkB l).sz<=bU l+1:=by
 match l with
 | []=>show (Ps.row []).sz<=_;rw [Ps.sz];exact t8 _
 | [x]=>show x.sz<=_;rw [bH];omega
 | x :: y :: r=>show (Ps.row _).sz<=_;rw [Ps.sz];exact t8 _
theorem qC(l:List Ps):(mkP l).sz<=bU l+1:=by
 match l with
 | []=>show (Ps.alt []).sz<=_;rw [Ps.sz];exact t8 _
 | [x]=>show x.sz<=_;rw [bH];omega
 | x :: y :: r=>show (Ps.alt _).sz<=_;rw [Ps.sz];exact t8 _
variable (un:List (Int×Int)->List (Int×Int))
theorem rZ(x:Ps):(sim un x).sz<=x.sz:=by
 refine Ps.ind (P:=fun x=>(sim un x).sz<=x.sz) (fun x ih=>?_) x
 have hrow:∀ l:List Ps,(∀ y∈l,y∈x.kids)->bU (cC un l)<=bU l:=by
  intro l
  induction l with
  | nil=>intro _;rw [cC];exact t8 _
  | cons y l ih2=>
   intro hs
   have h1:=ih y (hs y (n9 ..))
   have h2:=ih2 (fun z hz=>hs z (m9 _ hz))
   rw [cC,bH,bH]
   omega
 cases x with
 | lf k n rs=>rw [sim];exact t8 _
 | grp n y=>have:=ih y (by simp [Ps.kids]);rw [sim,Ps.sz,Ps.sz];omega
 | rep a b y=>
  have h1:=ih y (by simp [Ps.kids])
  have h2:=gG y
  have h3:(Ps.row []).sz=1:=by rw [Ps.sz,gZ]
  rw [sim,Ps.sz]
  unfold iL
  split
  ·omega
  split
  ·omega
  split
  ·omega
  split
  ·omega
  ·rw [Ps.sz];omega
 | row l=>
  have h1:=hrow l (fun _ h=>h)
  rw [sim,Ps.sz]
  unfold jC
  split
  ·have h2:=uR ((cC un l).filter fun x=>!isE x)
   have h3:=oC (fun x=>!isE x) (cC un l)
   omega
  ·rw [Ps.sz];omega
 | alt l=>
  have h1:=hrow l (fun _ h=>h)
  rw [sim,Ps.sz]
  unfold kO
  have h2:=qC (aW [] (bG un (cC un l)))
  have h3:=xD (bG un (cC un l)) []
  have h4:bU (bG un (cC un l))<=bU (cC un l):=by
   unfold bG
   split
   ·exact xE _ _ _
   ·exact t8 _
  rw [gZ] at h3
  omega
mutual
def nrm:Ps->Prop
 | .lf _ _ _=>True
 | .grp _ x=>nrm x
 | .rep a b x=>¬ (a=1/\b=1)/\¬ (a=0/\b=-1/\kS x=true)/\¬ (b=0/\grs x=0)/\isE x=false/\nrm x
 | .row l=>(∀ x∈l,isE x=false)/\aD9 l
 | .alt l=>(l.filter isS).length<2/\l.Nodup/\aD9 l
def aD9:List Ps->Prop
 | []=>True
 | x :: l=>nrm x/\aD9 l
end
theorem eL(l:List Ps):aD9 l ↔ ∀ x∈l,nrm x:=by
 induction l with
 | nil=>rw [aD9];simp
 | cons x l ih=>rw [aD9,ih];simp
theorem rE{l:List Ps}{c:Ps}(h:l.Nodup)(hc:∀ x∈l,x=c):l.length<=1:=by
 match l,h,hc with
 | [],_,_=>simp
 | [x],_,_=>simp
 | x :: y :: r,h,hc=>
  have h1:=hc x (by simp)
  have h2:=hc y (by simp)
  have:=(List.nodup_cons.1 h).1
  rw [h1,h2] at this
  simp at this
theorem tV(l:List Ps):((aW [] (bG un l)).filter isS).length<2:=by
 have hn:((aW [] (bG un l)).filter isS).Nodup:=(jF _ [] List.nodup_nil).filter _
 have hm:∀ x∈(aW [] (bG un l)).filter isS,x∈bG un l/\isS x=true:=fun x hx=>by
  rw [aAF] at hx
  exact⟨((cX _ _ _).1 hx.1).resolve_left (fun q=>by cases q),hx.2⟩
 unfold bG at hm hn ⊢
 split
 ·rename_i h2
  rw [if_pos h2] at hm hn
  have:=rE hn (c:=.lf 2 0 (un ((l.filter isS).flatMap rsP))) (fun x hx=>by
   rcases fP _ _ _ _ (hm x hx).1 with e | e
   ·exact e
   ·rw [(hm x hx).2] at e;cases e.2)
  omega
 ·rename_i h2
  rw [if_neg h2] at hm hn
  by_cases h0:(l.filter isS).length=0
  ·have h0:=List.length_eq_zero_iff.1 h0
   have:(aW [] l).filter isS=[]:=by
    rw [List.eq_nil_iff_forall_not_mem]
    intro x hx
    have:=hm x hx
    have:x∈l.filter isS:=aAF.2 this
    rw [h0] at this
    cases this
   rw [this]
   simp
  ·obtain⟨c,hc⟩:∃ c,l.filter isS=[c]:=List.length_eq_one_iff.1 (by omega)
   have:=rE hn (c:=c) (fun x hx=>by
    have:x∈l.filter isS:=aAF.2 (hm x hx)
    rw [hc] at this
    exact s9.1 this)
   omega
theorem aZ8{l:List Ps}(h1:∀ x∈l,isE x=false)(h2:∀ x∈l,nrm x):nrm (mkB l):=by
 match l,h1,h2 with
 | [],_,_=>show nrm (.row []);rw [nrm];exact⟨fun _ h=>(by cases h),(eL _).2 (fun _ h=>by cases h)⟩
 | [x],_,h2=>exact h2 x (by simp)
 | x :: y :: r,h1,h2=>show nrm (.row _);rw [nrm];exact⟨h1,(eL _).2 h2⟩
theorem aZ7{l:List Ps}(h0:(l.filter isS).length<2)(h1:l.Nodup)(h2:∀ x∈l,nrm x):nrm (mkP l):=by
 match l,h0,h1,h2 with
 | [],h0,h1,h2=>show nrm (.alt []);rw [nrm];exact⟨h0,h1,(eL _).2 h2⟩
 | [x],_,_,h2=>exact h2 x (by simp)
 | x :: y :: r,h0,h1,h2=>show nrm (.alt _);rw [nrm];exact⟨h0,h1,(eL _).2 h2⟩
theorem oS(x:Ps):nrm (sim un x):=by
 refine Ps.ind (P:=fun x=>nrm (sim un x)) (fun x ih=>?_) x
 have hrow:∀ l:List Ps,(∀ y∈l,y∈x.kids)->∀ z∈cC un l,nrm z:=fun l hs z hz=>by
  rw [cY] at hz
  obtain⟨y,hy,e⟩:=s4.1 hz
  rw [<- e]
  exact ih y (hs y hy)
 have he:nrm (.row []):=by rw [nrm];exact⟨fun _ h=>(by cases h),(eL _).2 (fun _ h=>by cases h)⟩
 cases x with
 | lf k n rs=>rw [sim,nrm];trivial
 | grp n y=>rw [sim,nrm];exact ih y (by simp [Ps.kids])
 | rep a b y=>
  have hy:=ih y (by simp [Ps.kids])
  rw [sim]
  unfold iL
  split
  ·exact hy
  split
  ·exact hy
  split
  ·exact he
  split
  ·exact he
  ·rename_i h1 h2 h3 h4
   rw [nrm]
   exact⟨h1,h2,h3,by simpa using h4,hy⟩
 | row l=>
  have hl:=hrow l (fun _ h=>h)
  rw [sim]
  unfold jC
  split
  ·exact aZ8 (fun z hz=>by have:=(aAF.1 hz).2;simpa using this) (fun z hz=>hl z (aAF.1 hz).1)
  ·rename_i hany
   rw [nrm]
   refine⟨fun z hz=>?_,(eL _).2 hl⟩
   cases h:isE z with
   | false=>rfl
   | true=>exact absurd (aAX.2 ⟨z,hz,h⟩) hany
 | alt l=>
  have hl:=hrow l (fun _ h=>h)
  rw [sim]
  unfold kO
  refine aZ7 (tV un _) (jF _ [] List.nodup_nil) (fun z hz=>?_)
  rcases kH un (((cX _ _ _).1 hz).resolve_left (fun q=>by cases q)) with⟨u,e⟩ | e
  ·rw [e,nrm];trivial
  ·exact hl z e
theorem pF(l:List Ps):∀ acc,(acc++l).Nodup->aW acc l=acc++l:=by
 induction l with
 | nil=>intro acc _;rw [aW,t9]
 | cons x l ih=>
  intro acc h
  rw [aW]
  have hx:¬ x∈acc:=fun q=>by
   have:=(List.nodup_append.1 h).2.2 x q x (n9 ..)
   exact this rfl
  rw [if_neg hx,ih (acc++[x]) (by rw [r8];exact h),r8]
  rfl
end
section
theorem oR(l:List Ps)(m:Nat):gK l<=m ↔ ∀ x∈l,x.dp<=m:=by
 induction l with
 | nil=>rw [gK];simp
 | cons x l ih=>
  rw [gK]
  constructor
  ·intro h y hy
   rcases u0.1 hy with e | e
   ·rw [e];omega
   ·exact ih.1 (by omega) y e
  ·intro h
   have h1:=h x (n9 ..)
   have h2:=ih.2 (fun y hy=>h y (m9 _ hy))
   omega
theorem aS6(x:Ps):1<=x.dp:=by cases x <;> simp [Ps.dp]
theorem bK9{l:List Ps}{m:Nat}(h:∀ x∈l,x.dp<=m):(mkB l).dp<=m+1:=by
 match l,h with
 | [],_=>show (Ps.row []).dp<=_;rw [Ps.dp,gK];omega
 | [x],h=>show x.dp<=_;have:=h x (by simp);omega
 | x :: y :: r,h=>show (Ps.row _).dp<=_;rw [Ps.dp];have:=(oR _ m).2 h;omega
theorem bK8{l:List Ps}{m:Nat}(h:∀ x∈l,x.dp<=m):(mkP l).dp<=m+1:=by
 match l,h with
 | [],_=>show (Ps.alt []).dp<=_;rw [Ps.dp,gK];omega
 | [x],h=>show x.dp<=_;have:=h x (by simp);omega
 | x :: y :: r,h=>show (Ps.alt _).dp<=_;rw [Ps.dp];have:=(oR _ m).2 h;omega
variable (un:List (Int×Int)->List (Int×Int))
theorem bI2(x:Ps):(sim un x).dp<=x.dp:=by
 refine Ps.ind (P:=fun x=>(sim un x).dp<=x.dp) (fun x ih=>?_) x
 have hrow:∀ l:List Ps,(∀ y∈l,y∈x.kids)->∀ z∈cC un l,z.dp<=gK l:=fun l hs z hz=>by
  rw [cY] at hz
  obtain⟨y,hy,e⟩:=s4.1 hz
  rw [<- e]
  exact o0 (ih y (hs y hy)) ((oR l _).1 lz9 y hy)
 cases x with
 | lf k n rs=>rw [sim];exact t8 _
 | grp n y=>have:=ih y (by simp [Ps.kids]);rw [sim,Ps.dp,Ps.dp];omega
 | rep a b y=>
  have h1:=ih y (by simp [Ps.kids])
  have h2:=aS6 y
  have h3:(Ps.row []).dp=1:=by rw [Ps.dp,gK]
  rw [sim,Ps.dp]
  unfold iL
  split
  ·omega
  split
  ·omega
  split
  ·omega
  split
  ·omega
  ·rw [Ps.dp];omega
 | row l=>
  have hl:=hrow l (fun _ h=>h)
  rw [sim,Ps.dp]
  unfold jC
  split
  ·exact bK9 (fun z hz=>hl z (aAF.1 hz).1)
  ·rw [Ps.dp]
   have:=(oR _ _).2 hl
   omega
 | alt l=>
  have hl:=hrow l (fun _ h=>h)
  rw [sim,Ps.dp]
  unfold kO
  refine bK8 (fun z hz=>?_)
  have hz':=((cX _ _ _).1 hz).resolve_left (fun q=>by cases q)
  rcases kH un hz' with⟨u,e⟩ | e
  ·rw [e,Ps.dp]
   cases l with
   | nil=>rw [cC] at hz';simp [bG] at hz'
   | cons y l=>have:=aS6 y;rw [gK];omega
  ·exact hl z e
theorem fB(l:List Ps)(s:Sgn):s∈eK l ↔ ∃ x∈l,s∈pfl x:=by
 induction l with
 | nil=>rw [eK];simp
 | cons x l ih=>rw [eK,o3,ih];simp
theorem aN2(l:List Ps)(s:Sgn):s∈eH l->s=.al\/∃ x∈l,s∈pfl x:=by
 induction l with
 | nil=>rw [eH];intro h;cases h
 | cons x l ih=>
  rw [eH]
  intro h
  rcases u0.1 h with e | e
  ·exact .inl e
  ·rcases o3.1 e with q | q
   ·exact .inr ⟨x,n9 ..,q⟩
   ·exact(ih q).imp id (fun⟨y,hy,r⟩=>⟨y,m9 _ hy,r⟩)
theorem mI(l:List Ps)(s:Sgn):s∈lH l->s=.al\/∃ x∈l,s∈pfl x:=by
 cases l with
 | nil=>rw [lH];intro h;cases h
 | cons x l=>
  rw [lH]
  intro h
  rcases o3.1 h with q | q
  ·exact .inr ⟨x,n9 ..,q⟩
  ·exact(aN2 l s q).imp id (fun⟨y,hy,r⟩=>⟨y,m9 _ hy,r⟩)
theorem aZ2{l:List Ps}{x:Ps}(hx:x∈l){s:Sgn}(hs:s∈pfl x):s∈eH l:=by
 induction l with
 | nil=>cases hx
 | cons y l ih=>
  rw [eH]
  rcases u0.1 hx with e | e
  ·rw [<- e];exact m9 _ (o3.2 (.inl hs))
  ·exact m9 _ (o3.2 (.inr (ih e)))
theorem kE{l:List Ps}{x:Ps}(hx:x∈l){s:Sgn}(hs:s∈pfl x):s∈lH l:=by
 cases l with
 | nil=>cases hx
 | cons y l=>
  rw [lH]
  rcases u0.1 hx with e | e
  ·rw [<- e];exact o3.2 (.inl hs)
  ·exact o3.2 (.inr (aZ2 e hs))
theorem aK9{P:Sgn->Prop}(hal:P .al)(hset:∀ l:List Ps,(∀ x∈l,isS x=true/\∀ s∈pfl x,P s)->2<=l.length->P (.lf 2 0 (un (l.flatMap rsP))))(x:Ps):(∀ s∈pfl x,P s)->∀ s∈pfl (sim un x),P s:=by
 refine Ps.ind (P:=fun x=>(∀ s∈pfl x,P s)->∀ s∈pfl (sim un x),P s) (fun x ih h=>?_) x
 have hno:∀ s∈pfl (.row []),P s:=fun s hs=>by rw [pfl,eK] at hs;cases hs
 cases x with
 | lf k n rs=>rw [sim];exact h
 | grp n y=>
  rw [pfl] at h
  have hy:=ih y (by simp [Ps.kids]) (fun s hs=>h s (by simp [hs]))
  rw [sim,pfl]
  intro s hs
  rcases u0.1 hs with e | e
  ·rw [e];exact h _ (n9 ..)
  ·rcases o3.1 e with q | q
   ·exact hy s q
   ·exact h s (m9 _ (o3.2 (.inr q)))
 | rep a b y=>
  rw [pfl] at h
  have hy:=ih y (by simp [Ps.kids]) (fun s hs=>h s (o3.2 (.inl hs)))
  rw [sim]
  unfold iL
  split
  ·exact hy
  split
  ·exact hy
  split
  ·exact hno
  split
  ·exact hno
  ·intro s hs
   rw [pfl] at hs
   rcases o3.1 hs with q | q
   ·exact hy s q
   ·exact h s (o3.2 (.inr q))
 | row l=>
  rw [pfl] at h
  have hl:∀ z∈cC un l,∀ s∈pfl z,P s:=fun z hz s hs=>by
   rw [cY] at hz
   obtain⟨y,hy,e⟩:=s4.1 hz
   rw [<- e] at hs
   exact ih y hy (fun s hs=>h s ((fB l s).2 ⟨y,hy,hs⟩)) s hs
  rw [sim]
  unfold jC
  split
  ·intro s hs
   rw [uS,fB] at hs
   obtain⟨z,hz,hs⟩:=hs
   exact hl z (aAF.1 hz).1 s hs
  ·intro s hs
   rw [pfl,fB] at hs
   obtain⟨z,hz,hs⟩:=hs
   exact hl z hz s hs
 | alt l=>
  rw [pfl] at h
  have hl:∀ z∈cC un l,∀ s∈pfl z,P s:=fun z hz s hs=>by
   rw [cY] at hz
   obtain⟨y,hy,e⟩:=s4.1 hz
   rw [<- e] at hs
   exact ih y hy (fun s hs=>h s (kE hy hs)) s hs
  have hj:∀ z∈bG un (cC un l),∀ s∈pfl z,P s:=fun z hz s hs=>by
   unfold bG at hz
   split at hz
   ·rename_i h2
    rcases fP _ _ _ _ hz with e | e
    ·rw [e,pfl] at hs
     rw [s9.1 hs]
     exact hset _ (fun x hx=>⟨(aAF.1 hx).2,hl x (aAF.1 hx).1⟩) h2
    ·exact hl z e.1 s hs
   ·exact hl z hz s hs
  rw [sim]
  unfold kO
  intro s hs
  have hm:s=.al\/∃ z∈aW [] (bG un (cC un l)),s∈pfl z:=by
   generalize aW [] (bG un (cC un l))=m at hs
   match m,hs with
   | [],hs=>exact mI [] s (by rw [<- pfl];exact hs)
   | [x],hs=>exact .inr ⟨x,by simp,hs⟩
   | x :: y :: r,hs=>exact mI (x :: y :: r) s (by rw [<- pfl];exact hs)
  rcases hm with e | ⟨z,hz,hs⟩
  ·rw [e];exact hal
  ·exact hj z (((cX _ _ _).1 hz).resolve_left (fun q=>by cases q)) s hs
end
section
open Go
structure Md where
 c:Bool
 f:Bool
def un(m:Md)(s:ByteArray)(p:Nat):Int×Nat:=if m.c then (ch s p,wd s p) else ((bt s p:Int),1)
end
end Go.Proofs.YtlamifbjklpdbaaGreat

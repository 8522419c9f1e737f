/-
  Parts of the proof.
-/
import Derived.Test.YticfnglebbakkaaGreatDoorPrintsProofB10
import Derived.Test.YticfnglebbakkaaGreatDoorPrintsProofB19
namespace Go.Proofs.YticfnglebbakkaaGreatDoor
open Go Go.RowKit
theorem seg(t:Tr):∀ (p:Way) (j:Nat) (x:El),(pp p t)[j]?=some x->∃ rest,(pp p t).drop j=pp x.1 x.2 ++ rest:=by
 refine Tr.ind (P:=fun t=>∀ (p:Way) (j:Nat) (x:El),(pp p t)[j]?=some x->∃ rest,(pp p t).drop j=pp x.1 x.2 ++ rest) (fun t ih p j x h=>?_) t
 cases j with
 | zero=>
  rw [bQ] at h
  simp at h
  subst h
  exact⟨[],by simp⟩
 | succ j=>
  rw [bQ] at h ⊢
  rw [List.getElem?_cons_succ] at h
  rw [List.drop_succ_cons]
  have key:∀ (ks:List Tr) (i j:Nat),(∀ u∈ks,u∈t.ks)->(pps t p i ks)[j]?=some x->∃ rest,(pps t p i ks).drop j=pp x.1 x.2 ++ rest:=by
   intro ks
   induction ks with
   | nil=>intro i j _ h;rw [aV] at h;simp at h
   | cons u ks ihk=>
    intro i j hm h
    rw [aT] at h ⊢
    by_cases hj:j < (pp ((t,i) :: p) u).length
    ·rw [List.getElem?_append_left hj] at h
     obtain⟨rest,hr⟩:=ih u (hm u List.mem_cons_self) _ _ _ h
     refine⟨rest ++ pps t p (i+1) ks,?_⟩
     rw [List.drop_append_of_le_length (by omega),hr,List.append_assoc]
    ·rw [List.getElem?_append_right (by omega)] at h
     obtain⟨rest,hr⟩:=ihk (i+1) _ (fun v hv=>hm v (List.mem_cons_of_mem _ hv)) h
     refine⟨rest,?_⟩
     rw [List.drop_append,List.drop_eq_nil_of_le (by omega),List.nil_append,hr]
  exact key t.ks 0 j (fun _ h=>h) h
theorem aA6{t:Tr}{p:Way}{j:Nat}{x:El}(h:(pp p t)[j]?=some x):j+x.2.sz<=t.sz:=by
 obtain⟨rest,hr⟩:=seg t p j x h
 have:=congrArg List.length hr
 rw [List.length_drop,List.length_append,dM,dM] at this
 have hj:=(List.getElem?_eq_some_iff.1 h).1
 rw [dM] at hj
 omega
theorem anc(t:Tr):∀ (p:Way) (i:Nat) (x:El) (par:Tr) (k:Nat) (r:Way),(pp p t)[i]?=some x->x.1=(par,k) :: r->i=0\/∃ j,j < i/\(pp p t)[j]?=some (r,par)/\i < j+par.sz:=by
 refine Tr.ind (P:=fun t=>∀ (p:Way) (i:Nat) (x:El) (par:Tr) (k:Nat) (r:Way),(pp p t)[i]?=some x->x.1=(par,k) :: r->i=0\/∃ j,j < i/\(pp p t)[j]?=some (r,par)/\i < j+par.sz) (fun t ih p i x par k r h hx=>?_) t
 cases i with
 | zero=>exact .inl rfl
 | succ i=>
  refine .inr ?_
  have hil:=(List.getElem?_eq_some_iff.1 h).1
  rw [dM] at hil
  rw [bQ] at h ⊢
  rw [List.getElem?_cons_succ] at h
  have key:∀ (ks:List Tr) (m i:Nat),(∀ u∈ks,u∈t.ks)->(pps t p m ks)[i]?=some x->(par=t/\r=p)\/∃ j,j < i/\(pps t p m ks)[j]?=some (r,par)/\i < j+par.sz:=by
   intro ks
   induction ks with
   | nil=>intro m i _ h;rw [aV] at h;simp at h
   | cons u ks ihk=>
    intro m i hm h
    rw [aT] at h ⊢
    by_cases hi:i < (pp ((t,m) :: p) u).length
    ·rw [List.getElem?_append_left hi] at h
     rcases ih u (hm u List.mem_cons_self) _ _ _ _ _ _ h hx with rfl | ⟨j,h1,h2,h3⟩
     ·rw [bQ] at h
      simp at h
      subst h
      injection hx with e1 e2
      injection e1 with e1 _
      exact .inl ⟨e1.symm,e2.symm⟩
     ·exact .inr ⟨j,h1,by rw [List.getElem?_append_left (by omega)];exact h2,h3⟩
    ·rw [List.getElem?_append_right (by omega)] at h
     rcases ihk (m+1) _ (fun v hv=>hm v (List.mem_cons_of_mem _ hv)) h with e | ⟨j,h1,h2,h3⟩
     ·exact .inl e
     ·exact .inr ⟨j+(pp ((t,m) :: p) u).length,by omega,by rw [List.getElem?_append_right (by omega),Nat.add_sub_cancel];exact h2,by omega⟩
  rcases key t.ks 0 i (fun _ h=>h) h with⟨rfl,rfl⟩ | ⟨j,h1,h2,h3⟩
  ·exact⟨0,by omega,rfl,by omega⟩
  ·exact⟨j+1,by omega,by rw [List.getElem?_cons_succ];exact h2,by omega⟩
theorem aF3{t:Tr}:∀ (s:Way) (i:Nat) (x:El) (par:Tr) (k:Nat) (r:Way),(pp [] t)[i]?=some x->x.1=s ++ (par,k) :: r->∃ j,j < i/\(pp [] t)[j]?=some (r,par)/\i < j+par.sz
 | [],i,x,par,k,r,h,hx=>by
  rcases anc t [] i x par k r h hx with rfl | q
  ·rw [bQ] at h
   simp at h
   subst h
   cases hx
  ·exact q
 |(a,b) :: s,i,x,par,k,r,h,hx=>by
  have h0:i≠0:=fun e=>by
   subst e
   rw [bQ] at h
   simp at h
   subst h
   cases hx
  rcases anc t [] i x a b (s ++ (par,k) :: r) h hx with rfl | ⟨j1,h1,h2,h3⟩
  ·exact absurd rfl h0
  ·obtain⟨j,h4,h5,h6⟩:=aF3 s j1 _ par k r h2 rfl
   refine⟨j,by omega,h5,?_⟩
   obtain⟨rest,hr⟩:=seg t [] j _ h5
   have h7:(pp r par)[j1 - j]?=some (s ++ (par,k) :: r,a):=by
    have e:((pp [] t).drop j)[j1 - j]?=some (s ++ (par,k) :: r,a):=by rw [List.getElem?_drop,show j+(j1 - j)=j1 by omega];exact h2
    rw [hr,List.getElem?_append_left (by rw [dM];show j1 - j < par.sz;omega)] at e
    exact e
   have:=aA6 h7
   simp only at this
   omega
theorem aH4{t:Tr}{i j:Nat}{x y:El}(hx:(pp [] t)[i]?=some x)(hy:(pp [] t)[j]?=some y)(h1:j < i)(h2:i < j+y.2.sz):∃ s k,x.1=s ++ (y.2,k) :: y.1:=by
 obtain⟨rest,hr⟩:=seg t [] j y hy
 have e:((pp [] t).drop j)[i - j]?=some x:=by rw [List.getElem?_drop,show j+(i - j)=i by omega];exact hx
 rw [hr,List.getElem?_append_left (by rw [dM];omega),bQ,show i - j=(i - j - 1)+1 by omega,List.getElem?_cons_succ] at e
 have hm:=List.mem_of_getElem? e
 have:∀ (ks:List Tr) (m:Nat),x∈pps y.2 y.1 m ks->∃ s k,x.1=s ++ (y.2,k) :: y.1:=by
  intro ks
  induction ks with
  | nil=>intro m h;rw [aV] at h;cases h
  | cons u ks ih=>
   intro m h
   rw [aT] at h
   rcases List.mem_append.1 h with h | h
   ·have hw:=aI4 ((y.2,m) :: y.1) u []
    rw [List.nil_append] at hw
    rw [hw] at h
    obtain⟨z,-,rfl⟩:=List.mem_map.1 h
    exact⟨z.1,m,rfl⟩
   ·exact ih (m+1) h
 exact this _ _ hm
def eD:Nat->List El->List Nat
 | _,[]=>[]
 | k,x :: r=>if x.2.f.k=7 then k :: eD (k+1) r else eD (k+1) r
theorem gG:∀ (k:Nat) (a b:List El),eD k (a ++ b)=eD k a ++ eD (k+a.length) b
 | k,[],b=>by simp [eD]
 | k,x :: a,b=>by
  rw [List.cons_append,eD,eD,gG (k+1) a b,List.length_cons,show k+1+a.length=k+(a.length+1) by omega]
  split <;> rfl
theorem jV:∀ (k:Nat) (a:List El),(eD k a).length=aW a
 | k,[]=>rfl
 | k,x :: a=>by
  rw [eD]
  simp only [aW]
  split
  ·rw [List.length_cons,jV (k+1) a];omega
  ·rw [jV (k+1) a];omega
theorem oI(a:List El)(x:El):eD 0 (a ++ [x])=eD 0 a ++ (if x.2.f.k=7 then [a.length] else []):=by
 rw [gG,Nat.zero_add]
 congr 1
theorem aD5{a:List El}{j:Nat}{y:El}(h:a[j]?=some y)(hk:y.2.f.k=7):(eD 0 a)[aW (a.take j)]?=some j:=by
 have hj:=(List.getElem?_eq_some_iff.1 h).1
 have e:a=a.take j ++ y :: a.drop (j+1):=by
  have:=List.take_append_drop j a
  rw [List.drop_eq_getElem_cons hj,(List.getElem?_eq_some_iff.1 h).2] at this
  exact this.symm
 have hl:(a.take j).length=j:=by rw [List.length_take];omega
 conv=>lhs;arg 1;rw [e]
 rw [gG,<- jV 0 (a.take j),List.getElem?_append_right lz9,Nat.sub_self,eD,if_pos hk,hl,Nat.zero_add]
 rfl
theorem mM:∀ (a:List El) (k m j:Nat),(eD k a)[m]?=some j->k<=j/\∃ y,a[j - k]?=some y/\y.2.f.k=7/\aW (a.take (j - k))=m
 | [],k,m,j,h=>by simp [eD] at h
 | x :: a,k,m,j,h=>by
  rw [eD] at h
  by_cases hk:x.2.f.k=7
  ·rw [if_pos hk] at h
   cases m with
   | zero=>
    simp at h
    subst h
    refine⟨Nat.le_refl _,x,?_,hk,?_⟩
    ·rw [Nat.sub_self];rfl
    ·rw [Nat.sub_self];rfl
   | succ m=>
    rw [List.getElem?_cons_succ] at h
    obtain⟨h1,y,h2,h3,h4⟩:=mM a (k+1) m j h
    refine⟨by omega,y,?_,h3,?_⟩
    ·rw [show j - k=(j - (k+1))+1 by omega,List.getElem?_cons_succ];exact h2
    ·rw [show j - k=(j - (k+1))+1 by omega,List.take_succ_cons,aW,if_pos hk,h4];omega
  ·rw [if_neg hk] at h
   obtain⟨h1,y,h2,h3,h4⟩:=mM a (k+1) m j h
   refine⟨by omega,y,?_,h3,?_⟩
   ·rw [show j - k=(j - (k+1))+1 by omega,List.getElem?_cons_succ];exact h2
   ·rw [show j - k=(j - (k+1))+1 by omega,List.take_succ_cons,aW,if_neg hk,h4];omega
theorem aM3{t:Tr}{pre:List El}{x:El}{N:Nat}{j:Nat}(hp:pre ++ [x] <+: pp [] t)(hnum:∀ (j:Nat) (y:El),pre[j]?=some y->y.2.f.k=7->y.2.f.n=(aW (pre.take j):Int)+1)(hi:pre.length < 2000)(hj:(eD 0 pre)[N]?=some j) :
  ∃ y,pre[j]?=some y/\(dP x.1 ((N:Int)+1)=false ↔ min (j+y.2.sz) 2001<=pre.length):=by
 obtain⟨r,hr⟩:=hp
 obtain⟨-,y,h2,h3,h4⟩:=mM pre 0 N j hj
 rw [Nat.sub_zero] at h2 h4
 have hjl:=(List.getElem?_eq_some_iff.1 h2).1
 have hx:(pp [] t)[pre.length]?=some x:=by rw [<- hr,List.append_assoc,List.getElem?_append_right lz9,Nat.sub_self];rfl
 have hin:∀ (k:Nat) (z:El),k < pre.length->(pp [] t)[k]?=some z->pre[k]?=some z:=fun k z hk hz=>by
  rw [<- hr,List.append_assoc,List.getElem?_append_left hk] at hz
  exact hz
 have hy:(pp [] t)[j]?=some y:=by rw [<- hr,List.append_assoc,List.getElem?_append_left hjl];exact h2
 refine⟨y,h2,?_⟩
 have hny:=hnum j y h2 h3
 rw [h4] at hny
 constructor
 ·intro he
  rcases Nat.lt_or_ge pre.length (min (j+y.2.sz) 2001) with q | q
  ·exfalso
   obtain⟨s,k,e⟩:=aH4 hx hy hjl (by omega)
   have:dP x.1 ((N:Int)+1)=true:=by
    unfold dP
    rw [e,List.any_append,List.any_cons]
    simp [h3,hny]
   rw [he] at this
   cases this
  ·exact q
 ·intro hm
  cases he:dP x.1 ((N:Int)+1) with
  | false=>rfl
  | true=>
   exfalso
   unfold dP at he
   rw [List.any_eq_true] at he
   obtain⟨⟨par,k⟩,hmem,hh⟩:=he
   simp at hh
   obtain⟨s,r',e⟩:=List.append_of_mem hmem
   obtain⟨j',a1,a2,a3⟩:=aF3 s pre.length x par k r' hx e
   have b1:=hin j' _ a1 a2
   have b2:=hnum j' _ b1 hh.1
   have b3:aW (pre.take j')=N:=by
    have:(N:Int)+1=(aW (pre.take j'):Int)+1:=by rw [<- b2];exact hh.2.symm
    omega
   have b4:=aD5 b1 hh.1
   rw [b3,hj] at b4
   injection b4 with b4
   subst b4
   rw [h2] at b1
   injection b1 with b1
   subst b1
   simp only at hm
   omega
theorem iT{c f:Bool}{p:Way}{t:Tr}{ah gr:Nat}(h:bI c f p t ah gr=0):bR p t.f.k=true/\aP c f ((gr:Int)+1) t.f/\dV t.f.k t.ks.length=true:=by
 unfold bI at h
 split at h
 ·cases h
 ·split at h
  ·cases h
  ·split at h
   ·cases h
   ·rename_i n3
    exact Classical.not_not.1 n3
def gS(p:Way)(k:Int):Bool:=
 if arP p=5 then (if k=3 then brP p && fiP p else if k=4 then brP p && laP p else aZ k)
 else if arP p=9 then aZ k else if arP p=6 then k != 6 else true
def fV(c f:Bool)(t:Tr):Prop:=
 if t.f.k=1\/t.f.k=3\/t.f.k=4 then t.f.n=0/\t.f.mn=0/\t.f.mx=0/\t.f.rs.length=0/\t.ks.length=0
 else if t.f.k=2 then kN c f t.f.rs/\t.f.n=0/\t.f.mn=0/\t.f.mx=0/\t.ks.length=0
 else if t.f.k=5\/t.f.k=6 then 1 < t.ks.length/\t.f.n=0/\t.f.mn=0/\t.f.mx=0/\t.f.rs.length=0
 else if t.f.k=7 then t.ks.length=1/\t.f.mn=0/\t.f.mx=0/\t.f.rs.length=0
 else if t.f.k=8 then (1<=t.f.n/\t.f.n<=9)/\t.f.mn=0/\t.f.mx=0/\t.f.rs.length=0/\t.ks.length=0
 else if t.f.k=9 then dL t.f.mn t.f.mx=true/\t.ks.length=1/\t.f.n=0/\t.f.rs.length=0
 else False
theorem gR{c f:Bool}{t:Tr}{g:Int}:(cB t.f.k=true/\aP c f g t.f/\dV t.f.k t.ks.length=true) ↔ (fV c f t/\(t.f.k=7->t.f.n=g)):=by
 obtain⟨F,ks⟩:=t
 obtain⟨k,n,mn,mx,rs,rq,rc,kq,kl,kc⟩:=F
 simp only [Tr.f,Tr.ks]
 unfold fV aP dV cB
 simp only [Tr.f,Tr.ks]
 generalize kN c f rs=S
 generalize rs.length=rl
 generalize ks.length=kk
 by_cases h1:k=1
 ·subst h1;simp;constructor <;> (intro h;omega)
 by_cases h3:k=3
 ·subst h3;simp;constructor <;> (intro h;omega)
 by_cases h4:k=4
 ·subst h4;simp;constructor <;> (intro h;omega)
 by_cases h2:k=2
 ·subst h2;simp
  constructor
  ·rintro ⟨⟨a,b,c,d⟩,e⟩;exact⟨a,b,c,d,e⟩
  ·rintro ⟨a,b,c,d,e⟩;exact⟨⟨a,b,c,d⟩,e⟩
 by_cases h5:k=5
 ·subst h5;simp;constructor <;> (intro h;omega)
 by_cases h6:k=6
 ·subst h6;simp;constructor <;> (intro h;omega)
 by_cases h7:k=7
 ·subst h7;simp;constructor <;> (intro h;omega)
 by_cases h8:k=8
 ·subst h8;simp;constructor <;> (intro h;omega)
 by_cases h9:k=9
 ·subst h9;simp
  constructor
  ·rintro ⟨⟨a,b,c⟩,e⟩;exact⟨a,e,b,c⟩
  ·rintro ⟨a,e,b,c⟩;exact⟨⟨a,b,c⟩,e⟩
 ·simp [h1,h2,h3,h4,h5,h6,h7,h8,h9]
  intro a b
  omega
theorem lW{p:Way}{k:Int}(hbr:∀ par i r,p=(par,i) :: r->par.f.k=5->brP r=true)(hk:cB k=true):bR p k=gS p k:=by
 cases p with
 | nil=>
  unfold bR gS
  simp [arP,hk]
 | cons y r=>
  obtain⟨par,i⟩:=y
  have e:gS ((par,i) :: r) k=(if par.f.k=5 then (if k=3 then brP ((par,i) :: r) && ((i:Int)==0) else if k=4 then brP ((par,i) :: r) && ((i:Int)==(par.ks.length:Int) - 1) else aZ k) else if par.f.k=9 then aZ k else if par.f.k=6 then k != 6 else true):=rfl
  rw [e]
  unfold bR cE
  simp only
  by_cases h5:par.f.k=5
  ·rw [if_pos h5,if_pos h5]
   have hb:brP ((par,i) :: r)=true:=by
    have:=hbr par i r rfl h5
    simp [brP,h5,this]
   rw [hb,Bool.true_and,Bool.true_and]
   by_cases k3:k=3
   ·subst k3
    rw [if_pos rfl]
    simp [aZ]
   ·rw [if_neg k3]
    by_cases k4:k=4
    ·subst k4
     rw [if_pos rfl]
     simp [aZ]
    ·rw [if_neg k4]
     have e3:(k==3)=false:=by simpa using k3
     have e4:(k==4)=false:=by simpa using k4
     rw [e3,e4,Bool.false_and,Bool.false_and,Bool.or_false,Bool.or_false]
  ·rw [if_neg h5,if_neg h5]
   by_cases h9:par.f.k=9
   ·rw [if_pos h9,if_pos h9]
   ·rw [if_neg h9,if_neg h9]
    by_cases h6:par.f.k=6
    ·rw [if_pos h6,if_pos h6,hk,Bool.true_and]
    ·rw [if_neg h6,if_neg h6,hk]
theorem aN0{c f:Bool}{t:Tr}{pre:List El}{x:El}(hp:pre ++ [x] <+: pp [] t)(hr:∀ (j:Nat) (y:El),pre[j]?=some y->bI c f y.1 y.2 j (aW (pre.take j))=0):∀ par i r,x.1=(par,i) :: r->par.f.k=5->brP r=true:=by
 intro par i r hx h5
 obtain⟨rest,he⟩:=hp
 have hxi:(pp [] t)[pre.length]?=some x:=by rw [<- he,List.append_assoc,List.getElem?_append_right lz9,Nat.sub_self];rfl
 have hin:∀ (k:Nat) (z:El),k < pre.length->(pp [] t)[k]?=some z->pre[k]?=some z:=fun k z hk hz=>by
  rw [<- he,List.append_assoc,List.getElem?_append_left hk] at hz
  exact hz
 cases r with
 | nil=>rfl
 | cons y r'=>
  obtain⟨qq,m⟩:=y
  obtain⟨j,a1,a2,a3⟩:=aF3 [] pre.length x par i ((qq,m) :: r') hxi hx
  have l1:=(iT (hr j _ (hin j _ a1 a2))).1
  obtain⟨j0,b1,b2,b3⟩:=aF3 [] j _ qq m r' a2 rfl
  have l2:=(iT (hr j0 _ (hin j0 _ (by omega) b2))).2.2
  have hks:1<=qq.ks.length:=by
   have h1:2<=qq.sz:=by omega
   rw [lE] at h1
   cases hk:qq.ks with
   | nil=>rw [hk,oT] at h1;omega
   | cons a l=>simp
  have l1':cE qq.f.k (m:Int) qq.ks.length 5=true:=by
   have:bR ((qq,m) :: r') par.f.k=true:=l1
   rw [h5] at this
   exact this
  have l2':dV qq.f.k qq.ks.length=true:=l2
  unfold cE at l1'
  simp only [brP]
  by_cases k5:qq.f.k=5
  ·rw [if_pos k5] at l1';simp [aZ] at l1'
  ·rw [if_neg k5] at l1'
   by_cases k9:qq.f.k=9
   ·rw [if_pos k9] at l1';simp [aZ] at l1'
   ·by_cases k67:qq.f.k=7\/qq.f.k=6
    ·rw [if_pos k67]
    ·exfalso
     unfold dV at l2'
     rw [if_neg (by omega),if_neg (by omega)] at l2'
     have h0:=eq_of_beq l2'
     omega
def bF(c f:Bool)(p:Way)(t:Tr):Prop:=gS p t.f.k=true/\fV c f t
theorem sK{c f:Bool}{t:Tr}(h:fV c f t):cB t.f.k=true:=(gR (g:=t.f.n)).2 ⟨h,fun _=>rfl⟩ |>.1
theorem tK{c f:Bool}{p:Way}{t:Tr}{g:Int}(hbr:∀ par i r,p=(par,i) :: r->par.f.k=5->brP r=true):(bR p t.f.k=true/\aP c f g t.f/\dV t.f.k t.ks.length=true) ↔ (bF c f p t/\(t.f.k=7->t.f.n=g)):=by
 constructor
 ·rintro ⟨h1,h2,h3⟩
  have hk:cB t.f.k=true:=by
   cases p with
   | nil=>exact h1
   | cons y r=>exact sM h1
  have:=gR.1 ⟨hk,h2,h3⟩
  exact⟨⟨by rw [<- lW hbr hk];exact h1,this.1⟩,this.2⟩
 ·rintro ⟨⟨h1,h2⟩,h3⟩
  have hk:=sK h2
  have:=gR.2 ⟨h2,h3⟩
  exact⟨by rw [lW hbr hk];exact h1,this.2⟩
end Go.Proofs.YticfnglebbakkaaGreatDoor

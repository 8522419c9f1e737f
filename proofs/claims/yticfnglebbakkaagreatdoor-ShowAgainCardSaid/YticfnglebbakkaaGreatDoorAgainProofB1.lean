/-
  Parts of the proof.
-/
import Derived.Test.YticfnglebbakkaaGreatDoorAgainProofB0
set_option maxRecDepth 100000
set_option maxHeartbeats 8000000
namespace Go.Proofs.YticfnglebbakkaaGreatDoor
open Go Go.RowKit
theorem dS:Tryz.prog.underlying 23=some (.slice 25):=by kernel_rfl
theorem kQ:(Tryz.prog.info? 25).map (fun i=>(i.zero,i.size,i.bytes))=some (some (.agg #[.int .i64 0,.int .i64 0,.int .i64 0,.int .i64 0,.slice none 0 0,.slice none 0 0]),6,80):=by kernel_rfl
def Six(W:World)(g o:Nat)(f:Fl):Prop:=
 W.cell? ⟨g,o,none⟩=some (.int .i64 f.k)/\W.cell? ⟨g,o+1,none⟩=some (.int .i64 f.n)/\W.cell? ⟨g,o+2,none⟩=some (.int .i64 f.mn)/\W.cell? ⟨g,o+3,none⟩=some (.int .i64 f.mx)/\W.cell? ⟨g,o+4,none⟩=some (.slice f.rq f.rs.length f.rc)/\W.cell? ⟨g,o+5,none⟩=some (.slice f.kq f.kl f.kc)
theorem Six.ck{N:Nat->Prop}{W W':World}{g o:Nat}{f:Fl}(h:Six W g o f)(hc:CKeep N W W')(hg:N g):Six W' g o f:=
 ⟨cT hc (p:=⟨g,o,none⟩) hg h.1,cT hc (p:=⟨g,o+1,none⟩) hg h.2.1,cT hc (p:=⟨g,o+2,none⟩) hg h.2.2.1,cT hc (p:=⟨g,o+3,none⟩) hg h.2.2.2.1,cT hc (p:=⟨g,o+4,none⟩) hg h.2.2.2.2.1,cT hc (p:=⟨g,o+5,none⟩) hg h.2.2.2.2.2⟩
def ArgK(W:World)(v:Value)(ks:List Tr):Prop:=
 (∃ p cap,v=.slice p 0 cap/\ks=[]/\(p=none->cap=0))\/∃ g off cap,v=.slice (some ⟨g,off,none⟩) ks.length cap/\g < W.heap.size/\ks.length<=cap/\cap<=maxLen/\∀ (i:Nat) (t:Tr),ks[i]?=some t->Six W g (off+i * 6) t.f
theorem ArgK.slice{W:World}{v:Value}{ks:List Tr}(h:ArgK W v ks):∃ q cap,v=.slice q ks.length cap/\ks.length<=maxLen/\ks.length<=cap /\
  (∀ (i:Nat) (t:Tr),ks[i]?=some t->∃ g off,q=some ⟨g,off,none⟩/\g < W.heap.size/\Six W g (off+i * 6) t.f):=by
 rcases h with⟨p,cap,rfl,rfl,-⟩ | ⟨g,off,cap,rfl,h2,h3,h4,h5⟩
 ·exact⟨p,cap,rfl,Nat.zero_le _,Nat.zero_le _,fun i x hx=>by simp at hx⟩
 ·exact⟨_,cap,rfl,Nat.le_trans h3 h4,h3,fun i x hx=>⟨g,off,rfl,h2,h5 i x hx⟩⟩
def CK(W W':World):Prop:=CKeep (fun k=>k < W.heap.size) W W'
theorem CK.of_below{W W':World}(h:Below W.heap.size W W'):CK W W':=⟨h.size,fun k _ _ _ _ hc=>(h.block k (aA hc)).trans hc⟩
theorem CK.trans{A B C:World}(h:CK A B)(k:CK B C):CK A C:=⟨Nat.le_trans h.size k.size,fun i cur t fr hi hc=>k.same i cur t fr (Nat.lt_of_lt_of_le hi h.size) (h.same i cur t fr hi hc)⟩
theorem CK.step{A B C:World}(h:CK A B)(k:CKeep (fun i=>i < A.heap.size) B C):CK A C:=⟨Nat.le_trans h.size k.size,fun i cur t fr hi hc=>k.same i cur t fr hi (h.same i cur t fr hi hc)⟩
theorem ArgK.ck{W W':World}{v:Value}{ks:List Tr}(h:ArgK W v ks)(hc:CK W W'):ArgK W' v ks:=by
 rcases h with h | ⟨g,off,cap,h1,h2,h3,h4,h5⟩
 ·exact .inl h
 ·exact .inr ⟨g,off,cap,h1,Nat.lt_of_lt_of_le h2 hc.size,h3,h4,fun i x hx=>(h5 i x hx).ck hc h2⟩
theorem ArgR.ck{W W':World}{v:Value}{L:List (Int × Int)}(h:ArgR W v L)(hc:CK W W'):ArgR W' v L:=by
 rcases h with h | ⟨g,off,cap,h1,h2,h3,h4,h5⟩
 ·exact .inl h
 ·exact .inr ⟨g,off,cap,h1,Nat.lt_of_lt_of_le h2 hc.size,h3,h4,fun i x hx=>⟨cT hc (p:=⟨g,off+2 * i,none⟩) h2 (h5 i x hx).1,cT hc (p:=⟨g,off+2 * i+1,none⟩) h2 (h5 i x hx).2⟩⟩
def NO(W:World)(t:Tr):Prop:=(∀ a,t.f.rq=some a->t.f.rs≠[]->∃ cur,W.heap[a.block]?=some (.cells cur 48 (0,0)))/\(∀ a,t.f.kq=some a->t.ks≠[]->∃ cur,W.heap[a.block]?=some (.cells cur 25 (0,0)))
theorem NO.ck{W W':World}{t:Tr}(h:NO W t)(hc:CK W W'):NO W' t:=
 ⟨fun a e z=>by obtain⟨cur,q⟩:=h.1 a e z;exact⟨cur,hc.same _ _ _ _ (aA q) q⟩,fun a e z=>by obtain⟨cur,q⟩:=h.2 a e z;exact⟨cur,hc.same _ _ _ _ (aA q) q⟩⟩
theorem NO.rows{base:Nat}{W:World}{f:Fl}{ks:List Tr}(hr:W.ownsRow base 48 2 (.slice f.rq f.rs.length f.rc) f.rs.length (aM f.rs))(hk:∀ a,f.kq=some a->ks≠[]->∃ cur,W.heap[a.block]?=some (.cells cur 25 (0,0))):NO W (.mk f ks):=
 ⟨fun a e _=>(aG hr (g:=a.block) (by rw [show f.rq=some a from e];rfl)).2.2,hk⟩
structure NA(W:World)(t:Tr):Prop where
 r:ArgR W (.slice t.f.rq t.f.rs.length t.f.rc) t.f.rs
 k:ArgK W (.slice t.f.kq t.f.kl t.f.kc) t.ks
 fit:Fit t.f.rs
 len:t.f.rs.length+3<=8796093022208
 own:NO W t
theorem NA.ck{W W':World}{t:Tr}(h:NA W t)(hc:CK W W'):NA W' t:=⟨h.r.ck hc,h.k.ck hc,h.fit,h.len,h.own.ck hc⟩
theorem NA.kl{W:World}{t:Tr}(h:NA W t):t.f.kl=t.ks.length:=by
 obtain⟨q,cap,e,-⟩:=h.k.slice
 injection e
def TA(W:World)(t:Tr):Prop:=cK (NA W) t
theorem dX{P Q:Tr->Prop}(h:∀ t,P t->Q t)(t:Tr):cK P t->cK Q t:=by
 refine Tr.ind (P:=fun t=>cK P t->cK Q t) (fun t ih he=>?_) t
 exact(aZ t).2 ⟨h t ((aZ t).1 he).1,(bA _).2 fun u hu=>ih u hu (dW he hu)⟩
theorem TA.ck{W W':World}{t:Tr}(h:TA W t)(hc:CK W W'):TA W' t:=dX (fun _ q=>NA.ck q hc) t h
theorem TA.kept{W W':World}{t:Tr}(h:TA W t)(hb:Below W.heap.size W W'):TA W' t:=h.ck (CK.of_below hb)
theorem TA.node{W:World}{t:Tr}(h:TA W t):NA W t:=((aZ t).1 h).1
theorem TA.kid{W:World}{t u:Tr}(h:TA W t)(hu:u∈t.ks):TA W u:=dW h hu
structure NB(W:World)(t:Tr):Prop where
 r:ArgR W (.slice t.f.rq t.f.rs.length t.f.rc) t.f.rs
 k:ArgK W (.slice t.f.kq t.f.kl t.f.kc) t.ks
 fit:Fit t.f.rs
 len:t.f.rs.length+3<=8796093022208
theorem NB.ck{W W':World}{t:Tr}(h:NB W t)(hc:CK W W'):NB W' t:=⟨h.r.ck hc,h.k.ck hc,h.fit,h.len⟩
theorem NB.kl{W:World}{t:Tr}(h:NB W t):t.f.kl=t.ks.length:=by
 obtain⟨q,cap,e,-⟩:=h.k.slice
 injection e
def TB(W:World)(t:Tr):Prop:=cK (NB W) t
theorem TB.ck{W W':World}{t:Tr}(h:TB W t)(hc:CK W W'):TB W' t:=dX (fun _ q=>NB.ck q hc) t h
theorem TB.kept{W W':World}{t:Tr}(h:TB W t)(hb:Below W.heap.size W W'):TB W' t:=h.ck (CK.of_below hb)
theorem TB.node{W:World}{t:Tr}(h:TB W t):NB W t:=((aZ t).1 h).1
theorem TB.kid{W:World}{t u:Tr}(h:TB W t)(hu:u∈t.ks):TB W u:=dW h hu
theorem TB.at{W:World}{t:Tr}(h:TB W t){p:Way}{z:El}(hz:z∈pp p t):TB W z.2:=xL t p h z hz
theorem TA.tb{W:World}{t:Tr}(h:TA W t):TB W t:=dX (fun _ q=>⟨q.r,q.k,q.fit,q.len⟩) t h
instance {W:World} {t:Tr}:Coe (TA W t) (TB W t):=⟨TA.tb⟩
def BoxN(W:World)(b:Nat)(f:Fl):Prop:=W.heap[b]?=some (.cells #[.int .i64 f.k,.int .i64 f.n,.int .i64 f.mn,.int .i64 f.mx,.slice f.rq f.rs.length f.rc,.slice f.kq f.kl f.kc] 25 (0,0))
theorem BoxN.six{W:World}{b:Nat}{f:Fl}(h:BoxN W b f):Six W b 0 f:=
 ⟨aB h (i:=0) rfl,aB h (i:=1) rfl,aB h (i:=2) rfl,aB h (i:=3) rfl,aB h (i:=4) rfl,aB h (i:=5) rfl⟩
section
inductive Er where
 | mk (k n mn mx:Int) (rs:List (Int × Int)) (ks:List Er)
mutual
def er:Tr->Er | .mk f ks=>.mk f.k f.n f.mn f.mx f.rs (ers ks)
def ers:List Tr->List Er | []=>[] | t :: ts=>er t :: ers ts
end
theorem bE2(l:List Tr):ers l=l.map er:=by
 induction l with
 | nil=>rw [ers];rfl
 | cons t ts ih=>rw [ers,ih];rfl
theorem gF(t:Tr):er t=.mk t.f.k t.f.n t.f.mn t.f.mx t.f.rs (t.ks.map er):=by
 cases t
 rw [er,bE2]
 rfl
theorem bL4(a b:Tr):er a=er b ↔ a.f.k=b.f.k/\a.f.n=b.f.n/\a.f.mn=b.f.mn/\a.f.mx=b.f.mx/\a.f.rs=b.f.rs/\a.ks.map er=b.ks.map er:=by
 rw [gF a,gF b]
 constructor
 ·intro h
  injection h with h1 h2 h3 h4 h5 h6
  exact⟨h1,h2,h3,h4,h5,h6⟩
 ·rintro ⟨h1,h2,h3,h4,h5,h6⟩
  rw [h1,h2,h3,h4,h5,h6]
open Classical in
noncomputable def mM (a b:Er):Bool:=decide (a=b)
theorem nT(a b:Er):mM a b=true ↔ a=b:=by unfold mM;simp
theorem pQ(a:Er):mM a a=true:=(nT a a).2 rfl
open Classical in
noncomputable def lO (a b:List Er):Bool:=decide (a=b)
theorem jG(a b:List Er):lO a b=true ↔ a=b:=by unfold lO;simp
end
inductive Sgn where
 | lf (k n:Int) (rs:List (Int × Int))
 | op (n:Nat)
 | cl
 | al
 | rp (a b:Int)
inductive Ps where
 | lf (k n:Int) (rs:List (Int × Int))
 | grp (n:Nat) (x:Ps)
 | rep (a b:Int) (x:Ps)
 | row (l:List Ps)
 | alt (l:List Ps)
mutual
def Ps.sz:Ps->Nat
 | .lf _ _ _=>1
 | .grp _ x=>x.sz+1
 | .rep _ _ x=>x.sz+1
 | .row l=>eP l+1
 | .alt l=>eP l+1
def eP:List Ps->Nat
 | []=>0
 | x :: l=>x.sz+eP l
end
mutual
def Ps.dp:Ps->Nat
 | .lf _ _ _=>1
 | .grp _ x=>x.dp+1
 | .rep _ _ x=>x.dp+1
 | .row l=>eQ l+1
 | .alt l=>eQ l+1
def eQ:List Ps->Nat
 | []=>0
 | x :: l=>max x.dp (eQ l)
end
mutual
def pfl:Ps->List Sgn
 | .lf k n rs=>[.lf k n rs]
 | .grp n x=>.op n :: (pfl x ++ [.cl])
 | .rep a b x=>pfl x ++ [.rp a b]
 | .row l=>bS l
 | .alt l=>cJ l
def bS:List Ps->List Sgn
 | []=>[]
 | x :: l=>pfl x ++ bS l
def cJ:List Ps->List Sgn
 | []=>[]
 | x :: l=>pfl x ++ bZ l
def bZ:List Ps->List Sgn
 | []=>[]
 | x :: l=>.al :: (pfl x ++ bZ l)
end
mutual
def te:Ps->Er
 | .lf k n rs=>.mk k n 0 0 rs []
 | .grp n x=>.mk 7 n 0 0 [] [te x]
 | .rep a b x=>.mk 9 0 a b [] [te x]
 | .row l=>if l.isEmpty then .mk 1 0 0 0 [] [] else .mk 5 0 0 0 [] (tes l)
 | .alt l=>.mk 6 0 0 0 [] (tes l)
def tes:List Ps->List Er
 | []=>[]
 | x :: l=>te x :: tes l
end
theorem gZ(l:List Ps):tes l=l.map te:=by
 induction l with
 | nil=>rw [tes];rfl
 | cons x l ih=>rw [tes,ih];rfl
def Ps.kd:Ps->Int
 | .lf k _ _=>k
 | .grp _ _=>7
 | .rep _ _ _=>9
 | .row l=>if l.isEmpty then 1 else 5
 | .alt _=>6
def cD:Ps->Bool
 | .row _=>false
 | .alt _=>false
 | _=>true
def oV:Ps->Bool
 | .alt _=>false
 | _=>true
def eG:Ps->Bool
 | .lf k _ _=>k==2 || k==8
 | .grp _ _=>true
 | .rep _ _ _=>true
 | _=>false
def yN(l:List Ps):Prop:=∀ (i:Nat) (x:Ps),l[i]?=some x->cD x=true/\(x.kd=3->i=0)/\(x.kd=4->i+1=l.length)
mutual
def wf:Ps->Prop
 | .lf k _ _=>k=2\/k=3\/k=4\/k=8
 | .grp _ x=>wf x
 | .rep _ _ x=>eG x=true/\wf x
 | .row l=>l.length≠1/\yN l/\wfs l
 | .alt l=>2<=l.length/\(∀ x∈l,oV x=true)/\wfs l
def wfs:List Ps->Prop
 | []=>True
 | x :: l=>wf x/\wfs l
end
theorem cL(l:List Ps):wfs l ↔ ∀ x∈l,wf x:=by
 induction l with
 | nil=>rw [wfs];simp
 | cons x l ih=>rw [wfs,ih];simp
theorem cI(a b:List Ps):bS (a ++ b)=bS a ++ bS b:=by
 induction a with
 | nil=>rw [bS];rfl
 | cons x a ih=>rw [List.cons_append,bS,bS,ih,List.append_assoc]
theorem oJ(a b:List Ps):bZ (a ++ b)=bZ a ++ bZ b:=by
 induction a with
 | nil=>rw [bZ];rfl
 | cons x a ih=>rw [List.cons_append,bZ,bZ,ih];simp
theorem dN(x:Ps):bS [x]=pfl x:=by rw [bS,bS,List.append_nil]
theorem wC(x:Ps):bZ [x]=.al :: pfl x:=by rw [bZ,bZ,List.append_nil]
theorem sF(x:Ps)(l:List Ps):cJ (x :: l)=pfl x ++ bZ l:=by rw [cJ]
theorem kS(x:Ps):1<=x.sz:=by cases x <;> simp [Ps.sz]
theorem dU(x:Ps)(l:List Ps):eP (x :: l)=x.sz+eP l:=by rw [eP]
theorem iW:eP []=0:=by rw [eP]
theorem pC{x:Ps}{l:List Ps}(h:x∈l):x.sz<=eP l:=by
 induction l with
 | nil=>cases h
 | cons y l ih=>
  rw [dU]
  rcases List.mem_cons.1 h with rfl | h
  ·omega
  ·have:=ih h;omega
def Ps.kids:Ps->List Ps
 | .lf _ _ _=>[]
 | .grp _ x=>[x]
 | .rep _ _ x=>[x]
 | .row l=>l
 | .alt l=>l
theorem tS{x y:Ps}(h:y∈x.kids):y.sz < x.sz:=by
 cases x with
 | lf=>cases h
 | grp n k=>simp [Ps.kids] at h;subst h;simp [Ps.sz]
 | rep a b k=>simp [Ps.kids] at h;subst h;simp [Ps.sz]
 | row l=>have:=pC (show y∈l from h);simp [Ps.sz];omega
 | alt l=>have:=pC (show y∈l from h);simp [Ps.sz];omega
theorem Ps.ind{P:Ps->Prop}(h:∀ x,(∀ y∈x.kids,P y)->P x)(x:Ps):P x:=by
 have:∀ (m:Nat) (x:Ps),x.sz<=m->P x:=by
  intro m
  induction m with
  | zero=>intro x hx;have:=kS x;omega
  | succ m ih=>intro x hx;exact h x fun y hy=>ih y (by have:=tS hy;omega)
 exact this x.sz x lz9
theorem bH9{x y:Ps}(h:wf x)(hy:y∈x.kids):wf y:=by
 cases x with
 | lf=>cases hy
 | grp n k=>simp [Ps.kids] at hy;subst hy;rw [wf] at h;exact h
 | rep a b k=>simp [Ps.kids] at hy;subst hy;rw [wf] at h;exact h.2
 | row l=>rw [wf] at h;exact(cL l).1 h.2.2 y hy
 | alt l=>rw [wf] at h;exact(cL l).1 h.2.2 y hy
def okp:Option Sgn->Sgn->Prop
 | p,.rp _ _=>(∃ k n rs,p=some (.lf k n rs)/\(k=2\/k=8))\/p=some .cl\/∃ a b,p=some (.rp a b)
 | p,.lf k _ _=>(k=2\/k=3\/k=4\/k=8)/\(k=3->p=none\/p=some .al\/∃ n,p=some (.op n))/\∀ n rs,p≠some (.lf 4 n rs)
 | p,.op _=>∀ n rs,p≠some (.lf 4 n rs)
 | _,.cl=>True
 | _,.al=>True
def adj:Option Sgn->List Sgn->Prop
 | _,[]=>True
 | p,x :: l=>okp p x/\adj (some x) l
def hk:Nat->List Nat->List Nat->List Sgn->Prop
 | _,o,_,[]=>o=[]
 | g,o,e,.op n :: l=>n=g+1/\g < 30/\hk (g+1) (n :: o) e l
 | g,o,e,.cl :: l=>∃ n o',o=n :: o'/\hk g o' (n :: e) l
 | g,o,e,.lf k n _ :: l=>(k=8->∃ i∈e,n=(i:Int))/\hk g o e l
 | g,o,e,_ :: l=>hk g o e l
def mkB(l:List Ps):Ps:=match l with
 | [x]=>x
 | l=>.row l
def mkP(l:List Ps):Ps:=match l with
 | [x]=>x
 | l=>.alt l
theorem kC(l:List Ps):pfl (mkB l)=bS l:=by
 unfold mkB
 split
 ·rw [dN]
 ·rw [pfl]
theorem qG(b:List Ps)(x:Ps):pfl (mkP (b ++ [x]))=cJ (b ++ [x]):=by
 unfold mkP
 split
 ·rename_i y h;rw [h,sF,bZ,List.append_nil]
 ·rw [pfl]
theorem nY{l:List Ps}(h:yN l)(hw:wfs l):wf (mkB l)/\oV (mkB l)=true:=by
 unfold mkB
 split
 ·rename_i x
  refine⟨(cL _).1 hw x (by simp),?_⟩
  have:=(h 0 x rfl).1
  cases x <;> simp_all [cD,oV]
 ·rename_i hne
  refine⟨?_,rfl⟩
  rw [wf]
  refine⟨fun hl=>?_,h,hw⟩
  match l,hl with
  | [x],_=>exact hne x rfl
theorem aS2{l:List Ps}(hl:l≠[])(h:∀ x∈l,oV x=true)(hw:wfs l):wf (mkP l):=by
 unfold mkP
 split
 ·rename_i x
  exact(cL _).1 hw x (by simp)
 ·rename_i hne
  rw [wf]
  refine⟨?_,h,hw⟩
  match l,hl with
  | [x],_=>exact absurd rfl (hne x)
  | _ :: _ :: _,_=>simp
structure Pf where
 n:Nat
 b:List Ps
 i:List Ps
def jB(f:Pf):List Sgn:=f.b.flatMap (fun x=>pfl x ++ [.al]) ++ bS f.i
def jT:List Pf->List Sgn
 | []=>[]
 | [f]=>jB f
 | f :: g :: r=>jT (g :: r) ++ .op f.n :: jB f
theorem sE(b:List Ps)(x:Ps):cJ (b ++ [x])=b.flatMap (fun x=>pfl x ++ [.al]) ++ pfl x:=by
 have:∀ (b:List Ps) (x:Ps),Sgn.al :: (b.flatMap (fun x=>pfl x ++ [.al]) ++ pfl x)=bZ (b ++ [x]):=by
  intro b
  induction b with
  | nil=>intro x;rw [List.nil_append,wC];rfl
  | cons y b ih=>intro x;rw [List.cons_append,bZ,<- ih];simp
 cases b with
 | nil=>rw [List.nil_append,cJ,bZ];simp
 | cons y b=>rw [List.cons_append,cJ,<- this];simp
def bM5:Option Sgn->List Ps->Prop
 | none,l=>l=[]
 | some (.op _),l=>l=[]
 | some .al,l=>l=[]
 | some (.lf k n rs),l=>∃ a,l=a ++ [.lf k n rs]
 | some _,l=>∃ a x,l=a ++ [x]/\eG x=true
structure bP2(f:Pf):Prop where
 br:∀ x∈f.b,oV x=true/\wf x
 an:yN f.i
 wf:wfs f.i
def no4(l:List Ps):Prop:=∀ x∈l,x.kd≠4
theorem tB{l:List Ps}{x:Ps}(h:yN l)(h4:no4 l)(hx:cD x=true)(h3:x.kd=3->l=[]):yN (l ++ [x]):=by
 intro i y hy
 rcases Nat.lt_trichotomy i l.length with g | g | g
 ·rw [List.getElem?_append_left g] at hy
  exact⟨(h i y hy).1,(h i y hy).2.1,fun q=>absurd q (h4 y (List.mem_of_getElem? hy))⟩
 ·subst g
  rw [List.getElem?_append_right lz9,Nat.sub_self] at hy
  simp at hy
  subst hy
  exact⟨hx,fun q=>by rw [h3 q];rfl,fun _=>by simp⟩
 ·rw [List.getElem?_append_right (by omega),List.getElem?_eq_none (by simp;omega)] at hy
  cases hy
theorem mH{x:Ps}(h:eG x=true):cD x=true/\x.kd≠3/\x.kd≠4:=by
 cases x with
 | lf k n rs=>
  simp [eG] at h
  rcases h with rfl | rfl <;> simp [cD,Ps.kd]
 | grp=>simp [cD,Ps.kd]
 | rep=>simp [cD,Ps.kd]
 | row=>simp [eG] at h
 | alt=>simp [eG] at h
theorem aD3{p:Option Sgn}{l:List Ps}(h:bM5 p l)(ha:yN l)(hp:∀ n rs,p≠some (.lf 4 n rs)):no4 l:=by
 have key:∀ a x,l=a ++ [x]->x.kd≠4->no4 l:=by
  rintro a x rfl hx y hy h4
  obtain⟨i,hi,e⟩:=List.getElem_of_mem hy
  have h1:(a ++ [x])[i]?=some y:=by rw [List.getElem?_eq_getElem hi,e]
  have h2:=(ha i y h1).2.2 h4
  rw [List.length_append,List.length_singleton] at h2
  have h3:i=a.length:=by omega
  subst h3
  rw [List.getElem?_append_right lz9,Nat.sub_self] at h1
  simp at h1
  subst h1
  exact hx h4
 match p,h with
 | none,h=>rw [show l=[] from h];intro x hx;cases hx
 | some (.op _),h=>rw [show l=[] from h];intro x hx;cases hx
 | some .al,h=>rw [show l=[] from h];intro x hx;cases hx
 | some (.lf k n rs),⟨a,e⟩=>exact key a _ e (fun q=>hp n rs (by rw [show k=4 from q]))
 | some .cl,⟨a,x,e,hx⟩=>exact key a x e (mH hx).2.2
 | some (.rp _ _),⟨a,x,e,hx⟩=>exact key a x e (mH hx).2.2
theorem jV{l:List Ps}{x:Ps}(h:wfs l)(hx:wf x):wfs (l ++ [x]):=by
 rw [cL] at h ⊢
 intro y hy
 rcases List.mem_append.1 hy with q | q
 ·exact h y q
 ·simp at q;subst q;exact hx
theorem nX:∀ (L:List Sgn) (f:Pf) (st:List Pf) (p:Option Sgn) (g:Nat) (o e:List Nat),bP2 f->(∀ h∈st,bP2 h/\no4 h.i)->bM5 p f.i->adj p L->hk g o e L->o.length=st.length ->
  ∃ x,wf x/\pfl x=jT (f :: st) ++ L
 | [],f,st,p,g,o,e,h1,h2,h3,h4,h5,h6=>by
  have h7:o=[]:=h5
  subst h7
  obtain rfl:=List.eq_nil_of_length_eq_zero h6.symm
  refine⟨mkP (f.b ++ [mkB f.i]),aS2 (by simp) ?_ ?_,?_⟩
  ·intro x hx
   rcases List.mem_append.1 hx with q | q
   ·exact(h1.br x q).1
   ·simp at q;subst q;exact(nY h1.an h1.wf).2
  ·exact jV ((cL _).2 fun x hx=>(h1.br x hx).2) (nY h1.an h1.wf).1
  ·rw [qG,sE,kC,List.append_nil]
   rfl
 | .lf k n rs :: L,f,st,p,g,o,e,h1,h2,h3,h4,h5,h6=>by
  obtain⟨⟨k1,k2,k3⟩,ha⟩:=h4
  obtain⟨x,hx,hf⟩:=nX L ⟨f.n,f.b,f.i ++ [.lf k n rs]⟩ st (some (.lf k n rs)) g o e
   ⟨h1.br,tB h1.an (aD3 h3 h1.an k3) rfl (fun q=>by
    rcases k2 q with rfl | rfl | ⟨m,rfl⟩ <;> exact h3),jV h1.wf (by rw [wf];exact k1)⟩ h2 ⟨f.i,rfl⟩ ha h5.2 h6
  refine⟨x,hx,hf.trans ?_⟩
  cases st with
  | nil=>simp [jT,jB,cI,dN,pfl]
  | cons h st=>simp [jT,jB,cI,dN,pfl]
 | .op n :: L,f,st,p,g,o,e,h1,h2,h3,h4,h5,h6=>by
  obtain⟨k3,ha⟩:=h4
  obtain⟨x,hx,hf⟩:=nX L ⟨n,[],[]⟩ (f :: st) (some (.op n)) (g+1) (n :: o) e
   ⟨fun x hx=>(by cases hx),fun i x hx=>(by simp at hx),by rw [wfs];trivial⟩ (fun h hh=>by
    rcases List.mem_cons.1 hh with rfl | hh
    ·exact⟨h1,aD3 h3 h1.an k3⟩
    ·exact h2 h hh) rfl ha h5.2.2 (by simp [h6])
  refine⟨x,hx,hf.trans ?_⟩
  simp [jT,jB,bS]
 | .cl :: L,f,st,p,g,o,e,h1,h2,h3,h4,h5,h6=>by
  obtain⟨n,o',rfl,h7⟩:=h5
  match st,h6 with
  | u :: st,h6=>
   have hu:=h2 u (List.mem_cons_self ..)
   have hP:wf (mkP (f.b ++ [mkB f.i])):=by
    refine aS2 (by simp) (fun x hx=>?_) (jV ((cL _).2 fun x hx=>(h1.br x hx).2) (nY h1.an h1.wf).1)
    rcases List.mem_append.1 hx with q | q
    ·exact(h1.br x q).1
    ·simp at q;subst q;exact(nY h1.an h1.wf).2
   obtain⟨x,hx,hf⟩:=nX L ⟨u.n,u.b,u.i ++ [.grp f.n (mkP (f.b ++ [mkB f.i]))]⟩ st (some .cl) g o' (n :: e)
    ⟨hu.1.br,tB hu.1.an hu.2 rfl (fun q=>by cases q),jV hu.1.wf (by rw [wf];exact hP)⟩ (fun h hh=>h2 h (List.mem_cons_of_mem _ hh)) ⟨u.i,_,rfl,rfl⟩ h4.2 h7 (by simpa using h6)
   refine⟨x,hx,hf.trans ?_⟩
   have e1:pfl (.grp f.n (mkP (f.b ++ [mkB f.i])))=.op f.n :: (jB f ++ [.cl]):=by
    rw [pfl,qG,sE,kC];rfl
   cases st with
   | nil=>simp [jT,jB,cI,dN,e1]
   | cons h st=>simp [jT,jB,cI,dN,e1]
 | .al :: L,f,st,p,g,o,e,h1,h2,h3,h4,h5,h6=>by
  obtain⟨x,hx,hf⟩:=nX L ⟨f.n,f.b ++ [mkB f.i],[]⟩ st (some .al) g o e
   ⟨fun x hx=>(by
    rcases List.mem_append.1 hx with q | q
    ·exact h1.br x q
    ·simp at q;subst q;exact⟨(nY h1.an h1.wf).2,(nY h1.an h1.wf).1⟩),fun i x hx=>(by simp at hx),by rw [wfs];trivial⟩ h2 rfl h4.2 h5 h6
  refine⟨x,hx,hf.trans ?_⟩
  cases st with
  | nil=>simp [jT,jB,kC,bS]
  | cons h st=>simp [jT,jB,kC,bS]
 | .rp a b :: L,f,st,p,g,o,e,h1,h2,h3,h4,h5,h6=>by
  obtain⟨k,ha⟩:=h4
  have hh:∃ a0 x,f.i=a0 ++ [x]/\eG x=true:=by
   rcases k with⟨k,n,rs,rfl,hk⟩ | rfl | ⟨a,b,rfl⟩
   ·obtain⟨a0,e⟩:=h3
    exact⟨a0,_,e,by rcases hk with rfl | rfl <;> rfl⟩
   ·exact h3
   ·exact h3
  obtain⟨a0,y,e,hy⟩:=hh
  have hw:wfs a0/\wf y:=by
   have:=(cL _).1 h1.wf
   rw [e] at this
   exact⟨(cL _).2 fun z hz=>this z (List.mem_append_left _ hz),this y (by simp)⟩
  have hA:yN (a0 ++ [.rep a b y]):=by
   intro i z hz
   rcases Nat.lt_trichotomy i a0.length with g | g | g
   ·rw [List.getElem?_append_left g] at hz
    have:=h1.an i z (by rw [e,List.getElem?_append_left g];exact hz)
    rw [e] at this
    simpa using this
   ·subst g
    rw [List.getElem?_append_right lz9,Nat.sub_self] at hz
    simp at hz
    subst hz
    exact⟨rfl,fun q=>(by cases q),fun q=>(by cases q)⟩
   ·rw [List.getElem?_append_right (by omega),List.getElem?_eq_none (by simp;omega)] at hz
    cases hz
  obtain⟨x,hx,hf⟩:=nX L ⟨f.n,f.b,a0 ++ [.rep a b y]⟩ st (some (.rp a b)) g o _
   ⟨h1.br,hA,jV hw.1 (by rw [wf];exact⟨hy,hw.2⟩)⟩ h2 ⟨a0,_,rfl,rfl⟩ ha h5 h6
  refine⟨x,hx,hf.trans ?_⟩
  have e2:bS f.i=bS a0 ++ pfl y:=by rw [e,cI,dN]
  cases st with
  | nil=>simp [jT,jB,cI,dN,e2,pfl]
  | cons h st=>simp [jT,jB,cI,dN,e2,pfl]
theorem bB1{L:List Sgn}(ha:adj none L)(hh:hk 0 [] [] L):∃ x,wf x/\pfl x=L:=by
 obtain⟨x,h1,h2⟩:=nX L ⟨0,[],[]⟩ [] none 0 [] [] ⟨fun x hx=>(by cases hx),fun i x hx=>(by simp at hx),by rw [wfs];trivial⟩ (fun h hh=>by cases hh) rfl ha hh rfl
 exact⟨x,h1,by rw [h2];simp [jT,jB,bS]⟩
def eD(k:Int):Bool:=decide (1<=k) && decide (k<=9)
def cO(k:Int):Bool:=k==2 || k==7 || k==8 || k==9
def jD(a b:Int):Bool:=decide (0<=a) && decide (a<=255) && (b==-1 ||(decide (a<=b) && decide (b<=255)))
def gS(k:Int)(n:Nat):Bool:=if k=5\/k=6 then decide (2<=n) else if k=7\/k=9 then n==1 else n==0
theorem xF(k:Int)(w:World):Calls Tryz.prog 102 #[.int .i64 k] w fun e w'=>e=.returned (.bool (eD k))/\w'=w:=by
 have hid:∀ b,eD k=b->Calls Tryz.prog 102 #[.int .i64 k] w fun e w'=>e=.returned (.bool b)/\w'=w:=by
  intro b hb
  by_cases h1:(1:Int)<=k
  ·by_cases h2:k<=9
   ·have e:b=true:=by rw [<- hb];simp [eD,h1,h2]
    subst e
    clear hb
    go_enter Tryz.func102,Tryz.ntmps102
    go_wp2
    go_ret
    exact⟨rfl,rfl⟩
   ·have e:b=false:=by rw [<- hb];simp [eD,h2]
    subst e
    clear hb
    go_enter Tryz.func102,Tryz.ntmps102
    go_wp2
    go_ret
    exact⟨rfl,rfl⟩
  ·have e:b=false:=by rw [<- hb];simp [eD,h1]
   subst e
   clear hb
   go_enter Tryz.func102,Tryz.ntmps102
   go_wp2
   go_ret
   exact⟨rfl,rfl⟩
 exact hid _ rfl
theorem oL(k:Int)(w:World):Calls Tryz.prog 101 #[.int .i64 k] w fun e w'=>e=.returned (.bool (cO k))/\w'=w:=by
 have hid:∀ b,cO k=b->Calls Tryz.prog 101 #[.int .i64 k] w fun e w'=>e=.returned (.bool b)/\w'=w:=by
  intro b hb
  unfold cO at hb
  cases h1:(k==2) <;> cases h2:(k==7) <;> cases h3:(k==8) <;> cases h4:(k==9) <;> rw [h1,h2,h3,h4] at hb <;> simp at hb <;> subst hb
  all_goals
   go_enter Tryz.func101,Tryz.ntmps101
   go_wp2
   go_ret
   exact⟨rfl,rfl⟩
 exact hid _ rfl
theorem rI(a b:Int)(w:World):Calls Tryz.prog 104 #[.int .i64 a,.int .i64 b] w fun e w'=>e=.returned (.bool (jD a b))/\w'=w:=by
 have hid:∀ r,jD a b=r->Calls Tryz.prog 104 #[.int .i64 a,.int .i64 b] w fun e w'=>e=.returned (.bool r)/\w'=w:=by
  intro r hb
  unfold jD at hb
  by_cases h1:(0:Int)<=a
  ·by_cases h2:a<=255
   ·cases h3:(b==-1) with
    | true=>
     simp [h1,h2,h3] at hb
     subst hb
     go_enter Tryz.func104,Tryz.ntmps104
     go_wp2
     go_ret
     exact⟨rfl,rfl⟩
    | false=>
     by_cases h4:a<=b
     ·by_cases h5:b<=255
      ·simp [h1,h2,h3,h4,h5] at hb
       subst hb
       go_enter Tryz.func104,Tryz.ntmps104
       go_wp2
       go_ret
       exact⟨rfl,rfl⟩
      ·simp [h1,h2,h3,h4,h5] at hb
       subst hb
       go_enter Tryz.func104,Tryz.ntmps104
       go_wp2
       go_ret
       exact⟨rfl,rfl⟩
     ·simp [h1,h2,h3,h4] at hb
      subst hb
      go_enter Tryz.func104,Tryz.ntmps104
      go_wp2
      go_ret
      exact⟨rfl,rfl⟩
   ·simp [h1,h2] at hb
    subst hb
    go_enter Tryz.func104,Tryz.ntmps104
    go_wp2
    go_ret
    exact⟨rfl,rfl⟩
  ·simp [h1] at hb
   subst hb
   go_enter Tryz.func104,Tryz.ntmps104
   go_wp2
   go_ret
   exact⟨rfl,rfl⟩
 exact hid _ rfl
theorem aX6(n:Nat):((n:Int)==0)=(n==0):=by cases n <;> rfl
theorem bF3(n:Nat):((n:Int)==1)=(n==1):=by rw [Bool.eq_iff_iff];simp;omega
theorem vU(f:Fl)(w:World):Calls Tryz.prog 61 #[.agg #[.int .i64 f.k,.int .i64 f.n,.int .i64 f.mn,.int .i64 f.mx,.slice f.rq f.rs.length f.rc,.slice f.kq f.kl f.kc]] w fun e w'=>e=.returned (.bool (gS f.k f.kl))/\Below w.heap.size w w':=by
 obtain⟨r,hr⟩:∃ r,gS f.k f.kl=r:=⟨_,rfl⟩
 rw [hr]
 have HR:=aC hr
 have B1:Hid (Below w.heap.size w (w.alloc (.cells #[.int .i64 f.k,.int .i64 f.n,.int .i64 f.mn,.int .i64 f.mx,.slice f.rq f.rs.length f.rc,.slice f.kq f.kl f.kc] 25))):=bz9
 have N1:Hid (BoxN (w.alloc (.cells #[.int .i64 f.k,.int .i64 f.n,.int .i64 f.mn,.int .i64 f.mx,.slice f.rq f.rs.length f.rc,.slice f.kq f.kl f.kc] 25)) w.heap.size f):=aE w _
 obtain⟨c0,-,-,-,-,c5⟩:=N1.out.six
 simp only [Nat.zero_add] at c5
 clear hr
 cases h5:(f.k==5) <;> cases h6:(f.k==6) <;> cases h7:(f.k==7) <;> cases h9:(f.k==9)
 all_goals
  go_enter Tryz.func61,Tryz.ntmps61
  go_wp2
  go_ret
  refine⟨?_,B1.out⟩
  rw [<- HR.out]
  unfold gS
  simp at h5 h6 h7 h9
  simp [h5,h6,h7,h9]
  try first | exact aX6 _ | exact bF3 _ | omega
section
open Go
open Classical in
noncomputable def rsQ (q:Int->Prop):List (Int × Int):=if h:∃ C,IsC C q then h.choose else []
theorem zH{C:List (Int × Int)}{q:Int->Prop}(h:IsC C q):rsQ q=C:=by
 have hx:∃ C,IsC C q:=⟨C,h⟩
 unfold rsQ
 rw [dif_pos hx]
 exact hx.choose_spec.one h (fun _=>Iff.rfl)
noncomputable def sgT (g:Nat) (t:Tk):Sgn:=
 if t.kind=3 then .op (g+1) else if t.kind=4 then .cl else if t.kind=5 then .al else if t.kind=2 then .rp t.mn t.mx
 else if t.kind=7 then .lf 3 0 [] else if t.kind=8 then .lf 4 0 [] else if t.kind=6 then .lf 8 (t.n:Int) [] else .lf 2 0 (rsQ t.q)
def gnx(g:Nat)(t:Tk):Nat:=if t.kind=3 then g+1 else g
noncomputable def iH:Nat->List Tp->List Sgn
 | _,[]=>[]
 | g,t :: T=>sgT g t.1 :: iH (gnx g t.1) T
theorem hZ:∀ (g:Nat) (T:List Tp),(iH g T).length=T.length
 | g,[]=>rfl
 | g,t :: T=>by rw [iH,List.length_cons,List.length_cons,hZ]
structure GS where
 g:Nat
 o:List (Nat × Nat)
 e:List Nat
def glk(s:GS)(t:Tp):Except (Nat × Nat) GS:=
 if t.1.kind=3 then (if s.g=30 then .error (42,t.2.1) else .ok ⟨s.g+1,s.o ++ [(s.g+1,t.2.1)],s.e⟩)
 else if t.1.kind=4 then (match s.o.getLast? with
  | none=>.error (40,t.2.1)
  | some x=>.ok ⟨s.g,s.o.dropLast,x.1 :: s.e⟩)
 else if t.1.kind=6 then (if t.1.n∈s.e then .ok s else .error (41,t.2.1))
 else .ok s
def gck:GS->List Tp->Except (Nat × Nat) GS
 | s,[]=>.ok s
 | s,t :: T=>match glk s t with
  | .error x=>.error x
  | .ok s'=>gck s' T
def gs0:GS:=⟨0,[],[]⟩
def fW(T:List Tp):Option (Nat × Nat):=match gck gs0 T with
 | .error x=>some x
 | .ok s=>match s.o with
  | []=>none
  | x :: _=>some (39,x.2)
theorem qJ:∀ (T:List Tp) (s s':GS),s.g<=30->gck s T=.ok s'->s'.o=[]->hk s.g (s.o.map Prod.fst).reverse s.e (iH s.g T)
 | [],s,s',hg,h,ho=>by
  cases h
  rw [ho]
  rfl
 | t :: T,s,s',hg,h,ho=>by
  rw [gck] at h
  rw [iH]
  by_cases k3:t.1.kind=3
  ·by_cases hg2:s.g=30
   ·simp [glk,k3,hg2] at h
   ·simp only [glk,if_pos k3,if_neg hg2] at h
    have:=qJ T _ s' (by simp only;omega) h ho
    simp only [List.map_append,List.reverse_append] at this
    simp only [sgT,if_pos k3,gnx,hk]
    exact⟨trivial,by omega,this⟩
  ·by_cases k4:t.1.kind=4
   ·cases hl:s.o.getLast? with
    | none=>simp [glk,k4,hl] at h
    | some x=>
     simp only [glk,if_neg k3,if_pos k4,hl] at h
     have hx:s.o=s.o.dropLast ++ [x]:=by
      have hne:s.o≠[]:=fun e=>by rw [e] at hl;cases hl
      rw [List.getLast?_eq_some_getLast hne] at hl
      cases hl
      exact(List.dropLast_concat_getLast hne).symm
     have:=qJ T _ s' (by simp only;omega) h ho
     simp only [sgT,if_neg k3,if_pos k4,gnx,hk]
     refine⟨x.1,(s.o.dropLast.map Prod.fst).reverse,?_,this⟩
     conv=>lhs;rw [hx]
     simp
   ·by_cases k6:t.1.kind=6
    ·by_cases hm:t.1.n∈s.e
     ·simp only [glk,if_neg k3,if_neg k4,if_pos k6,if_pos hm] at h
      have:=qJ T _ s' hg h ho
      have e1:sgT s.g t.1=.lf 8 (t.1.n:Int) []:=by simp [sgT,k6]
      rw [e1]
      simp only [gnx,if_neg k3,hk]
      exact⟨fun _=>⟨_,hm,rfl⟩,this⟩
     ·simp [glk,k6,hm] at h
    ·simp only [glk,if_neg k3,if_neg k4,if_neg k6] at h
     have:=qJ T _ s' hg h ho
     simp only [sgT,if_neg k3,if_neg k4,if_neg k6,gnx]
     repeat' split
     all_goals first | exact this | exact⟨fun q=>by(exfalso;revert q;decide),this⟩ |(simp only [hk];exact this)
theorem aG1{T:List Tp}(h:fW T=none):hk 0 [] [] (iH 0 T):=by
 unfold fW at h
 cases hg:gck gs0 T with
 | error x=>rw [hg] at h;cases h
 | ok s=>
  rw [hg] at h
  have ho:s.o=[]:=by
   cases ho:s.o with
   | nil=>rfl
   | cons x r=>simp [ho] at h
  exact qJ T gs0 s (by simp [gs0]) hg ho
structure TkK(m:Md)(s:ByteArray)(p last:Nat)(t:Tk)(q:Nat):Prop where
 rep:t.kind=2->fM last=false/\jD t.mn t.mx=true
 beg:t.kind=7->p=0\/last=3\/last=5
 fin:t.kind=8->q=p+1/\lK s p=true
 back:t.kind=6->1<=t.n/\t.n<=9
 set:t.kind=1->∃ L b,t.q=eN m L b
 chr:∀ c,t.q c->aU m.c c
def TkR(m:Md)(s:ByteArray)(p last:Nat)(r:Rs (Tk × Nat)):Prop:=match r with
 | .error _=>True
 | .ok x=>TkK m s p last x.1 x.2
theorem tH(m:Md)(s:ByteArray)(p last:Nat)(L:List (Int × Int))(b:Bool)(q:Nat):TkR m s p last (.ok (bJ m L b,q)):=
 ⟨fun h=>(by cases h),fun h=>(by cases h),fun h=>(by cases h),fun h=>(by cases h),fun _=>⟨L,b,rfl⟩,fun c h=>h.1⟩
theorem aO4(m:Md)(s:ByteArray)(p last k q:Nat)(h1:k=3\/k=4\/k=5):TkR m s p last (.ok (kT k,q)):=by
 refine⟨fun h=>?_,fun h=>?_,fun h=>?_,fun h=>?_,fun h=>?_,fun c h=>h.elim⟩ <;> (have h':k=_:=h;omega)
theorem tI(m:Md)(s:ByteArray)(p last:Nat)(a b:Int)(q:Nat)(h1:fM last=false)(h2:jD a b=true):TkR m s p last (.ok (dK a b,q)):=
 ⟨fun _=>⟨h1,h2⟩,fun h=>(by cases h),fun h=>(by cases h),fun h=>(by cases h),fun h=>(by cases h),fun c h=>h.elim⟩
theorem bO6(m:Md)(s:ByteArray)(p last:Nat):TkR m s p last (brk m s p):=by
 unfold brk
 split
 ·trivial
 ·split
  ·trivial
  ·exact tH ..
theorem bK6(m:Md)(s:ByteArray)(p last:Nat)(h:fM last=false):TkR m s p last (lW s p):=by
 unfold lW
 split
 ·trivial
 split
 ·trivial
 ·rename_i n
  refine tI _ _ _ _ _ _ _ h ?_
  have:-1<=ivB s p:=by unfold ivB;split <;> (try split) <;> omega
  simp only [jD,Bool.and_eq_true,Bool.or_eq_true,decide_eq_true_eq,beq_iff_eq]
  omega
theorem bN9(m:Md)(s:ByteArray)(p last:Nat):TkR m s p last (esc m s p last):=by
 unfold esc
 split
 ·trivial
 split
 ·exact aO4 _ _ _ _ _ _ (by omega)
 split
 ·exact aO4 _ _ _ _ _ _ (by omega)
 split
 ·exact aO4 _ _ _ _ _ _ (by omega)
 split
 ·rename_i h
  exact⟨fun h=>(by cases h),fun h=>(by cases h),fun h=>(by cases h),fun _=>⟨by simp only [cZ];omega,by simp only [cZ];omega⟩,fun h=>(by cases h),fun c h=>h.elim⟩
 split
 ·split
  ·trivial
  rename_i hb
  have hb':fM last=false:=by simpa using hb
  split
  ·exact tI _ _ _ _ _ _ _ hb' rfl
  split
  ·exact tI _ _ _ _ _ _ _ hb' rfl
  ·exact bK6 m s p last hb'
 split
 ·exact tH ..
 ·trivial
theorem bM6(m:Md)(s:ByteArray)(p last:Nat):TkR m s p last (tok m s p last):=by
 unfold tok
 split
 ·exact bN9 ..
 split
 ·rename_i h
  simp only [Bool.and_eq_true,Bool.not_eq_true'] at h
  exact tI _ _ _ _ _ _ _ h.2 rfl
 split
 ·rename_i h
  simp only [Bool.and_eq_true,Bool.or_eq_true,beq_iff_eq] at h
  exact⟨fun h=>(by cases h),fun _=>by omega,fun h=>(by cases h),fun h=>(by cases h),fun h=>(by cases h),fun c h=>h.elim⟩
 split
 ·rename_i h
  simp only [Bool.and_eq_true] at h
  exact⟨fun h=>(by cases h),fun h=>(by cases h),fun _=>⟨rfl,h.2⟩,fun h=>(by cases h),fun h=>(by cases h),fun c h=>h.elim⟩
 split
 ·exact tH ..
 split
 ·exact bO6 ..
 ·split
  ·trivial
  ·exact tH ..
theorem aZ2(m:Md)(s:ByteArray)(p last:Nat){t:Tk}{q:Nat}(h:aJ s p [92,41]=true\/aJ s p [92,124]=true)(hw:tok m s p last=.ok (t,q)):t.kind=4\/t.kind=5:=by
 have h0:aJ s p [92]=true:=by
  rcases h with h | h
  ·exact iN.2 ⟨by have:=(eE.1 h).1;omega,(eE.1 h).2.1⟩
  ·exact iN.2 ⟨by have:=(eE.1 h).1;omega,(eE.1 h).2.1⟩
 unfold tok at hw
 rw [if_pos h0] at hw
 unfold esc at hw
 rcases h with h | h
 ·have h1:=eE.1 h
  rw [if_neg (by omega),if_neg (by rw [h1.2.2];decide),if_pos (by rw [h1.2.2];decide)] at hw
  cases hw
  exact .inl rfl
 ·have h1:=eE.1 h
  rw [if_neg (by omega),if_neg (by rw [h1.2.2];decide),if_neg (by rw [h1.2.2];decide),if_pos (by rw [h1.2.2];decide)] at hw
  cases hw
  exact .inr rfl
def okk(a b:Nat):Prop:=(b=2->a=1\/a=2\/a=4\/a=6)/\(b=7->a=0\/a=3\/a=5)/\(a=8->b=4\/b=5)
structure TkW(m:Md)(t:Tk):Prop where
 ok:gA t
 rep:t.kind=2->jD t.mn t.mx=true
 back:t.kind=6->1<=t.n/\t.n<=9
 set:t.kind=1->∃ L b,t.q=eN m L b
 chr:∀ c,t.q c->aU m.c c
structure Beside(m:Md)(s:ByteArray)(T:List Tp)(p:Nat):Prop where
 each:∀ i t,T[i]?=some t->okk (cN (T.take i)) t.1.kind
 tok:∀ t∈T,TkW m t.1
 fin:cN T=8->p=s.size\/aJ s p [92,41]=true\/aJ s p [92,124]=true
theorem xC{m:Md}{s:ByteArray}{T:List Tp}{p:Nat}(h:Beside m s T p):cN T<=8/\(cN T=0->T=[]):=by
 unfold cN
 cases hl:T.getLast? with
 | none=>exact⟨by simp,fun _=>List.getLast?_eq_none_iff.1 hl⟩
 | some x=>
  have:=(h.tok x (List.mem_of_getLast? hl)).ok
  exact⟨this.2.1,fun q=>by have:=this.1;simp only at q;omega⟩
theorem Beside.add{m:Md}{s:ByteArray}{T:List Tp}{p q:Nat}{t:Tk}(h:Beside m s T p)(hp:p < s.size)(h0:p=0->T=[])(hw:Go.Proofs.YticfnglebbakkaaGreatDoor.tok m s p (cN T)=.ok (t,q)):Beside m s (T ++ [(t,p,q)]) q:=by
 have hk:=bM6 m s p (cN T)
 have ho:=tG m s p (cN T)
 rw [hw] at hk ho
 have hk':TkK m s p (cN T) t q:=hk
 have ho':gA t:=ho
 have hr:=xC h
 have h8:cN T=8->t.kind=4\/t.kind=5:=fun e=>by
  rcases h.fin e with z | z
  ·omega
  ·exact aZ2 m s p _ z hw
 refine⟨fun i x hx=>?_,fun x hx=>?_,fun e=>?_⟩
 ·rcases Nat.lt_trichotomy i T.length with g | g | g
  ·rw [List.getElem?_append_left g] at hx
   rw [List.take_append_of_le_length (by omega)]
   exact h.each i x hx
  ·subst g
   rw [List.getElem?_append_right lz9,Nat.sub_self] at hx
   simp at hx
   subst hx
   rw [List.take_append_of_le_length (by omega),List.take_length]
   refine⟨fun e=>?_,fun e=>?_,h8⟩
   ·have:=(hk'.rep e).1
    have k1:cN T≠8:=fun z=>by have:=h8 z;simp only at e;omega
    unfold fM at this
    simp only [Bool.or_eq_false_iff,beq_eq_false_iff_ne] at this
    omega
   ·rcases hk'.beg e with z | z
    ·left;rw [h0 z];rfl
    ·right;exact z
  ·rw [List.getElem?_append_right (by omega),List.getElem?_eq_none (by simp;omega)] at hx
   cases hx
 ·rcases List.mem_append.1 hx with z | z
  ·exact h.tok x z
  ·simp at z
   subst z
   exact⟨ho',fun e=>(hk'.rep e).2,hk'.back,hk'.set,hk'.chr⟩
 ·rw [show cN (T ++ [(t,p,q)])=t.kind by simp [cN]] at e
  obtain⟨e1,e2⟩:=hk'.fin e
  unfold lK at e2
  simp only [Bool.or_eq_true,decide_eq_true_eq] at e2
  subst e1
  rcases e2 with (z | z) | z
  ·exact .inl z
  ·exact .inr (.inl z)
  ·exact .inr (.inr z)
theorem sL(m:Md)(s:ByteArray):∀ (f p:Nat) (T T':List Tp),Stands s T p->Beside m s T p->lx m s f p T=.ok T'->∃ p',Beside m s T' p'
 | 0,p,T,T',_,_,hw=>by unfold lx at hw;cases hw
 | f+1,p,T,T',hs,hb,hw=>by
  unfold lx at hw
  split at hw
  ·rename_i hp
   have q1:=tF m s p (cN T) hp
   have q2:=tG m s p (cN T)
   cases ht:Go.Proofs.YticfnglebbakkaaGreatDoor.tok m s p (cN T) with
   | error e=>rw [ht] at hw;cases hw
   | ok x=>
    obtain⟨t,q⟩:=x
    rw [ht] at hw q1 q2
    have h1:p < q:=q1.1
    have h2:q<=s.size:=q1.2
    exact sL m s f q _ T' (hs.add h1 h2 q2) (hb.add hp (fun z=>by have:=hs.few;exact List.eq_nil_of_length_eq_zero (by omega)) ht) hw
  ·cases hw
   exact⟨p,hb⟩
theorem lU{m:Md}{s:ByteArray}{T:List Tp}(h:iY m s=.ok T):∃ p,Beside m s T p:=by
 unfold iY at h
 split at h
 ·cases h
 ·exact sL m s _ 0 [] T (Stands.nil s) ⟨fun i t hx=>(by simp at hx),fun t ht=>by(cases ht),fun e=>(by cases e)⟩ h
theorem fD{k:Nat}(h1:1<=k)(h2:k<=8):k=1\/k=2\/k=3\/k=4\/k=5\/k=6\/k=7\/k=8:=by omega
theorem bJ6{p:Option Sgn}{a g:Nat}{t:Tk}(h:okk a t.kind)(h1:1<=t.kind)(h2:t.kind<=8)(hp:(p=none/\a=0)\/∃ g' t',p=some (sgT g' t')/\a=t'.kind/\1<=t'.kind/\t'.kind<=8):okp p (sgT g t):=by
 rcases hp with⟨rfl,rfl⟩ | ⟨g',t',rfl,rfl,k1,k2⟩
 ·rcases fD h1 h2 with e | e | e | e | e | e | e | e
  all_goals first
   |(exfalso;have:=h.1 e;omega)
   | simp [sgT,e,okp]
 ·rcases fD h1 h2 with e | e | e | e | e | e | e | e <;> rcases fD k1 k2 with f | f | f | f | f | f | f | f
  all_goals first
   |(exfalso;have q1:=h.1;have q2:=h.2.1;have q3:=h.2.2;omega)
   | simp [sgT,e,f,okp]
theorem aY2{m:Md}{s:ByteArray}:∀ (B A:List Tp) (g p0:Nat) (p:Option Sgn),Beside m s (A ++ B) p0->((p=none/\A=[])\/∃ g' A' t',A=A' ++ [t']/\p=some (sgT g' t'.1))->adj p (iH g B)
 | [],A,g,p0,p,_,_=>trivial
 | t :: B,A,g,p0,p,h,hp=>by
  have h1:=h.each A.length t (by rw [List.getElem?_append_right lz9,Nat.sub_self];rfl)
  rw [List.take_append_of_le_length lz9,List.take_length] at h1
  have h2:=(h.tok t (by simp)).ok
  refine⟨bJ6 h1 h2.1 h2.2.1 ?_,aY2 B (A ++ [t]) _ p0 _ (by rw [List.append_assoc];exact h) (.inr ⟨g,A,t,rfl,rfl⟩)⟩
  rcases hp with⟨e1,e2⟩ | ⟨g',A',t',e1,e2⟩
  ·exact .inl ⟨e1,by rw [e2];rfl⟩
  ·subst e1
   have h3:=(h.tok t' (by simp)).ok
   exact .inr ⟨g',t'.1,e2,by simp [cN],h3.1,h3.2.1⟩
theorem aZ1{m:Md}{s:ByteArray}{T:List Tp}(h:iY m s=.ok T)(hh:fW T=none):∃ x,wf x/\pfl x=iH 0 T:=by
 obtain⟨p,hb⟩:=lU h
 exact bB1 (aY2 T [] 0 p none (by simpa using hb) (.inl ⟨rfl,rfl⟩)) (aG1 hh)
end
section
open Go Go.RowKit Go.Shelf
def rO(x:El):Array Value:=#[.int .i64 ((x.1.length:Int)+1),.agg #[.int .i64 x.2.f.k,.int .i64 x.2.f.n,.int .i64 x.2.f.mn,.int .i64 x.2.f.mx,.slice x.2.f.rq x.2.f.rs.length x.2.f.rc,.slice x.2.f.kq x.2.f.kl x.2.f.kc]]
theorem lT(par:Tr)(p:Way)(a b:List Tr):∀ i,pps par p i (a ++ b)=pps par p i a ++ pps par p (i+a.length) b:=by
 induction a with
 | nil=>intro i;rw [bU];rfl
 | cons x a ih=>intro i;rw [List.cons_append,bY,bY,ih (i+1),List.append_assoc,List.length_cons,show i+1+a.length=i+(a.length+1) by omega]
theorem mP{par:Tr}{p:Way}{ks:List Tr}{j:Nat}{u:Tr}(h:ks[j]?=some u):pps par p 0 (ks.take (j+1))=pps par p 0 (ks.take j) ++ pp ((par,j) :: p) u:=by
 have hj:=(List.getElem?_eq_some_iff.1 h).1
 rw [List.take_add_one,h,Option.toList_some,lT,bY,bU,List.append_nil,List.length_take,Nat.zero_add,Nat.min_eq_left (by omega)]
theorem aE6{par:Tr}{p:Way}{ks:List Tr}(j:Nat):pps par p 0 (ks.take j) <+: pps par p 0 ks:=by
 have:=lT par p (ks.take j) (ks.drop j) 0
 rw [List.take_append_drop] at this
 rw [this]
 exact List.prefix_append _ _
def Nn(b0 b1:Nat):Nat->Prop:=fun k=>k < b0\/b1<=k
theorem iX{L pre:List El}{p:Way}{t:Tr}{r:List El}(h:pre ++ pp p t <+: L)(hr:r <+: pps t p 0 t.ks):pre ++ (p,t) :: r <+: L:=by
 refine List.IsPrefix.trans ?_ h
 rw [fU]
 exact(List.prefix_append_right_inj _).2 (List.cons_prefix_cons.2 ⟨rfl,hr⟩)
def yM(w0:World)(b1:Nat)(L:List El)(J Jx:List El->World->Prop)(xs:List El)(e:Ending)(V':World):Prop:=
 ∃ r:Bool,e=.returned (.bool r)/\((r=true/\J xs V'/\CK w0 V'/\b1<=V'.heap.size)\/(r=false/\∃ pre',pre' <+: L/\Jx pre' V'))
theorem bL7{w0:World}{L:List El}{l b1:Nat}{J Jx:List El->World->Prop}{B:Nat}(hJ:OwnFrom B J)(n:Nat)(hL:∀ pre V,J pre V->pre.length<=1000000)
  (hY:∀ pre x V,J pre V->pre ++ [x] <+: L->YieldAt Fence.wide (n - 1) Tryz.prog l (rO x) V fun e V'=>KeepsFrom B V V'/\((e=.returned (.bool true)/\J (pre ++ [x]) V'/\CKeep (Nn w0.heap.size b1) V V')\/(e=.returned (.bool false)/\Jx (pre ++ [x]) V'))) :
  ∀ (m:Nat) (t:Tr) (p:Way) (pre:List El) (V:World),t.sz<=m->pre ++ pp p t <+: L->TB w0 t->CK w0 V->J pre V->p.length<=pre.length->b1<=V.heap.size ->
   CallsIn Fence.wide n Tryz.prog 58 #[.agg #[.int .i64 t.f.k,.int .i64 t.f.n,.int .i64 t.f.mn,.int .i64 t.f.mx,.slice t.f.rq t.f.rs.length t.f.rc,.slice t.f.kq t.f.kl t.f.kc],.int .i64 ((p.length:Int)+1),.func (.yield l) #[] #[]] V (yM w0 b1 L J Jx (pre ++ pp p t)):=by
 intro m
 induction m with
 | zero=>intro t p pre V hm;exact absurd (lN t) (by omega)
 | succ m ih=>
  intro t p pre V hm hpre hta hck hj hpl hb1
  have hfn:∀ f,Fence.wide.fn f:=fun _=>trivial
  have IH:=aC ih
  have HL:=aC hL
  have HPRE:=aC hpre
  have HTA:=aC hta
  have HM:=aC hm
  have hlen:=hL pre V hj
  obtain⟨q,cap,hkv,hk1,hk2,hk3⟩:=hta.node.k.slice
  injection hkv with hkq hkl hkc
  subst hkq
  have HKL:=aC hkl
  have HK3:=aC hk3
  have hkm:t.ks.length<=9223372036854775807:=hk1
  clear hkl hkc hk3 hk1
  have B1:Hid (Below V.heap.size V (V.alloc (.cells #[.int .i64 t.f.k,.int .i64 t.f.n,.int .i64 t.f.mn,.int .i64 t.f.mx,.slice t.f.rq t.f.rs.length t.f.rc,.slice t.f.kq t.f.kl t.f.kc] 25))):=bz9
  have N1:Hid (BoxN (V.alloc (.cells #[.int .i64 t.f.k,.int .i64 t.f.n,.int .i64 t.f.mn,.int .i64 t.f.mx,.slice t.f.rq t.f.rs.length t.f.rc,.slice t.f.kq t.f.kl t.f.kc] 25)) V.heap.size t.f):=aE V _
  have J1:Hid (J pre (V.alloc (.cells #[.int .i64 t.f.k,.int .i64 t.f.n,.int .i64 t.f.mn,.int .i64 t.f.mx,.slice t.f.rq t.f.rs.length t.f.rc,.slice t.f.kq t.f.kl t.f.kc] 25))):=hJ.alloc _ hj
  have C1:Hid (CK w0 (V.alloc (.cells #[.int .i64 t.f.k,.int .i64 t.f.n,.int .i64 t.f.mn,.int .i64 t.f.mx,.slice t.f.rq t.f.rs.length t.f.rc,.slice t.f.kq t.f.kl t.f.kc] 25))):=hck.trans (CK.of_below B1.out)
  have Hb1:=aC hb1
  clear ih hL hpre hta hm hj hck hb1
  refine callsIn_of_wp Tryz.func58 rfl trivial ?_ rfl
  simp only [Tryz.ntmps58,List.size_toArray,List.length_cons,List.length_nil,Nat.reduceAdd,Nat.reduceSub,Array.replicate_succ,Array.replicate_zero,List.push_toArray,List.append_toArray,List.nil_append,List.cons_append]
  have cs:=N1.out.six
  obtain⟨fn,tmps,assign,body,hy,hR⟩:=hY pre (p,t) _ J1.out (iX HPRE.out List.nil_prefix)
  simp only [rO] at hy
  obtain⟨c0,c1,c2,c3,c4,c5⟩:=cs
  simp only [Nat.zero_add] at c1 c2 c3 c4 c5
  gi_wp2
  refine⟨(fun z=>by cases z),hR.mono ?_⟩
  rintro e W3 ⟨-,(⟨rfl,hJ3,hk3⟩ | ⟨rfl,hJx3⟩)⟩
  ·have cc5:W3.cell? ⟨V.heap.size,5,none⟩=some (.slice t.f.kq t.f.kl t.f.kc):=cT hk3 (p:=⟨V.heap.size,5,none⟩) (.inr Hb1.out) c5
   have J3:=aC hJ3
   have C3:Hid (CK w0 W3):=C1.out.step ⟨hk3.size,fun i cur ty fr hi hc=>hk3.same i cur ty fr (.inl hi) hc⟩
   have S3:Hid (b1<=W3.heap.size):=Nat.le_trans Hb1.out (Nat.le_trans B1.out.size hk3.size)
   rw [HKL.out] at cc5
   clear hJ3 hk3 hy hR c0 c1 c2 c3 c4 c5 J1 C1 N1 B1
   gi_wp2
   gi_loopw [17] (fun i wr=>∃ j:Nat,j<=t.ks.length/\i=.int .i64 (j:Int)/\J (pre ++ (p,t) :: pps t p 0 (t.ks.take j)) wr/\CK w0 wr/\b1<=wr.heap.size) (fun i _=>t.ks.length - (intOf i).toNat)
   case atStart=>exact⟨0,Nat.zero_le _,rfl,by rw [List.take_zero,bU];exact J3.out,C3.out,S3.out⟩
   case round=>
    clear J3 C3 S3 cc5
    obtain⟨j,hj,rfl,hj1,hj2,hj3⟩:=hrel
    have HJ:=aC hj1
    have HC:=aC hj2
    have HS:=aC hj3
    clear hj1 hj2 hj3
    by_cases hjl:j < t.ks.length
    ·have e0:(j:Int) < (t.ks.length:Int):=by omega
     obtain⟨u,hu⟩:∃ u,t.ks[j]?=some u:=⟨_,List.getElem?_eq_getElem hjl⟩
     obtain⟨g,off,hq,hg,hsix⟩:=HK3.out j u hu
     rw [hq]
     have HU:=aC hu
     have hin:u∈t.ks:=List.mem_of_getElem? hu
     obtain⟨c0,c1,c2,c3,c4,c5⟩:=hsix.ck HC.out hg
     have B4:Hid (Below wr.heap.size wr (wr.alloc (.cells #[.int .i64 u.f.k,.int .i64 u.f.n,.int .i64 u.f.mn,.int .i64 u.f.mx,.slice u.f.rq u.f.rs.length u.f.rc,.slice u.f.kq u.f.kl u.f.kc] 25))):=bz9
     have N4:Hid (BoxN (wr.alloc (.cells #[.int .i64 u.f.k,.int .i64 u.f.n,.int .i64 u.f.mn,.int .i64 u.f.mx,.slice u.f.rq u.f.rs.length u.f.rc,.slice u.f.kq u.f.kl u.f.kc] 25)) wr.heap.size u.f):=aE wr _
     obtain⟨d0,d1,d2,d3,d4,d5⟩:=N4.out.six
     simp only [Nat.zero_add] at d1 d2 d3 d4 d5
     have hj1:=HL.out _ _ HJ.out
     have IHU:=aC (IH.out u ((t,j) :: p) (pre ++ (p,t) :: pps t p 0 (t.ks.take j)) (wr.alloc (.cells #[.int .i64 u.f.k,.int .i64 u.f.n,.int .i64 u.f.mn,.int .i64 u.f.mx,.slice u.f.rq u.f.rs.length u.f.rc,.slice u.f.kq u.f.kl u.f.kc] 25)) (by have:=nQ hin;have:=HM.out;omega)
      (by rw [List.append_assoc,List.cons_append,<- mP hu];exact iX HPRE.out (aE6 _)) (HTA.out.kid hin) (HC.out.trans (CK.of_below B4.out)) (hJ.alloc _ HJ.out) (by simp;omega) (Nat.le_trans HS.out B4.out.size))
     have e1:((((t,j) :: p).length:Nat):Int)+1=((p.length:Int)+1)+1:=by simp
     rw [e1] at IHU
     clear hsix hu
     gi_wp2
     refine⟨(fun z=>by cases z),(callsIn_wide.2 (callsIn_wide.1 IHU.out)).mono ?_⟩
     rintro e W5 ⟨r5,rfl,h5⟩
     have H5:=aC h5
     clear h5 c0 c1 c2 c3 c4 c5 d0 d1 d2 d3 d4 d5 IHU N4 B4
     cases r5 with
     | true=>
      rcases H5.out with⟨-,h51,h52,h53⟩ | ⟨z,-⟩
      ·have HN:Hid (J (pre ++ (p,t) :: pps t p 0 (t.ks.take (j+1))) W5):=(by rw [mP HU.out,<- List.cons_append,<- List.append_assoc];exact h51)
       have H52:=aC h52
       have H53:=aC h53
       clear h51 h52 h53 H5
       gi_wp2
       go_roundw
       case rel=>exact⟨j+1,by omega,by go_num,HN.out,H52.out,H53.out⟩
       case measure=>simp only [intOf];omega
      ·cases z
     | false=>
      rcases H5.out with⟨z,-⟩ | ⟨-,pre',h51,h52⟩
      ·cases z
      ·have HN:=aC (⟨pre',h51,h52⟩:∃ pre',pre' <+: L/\Jx pre' W5)
       clear H5 h51 h52
       gi_wp2
       go_ret
       exact⟨false,rfl,.inr ⟨rfl,HN.out⟩⟩
    ·have e0:¬ (j:Int) < (t.ks.length:Int):=by omega
     have HN:Hid (J (pre ++ pp p t) wr):=(by rw [fU,show t.ks=t.ks.take j by rw [List.take_of_length_le (by omega)]];exact HJ.out)
     gi_wp2
     go_ret
     exact⟨true,rfl,.inl ⟨rfl,HN.out,HC.out,HS.out⟩⟩
  ·have HN:=aC hJx3
   clear hJx3
   gi_wp2
   go_ret
   exact⟨false,rfl,.inr ⟨rfl,_,iX HPRE.out List.nil_prefix,HN.out⟩⟩
theorem uA(f:Fl)(w:World) :
  Calls Tryz.prog 26 #[.agg #[.int .i64 f.k,.int .i64 f.n,.int .i64 f.mn,.int .i64 f.mx,.slice f.rq f.rs.length f.rc,.slice f.kq f.kl f.kc]] w fun e w'=>e=.returned (.func (.func 57) #[] #[.pointer (some ⟨w.heap.size,0,none⟩)])/\w'=w.alloc (.cells #[.int .i64 f.k,.int .i64 f.n,.int .i64 f.mn,.int .i64 f.mx,.slice f.rq f.rs.length f.rc,.slice f.kq f.kl f.kc] 25):=by
 go_enter Tryz.func26,Tryz.ntmps26
 go_wp2
 go_ret
 exact⟨rfl,rfl⟩
def rA(t:Tr)(pre:List El)(x:El)(_:World):Prop:=pre ++ [x] <+: pp [] t
theorem wJ(n:Nat){w0 w:World}{b:Nat}{t:Tr}(hB:BoxN w b t.f)(hta:TB w0 t)(hck:CK w0 w) :
  bH8 n Tryz.prog 57 #[.pointer (some ⟨b,0,none⟩)] rO (Nn w0.heap.size w.heap.size) (rA t) (fun xs=>xs=pp [] t) (fun pre=>pre <+: pp [] t) w:=by
 intro l J Jx V hV hJ hJx hb hY h0
 have hfn:∀ f,Fence.wide.fn f:=fun _=>trivial
 have D:=aC (bL7 (w0:=w0) (L:=pp [] t) (b1:=w.heap.size) (Jx:=Jx) hJ n hb (fun pre x V=>hY pre x V) t.sz t [] [] V lz9 (by rw [List.nil_append];exact List.prefix_refl _) hta (hck.step ⟨hV.size,fun k _ _ _ _ hc=>(hV.block k (aA hc)).trans hc⟩) h0 lz9 hV.size)
 have HB:Hid (BoxN V b t.f):=(hV.block _ (aA hB)).trans hB
 obtain⟨c0,c1,c2,c3,c4,c5⟩:=HB.out.six
 simp only [Nat.zero_add] at c1 c2 c3 c4 c5
 clear hJ hJx hb hY h0 hB hta hck hV
 refine callsIn_of_wp Tryz.func57 rfl trivial ?_ rfl
 simp only [Tryz.ntmps57,List.size_toArray,List.length_cons,List.length_nil,Nat.reduceAdd,Nat.reduceSub,Array.replicate_succ,Array.replicate_zero,List.push_toArray,List.append_toArray,List.nil_append,List.cons_append]
 gi_wp2
 refine⟨(fun z=>by cases z),(callsIn_wide.2 (callsIn_wide.1 D.out)).mono ?_⟩
 rintro e W5 ⟨r5,rfl,h5⟩
 have H5:=aC h5
 clear h5 D
 gi_wp2
 go_end0
 refine⟨⟨_,rfl⟩,?_⟩
 rcases H5.out with⟨-,h51,-,-⟩ | ⟨-,pre',h51,h52⟩
 ·exact .inl ⟨_,rfl,by rw [List.nil_append] at h51;exact h51⟩
 ·exact .inr ⟨pre',h51,h52⟩
theorem aW5{w0 W W':World}{B:Nat}{row:Option Nat}(h:CK w0 W)(hg:W.grownBy W' row)(hr:∀ r,row=some r->B<=r/\∃ o:Obj,W.heap[r]?=some o/\o.isCells=false):CK w0 W':=
 ⟨Nat.le_trans h.size hg.size,fun k cur t fr hk hc=>cC hg hr (h.same k cur t fr hk hc)⟩
def eO(a:Act)(q d:Nat)(x:El):Act:={ tmps:=(a.tmps.setIfInBounds q (.int .i64 ((x.1.length:Int)+1))).setIfInBounds d (.agg #[.int .i64 x.2.f.k,.int .i64 x.2.f.n,.int .i64 x.2.f.mn,.int .i64 x.2.f.mx,.slice x.2.f.rq x.2.f.rs.length x.2.f.rc,.slice x.2.f.kq x.2.f.kl x.2.f.kc]),defers:=[] }
def dZ(a:Act)(D:Nat):Act:={ a with defers:={ target:=.collected D,args:=#[] } :: a.defers }
theorem aQ6{g:Operand}{ps:Array Tmp}{assign body:Code}{Q:Exit->Act->World->Prop}{a:Act}{w:World}{n:Nat}(hn:1<=n)(q d:Nat)(b:Nat){w0:World}{t:Tr}
  (hg:a.eval g=.func (.func 57) #[] #[.pointer (some ⟨b,0,none⟩)]) (hps:ps=#[q,d]) (hB:BoxN w b t.f) (hta:TB w0 t) (hck:CK w0 w)
  (I:List El->World->Prop) (Ix:Code->List El->World->Prop) (hI:OwnFrom w.heap.size I) (hIx:∀ c,OwnFrom w.heap.size (Ix c)) (hbd:∀ pre W,I pre W->pre.length<=1000000) (h0:I [] w)
  (Ax:Act->El->Act->World->Prop) (hAx:∀ y x a',OwnFrom w.heap.size (fun (_:Unit) W=>Ax y x a' W))
  (hassign:∀ (l:Nat) (pre:List El) (x:El) (W:World) (K:Act->World->Prop),I pre W->CK w0 W->w.heap.size<=W.heap.size->rA t pre x W->(∀ a' W',Below W.heap.size W W'->Ax (eO a q d x) x a' W'->K a' W') ->
   assign.wpIn (Fence.wide.inRound l) (n - 1 - 1) Tryz.prog (Exit.then K (fun _ _ _=>False)) (eO a q d x) W)
  (hbody:∀ (l:Nat) (pre:List El) (x:El) (a':Act) (V:World),I pre V->CK w0 V->w.heap.size<=V.heap.size->rA t pre x V->Ax (eO a q d x) x a' V->body.wpIn (Fence.wide.inRound l) (n - 1 - 1) Tryz.prog (ownPostG w.heap.size (CKeep (Nn w0.heap.size w.heap.size)) I Ix (pre ++ [x]) V) a' V)
  (hdone:∀ (D:Nat) (V:World),w.heap.size<=D->I (pp [] t) V->CK w0 V->V.heap[D]?=some (.deferred (some []))->Q .normal (dZ a D) V)
  (hstop:∀ (D:Nat) (c:Code) (pre:List El) (V:World),w.heap.size<=D->pre <+: pp [] t->Ix c pre V->V.heap[D]?=some (.deferred (some []))->c.wpIn Fence.wide n Tryz.prog Q (dZ a D) V) :
  (Code.rangeFunc g ps assign body).wpIn Fence.wide n Tryz.prog Q a w:=by
 subst hps
 refine zL (α:=El) hn (gf:=57) hg (enters_of Tryz.func57 (by kernel_rfl) rfl) (bP:=rO) (fun _=>rfl)
  (wJ (n - 1) hB hta hck) (fun pre V=>I pre V/\CK w0 V/\w.heap.size<=V.heap.size) Ix ?_ hIx (fun pre x _ _ _ _ h _ _=>h) (fun pre W h=>hbd pre W h.1) ⟨h0,hck,Nat.le_refl _⟩ (fun x=>Ax (eO a q d x) x) (fun x=>hAx _ x) ?_ ?_ ?_ hstop
 ·intro pre A A' row hi hg hr
  exact⟨hI pre A A' row hi.1 hg hr,aW5 hi.2.1 hg hr,Nat.le_trans hi.2.2 hg.size⟩
 ·intro l pre x V K hi ht hK
  have:=hassign l pre x V K hi.1 hi.2.1 hi.2.2 ht hK
  simpa [rO,eO] using this
 ·intro l pre x a' V hi ht hax
  refine wpIn_mono (hbody l pre x a' V hi.1 hi.2.1 hi.2.2 ht hax) fun e a3 W3 hp=>?_
  cases e with
  | normal=>exact⟨hp.1,hp.2.1,hp.2.2,hi.2.1.step ⟨hp.2.1.size,fun k cur ty fr hk hc=>hp.2.1.same k cur ty fr (.inl hk) hc⟩,Nat.le_trans hi.2.2 hp.1.size⟩
  | ret=>exact hp
  | exit id=>exact hp
  | goto t=>exact hp
  | panic ch=>exact hp
  | outgrown=>exact hp
 ·rintro D xs V hD rfl hi hK
  exact hdone D V hD hi.1 hi.2.1 hK
def Ax0(y:Act)(_:El)(a':Act)(_:World):Prop:=a'=y
theorem bF8(B:Nat)(y:Act)(x:El)(a':Act):OwnFrom B (fun (_:Unit) W=>Ax0 y x a' W):=fun _ _ _ _ h _ _=>h
end
section
open Go Go.RowKit Go.Shelf
attribute [local go_sem] Oper.semAt_some
def BoxI(W:World)(b:Nat)(x:Int):Prop:=W.heap[b]?=some (.cells #[.int .i64 x] 3 (0,0))
theorem BoxI.cell{W:World}{b:Nat}{x:Int}(h:BoxI W b x):W.cell? ⟨b,0,none⟩=some (.int .i64 x):=aB h (i:=0) rfl
theorem BoxI.row{W W':World}{b B:Nat}{x:Int}{row:Option Nat}(h:BoxI W b x)(hg:W.grownBy W' row)(hr:∀ r,row=some r->B<=r/\∃ o:Obj,W.heap[r]?=some o/\o.isCells=false):BoxI W' b x:=cC hg hr h
theorem BoxI.set{W:World}{b:Nat}{x:Int}(h:BoxI W b x)(y:Int):BoxI (W.setCell ⟨b,0,none⟩ (.int .i64 y)) b y:=aL h 0 _
theorem BoxI.fr{W:World}{b:Nat}(v:Value):Fr (fun z=>z=b) W (W.setCell ⟨b,0,none⟩ v):=(Fr.refl (fun z=>z=b) W).setCell (p:=⟨b,0,none⟩) rfl _
def rQ(t:Tr):Nat:=min (pp [] t).length 2001
theorem gO{n B:Nat}{w W W':World}{row:Option Nat}(h:Below n w W)(hn:n<=w.heap.size)(hB:n<=B)(hg:W.grownBy W' row)(hr:∀ r,row=some r->B<=r/\∃ o:Obj,W.heap[r]?=some o/\o.isCells=false):Below n w W':=
 h.trans ⟨hg.os,hg.tape,hg.output,hg.size,fun k hk=>hg.block k (by have:=h.size;omega) (fun e=>by have:=(hr k e.symm).1;omega)⟩
theorem jR{n:Nat}{w W:World}{D:Nat}(o:Obj)(h:Below n w W)(hD:n<=D):Below n w (W.putObj D o):=
 h.trans ⟨rfl,rfl,rfl,(grownBy_putObj' W D o).size,fun k hk=>World.putObj_heap_other (by omega)⟩
theorem bL8(n:Nat)(hn:3<=n){w:World}{t:Tr}(hta:TB w t) :
  CallsIn Fence.wide n Tryz.prog 76 #[.agg #[.int .i64 t.f.k,.int .i64 t.f.n,.int .i64 t.f.mn,.int .i64 t.f.mx,.slice t.f.rq t.f.rs.length t.f.rc,.slice t.f.kq t.f.kl t.f.kc]] w fun e w'=>e=.returned (.int .i64 (rQ t:Int))/\Below w.heap.size w w':=by
 have hfn:∀ f,Fence.wide.fn f:=fun _=>trivial
 refine callsIn_of_wp_marks Tryz.func76 rfl trivial ?_ rfl
 simp only [Tryz.ntmps76,List.size_toArray,List.length_cons,List.length_nil,Nat.reduceAdd,Nat.reduceSub,Array.replicate_succ,Array.replicate_zero,List.push_toArray,List.append_toArray,List.nil_append,List.cons_append]
 refine wpIn_wide.2 ?_
 have HTA:=aC hta
 have B1:Hid (Below w.heap.size w ((w.alloc (.cells #[.int .i64 t.f.k,.int .i64 t.f.n,.int .i64 t.f.mn,.int .i64 t.f.mx,.slice t.f.rq t.f.rs.length t.f.rc,.slice t.f.kq t.f.kl t.f.kc] 25)).alloc (.cells #[.int .i64 0] 3))):=(bz9).alloc (by simp) _
 have N1:Hid (BoxN ((w.alloc (.cells #[.int .i64 t.f.k,.int .i64 t.f.n,.int .i64 t.f.mn,.int .i64 t.f.mx,.slice t.f.rq t.f.rs.length t.f.rc,.slice t.f.kq t.f.kl t.f.kc] 25)).alloc (.cells #[.int .i64 0] 3)) w.heap.size t.f):=(Below.heap_alloc _ _ _ (by simp)).trans (aE w _)
 have N2:Hid (BoxI ((w.alloc (.cells #[.int .i64 t.f.k,.int .i64 t.f.n,.int .i64 t.f.mn,.int .i64 t.f.mx,.slice t.f.rq t.f.rs.length t.f.rc,.slice t.f.kq t.f.kl t.f.kc] 25)).alloc (.cells #[.int .i64 0] 3)) (w.heap.size+1) 0):=(by
  have:=aE (w.alloc (.cells #[.int .i64 t.f.k,.int .i64 t.f.n,.int .i64 t.f.mn,.int .i64 t.f.mx,.slice t.f.rq t.f.rs.length t.f.rc,.slice t.f.kq t.f.kl t.f.kc] 25)) (.cells #[.int .i64 0] 3)
  rwa [World.size_alloc] at this)
 obtain⟨c0,c1,c2,c3,c4,c5⟩:=N1.out.six
 simp only [Nat.zero_add] at c1 c2 c3 c4 c5
 go_wp2_with (go_at_call 26;(with_reducible refine(uA _ _).mono ?_);rintro e w3 ⟨rfl,rfl⟩)
 have N3:BoxN (((w.alloc (.cells #[.int .i64 t.f.k,.int .i64 t.f.n,.int .i64 t.f.mn,.int .i64 t.f.mx,.slice t.f.rq t.f.rs.length t.f.rc,.slice t.f.kq t.f.kl t.f.kc] 25)).alloc (.cells #[.int .i64 0] 3)).alloc (.cells #[.int .i64 t.f.k,.int .i64 t.f.n,.int .i64 t.f.mn,.int .i64 t.f.mx,.slice t.f.rq t.f.rs.length t.f.rc,.slice t.f.kq t.f.kl t.f.kc] 25)) (w.heap.size+1+1) t.f:=(by
  have:=aE ((w.alloc (.cells #[.int .i64 t.f.k,.int .i64 t.f.n,.int .i64 t.f.mn,.int .i64 t.f.mx,.slice t.f.rq t.f.rs.length t.f.rc,.slice t.f.kq t.f.kl t.f.kc] 25)).alloc (.cells #[.int .i64 0] 3)) (.cells #[.int .i64 t.f.k,.int .i64 t.f.n,.int .i64 t.f.mn,.int .i64 t.f.mx,.slice t.f.rq t.f.rs.length t.f.rc,.slice t.f.kq t.f.kl t.f.kc] 25)
  rwa [World.size_alloc,World.size_alloc] at this)
 have I3:BoxI (((w.alloc (.cells #[.int .i64 t.f.k,.int .i64 t.f.n,.int .i64 t.f.mn,.int .i64 t.f.mx,.slice t.f.rq t.f.rs.length t.f.rc,.slice t.f.kq t.f.kl t.f.kc] 25)).alloc (.cells #[.int .i64 0] 3)).alloc (.cells #[.int .i64 t.f.k,.int .i64 t.f.n,.int .i64 t.f.mn,.int .i64 t.f.mx,.slice t.f.rq t.f.rs.length t.f.rc,.slice t.f.kq t.f.kl t.f.kc] 25)) (w.heap.size+1) 0:=(Below.heap_alloc _ _ _ (by simp)).trans N2.out
 have B3:Below w.heap.size w (((w.alloc (.cells #[.int .i64 t.f.k,.int .i64 t.f.n,.int .i64 t.f.mn,.int .i64 t.f.mx,.slice t.f.rq t.f.rs.length t.f.rc,.slice t.f.kq t.f.kl t.f.kc] 25)).alloc (.cells #[.int .i64 0] 3)).alloc (.cells #[.int .i64 t.f.k,.int .i64 t.f.n,.int .i64 t.f.mn,.int .i64 t.f.mx,.slice t.f.rq t.f.rs.length t.f.rc,.slice t.f.kq t.f.kl t.f.kc] 25)):=B1.out.alloc (by simp;omega) _
 generalize (((w.alloc (.cells #[.int .i64 t.f.k,.int .i64 t.f.n,.int .i64 t.f.mn,.int .i64 t.f.mx,.slice t.f.rq t.f.rs.length t.f.rc,.slice t.f.kq t.f.kl t.f.kc] 25)).alloc (.cells #[.int .i64 0] 3)).alloc (.cells #[.int .i64 t.f.k,.int .i64 t.f.n,.int .i64 t.f.mn,.int .i64 t.f.mx,.slice t.f.rq t.f.rs.length t.f.rc,.slice t.f.kq t.f.kl t.f.kc] 25))=w4 at N3 I3 B3 ⊢
 have L3:=aA N3
 have L4:=aA I3
 obtain⟨bi,hbi⟩:∃ bi,w.heap.size+1=bi:=⟨_,rfl⟩
 rw [hbi] at I3 N3 L3 L4 ⊢
 obtain⟨bn,hbn⟩:∃ bn,bi+1=bn:=⟨_,rfl⟩
 rw [hbn] at N3 L3 ⊢
 have hwi:w.heap.size<=bi:=by omega
 clear N1 N2 B1 c0 c1 c2 c3 c4 c5 hbi hbn
 refine(wpIn_wide (n:=n)).1 ?_
 refine aQ6 (by omega) 6 7 bn rfl rfl N3 HTA.out (CK.of_below B3) (fun pre V=>BoxI V bi (pre.length:Int)/\pre.length<=2000/\Below w.heap.size w V) (fun c pre V=>c=.exit 0/\BoxI V bi 2001/\pre.length=2001/\Below w.heap.size w V)
  ?_ ?_ (fun pre W h=>by omega) ⟨I3,by simp,B3⟩ Ax0 (bF8 _) ?_ ?_ ?_ ?_
 ·rintro pre A A' row ⟨h1,h2,h3⟩ hg hr
  exact⟨h1.row hg hr,h2,gO h3 lz9 B3.size hg hr⟩
 ·rintro c pre A A' row ⟨h0,h1,h2,h3⟩ hg hr
  exact⟨h0,h1.row hg hr,h2,gO h3 lz9 B3.size hg hr⟩
 ·intro l pre x V K _ _ _ _ hK
  gi_wp2
  exact hK _ _ (Below.refl _ _) rfl
 ·rintro l pre x a' V ⟨h1,h2,h3⟩ hck hsz ht rfl
  have H1:=aC h1
  have H3:=aC h3
  have k0:=h1.cell
  have fz:=aQ h1 0
  have HS:=aC hsz
  clear h1 h3 hck ht hsz
  have F1:Hid (Fr (fun z=>z=bi) V (V.setCell ⟨bi,0,none⟩ (.int .i64 ((pre.length:Int)+1)))):=BoxI.fr _
  have X1:Hid (BoxI (V.setCell ⟨bi,0,none⟩ (.int .i64 ((pre.length:Int)+1))) bi ((pre.length:Int)+1)):=H1.out.set _
  have HP:Hid (KeepsFrom w4.heap.size V (V.setCell ⟨bi,0,none⟩ (.int .i64 ((pre.length:Int)+1)))/\CKeep (Nn w.heap.size w4.heap.size) V (V.setCell ⟨bi,0,none⟩ (.int .i64 ((pre.length:Int)+1)))/\Below w.heap.size w (V.setCell ⟨bi,0,none⟩ (.int .i64 ((pre.length:Int)+1)))):=
   ⟨F1.out.keepsFrom (fun k hk=>by omega),F1.out.ckeep (fun k hk=>by rintro (z | z) <;> omega),bK H3.out F1.out lz9 (fun k e=>by omega)⟩
  have k1:=X1.out.cell
  simp only [eO]
  by_cases hlt:2000<=pre.length
  ·have e1:(2000:Int) < (pre.length:Int)+1:=by omega
   gi_wp2
   refine⟨HP.out.1,rfl,by have:=X1.out;rwa [show (pre.length:Int)+1=2001 by omega] at this ⊢,by simp;omega,HP.out.2.2⟩
  ·have e1:¬ (2000:Int) < (pre.length:Int)+1:=by omega
   gi_wp2
   refine⟨HP.out.1,HP.out.2.1,by simpa using X1.out,by simp;omega,HP.out.2.2⟩
 ·rintro D V hD ⟨h1,h2,h3⟩ hck hK
  have k0:=h1.cell
  have e1:rQ t=(pp [] t).length:=by unfold rQ;omega
  have H3:=aC h3
  have HK:=aC hK
  have HD:=aC hD
  simp only [dZ]
  go_wp2
  refine⟨by simp,.inl ⟨_,_,rfl,run_takeDeferred HK.out,?_⟩⟩
  refine⟨.int .i64 (rQ t:Int),by simp [results,Tryz.results76,go_sem,e1],rfl,jR _ H3.out (Nat.le_trans B3.size HD.out)⟩
 ·rintro D c pre V hD hpre ⟨rfl,h1,h2,h3⟩ hK
  have k0:=h1.cell
  have e1:rQ t=2001:=by unfold rQ;have:=hpre.length_le;omega
  have H3:=aC h3
  have HK:=aC hK
  have HD:=aC hD
  refine(wpIn_wide (n:=n)).2 ?_
  simp only [dZ]
  go_wp2
  refine⟨by simp,.inl ⟨_,_,rfl,run_takeDeferred HK.out,?_⟩⟩
  refine⟨.int .i64 (rQ t:Int),by simp [results,Tryz.results76,go_sem,e1],rfl,jR _ H3.out (Nat.le_trans B3.size HD.out)⟩
theorem bO1{w:World}{t:Tr}(hta:TB w t):Calls Tryz.prog 76 #[.agg #[.int .i64 t.f.k,.int .i64 t.f.n,.int .i64 t.f.mn,.int .i64 t.f.mx,.slice t.f.rq t.f.rs.length t.f.rc,.slice t.f.kq t.f.kl t.f.kc]] w fun e w'=>e=.returned (.int .i64 (rQ t:Int))/\Below w.heap.size w w':=callsIn_wide.1 (bL8 3 (by decide) hta)
theorem rW{w:World}{t:Tr}(hta:TB w t):Calls Tryz.prog 33 #[.agg #[.int .i64 t.f.k,.int .i64 t.f.n,.int .i64 t.f.mn,.int .i64 t.f.mx,.slice t.f.rq t.f.rs.length t.f.rc,.slice t.f.kq t.f.kl t.f.kc]] w fun e w'=>e=.returned (.bool (decide (2000 < (pp [] t).length)))/\Below w.heap.size w w':=by
 have HTA:=aC hta
 have B1:Hid (Below w.heap.size w (w.alloc (.cells #[.int .i64 t.f.k,.int .i64 t.f.n,.int .i64 t.f.mn,.int .i64 t.f.mx,.slice t.f.rq t.f.rs.length t.f.rc,.slice t.f.kq t.f.kl t.f.kc] 25))):=bz9
 have N1:Hid (BoxN (w.alloc (.cells #[.int .i64 t.f.k,.int .i64 t.f.n,.int .i64 t.f.mn,.int .i64 t.f.mx,.slice t.f.rq t.f.rs.length t.f.rc,.slice t.f.kq t.f.kl t.f.kc] 25)) w.heap.size t.f):=aE w _
 obtain⟨c0,c1,c2,c3,c4,c5⟩:=N1.out.six
 simp only [Nat.zero_add] at c1 c2 c3 c4 c5
 have e1:(decide ((2000:Int) < (rQ t:Int)))=decide (2000 < (pp [] t).length):=by
  rw [decide_eq_decide]
  unfold rQ
  omega
 clear hta
 go_enter Tryz.func33,Tryz.ntmps33
 go_wp2_with (go_at_call 76;(with_reducible refine(bO1 (HTA.out.kept B1.out)).mono ?_);rintro e w3 ⟨rfl,h3⟩;have B3:Hid (Below w.heap.size w w3):=aD B1.out h3 lz9;clear h3)
 go_ret
 exact⟨by rw [<- e1];rfl,B3.out⟩
end
structure dA where
 f:Fl
 s:Int
def Seven(W:World)(g o:Nat)(x:dA):Prop:=Six W g o x.f/\W.cell? ⟨g,o+6,none⟩=some (.int .i64 x.s)
structure CB(W:World)(b:Nat)(c f:Bool)(ah gr:Int)(A:Nat->dA):Prop where
 blk:∃ cur,W.heap[b]?=some (.cells cur 63 (0,0))
 c0:W.cell? ⟨b,0,none⟩=some (.bool c)
 c1:W.cell? ⟨b,1,none⟩=some (.bool f)
 c2:W.cell? ⟨b,2,none⟩=some (.int .i64 ah)
 c3:W.cell? ⟨b,3,none⟩=some (.int .i64 gr)
 sp:∀ d,d < 41->Seven W b (4+d * 7) (A d)
theorem CB.lt{W:World}{b:Nat}{c f:Bool}{ah gr:Int}{A:Nat->dA}(h:CB W b c f ah gr A):b < W.heap.size:=by
 obtain⟨cur,h⟩:=h.blk
 exact aA h
theorem CB.ck{N:Nat->Prop}{W W':World}{b:Nat}{c f:Bool}{ah gr:Int}{A:Nat->dA}(h:CB W b c f ah gr A)(hk:CKeep N W W')(hb:N b):CB W' b c f ah gr A:=by
 obtain⟨cur,hc⟩:=h.blk
 exact⟨⟨cur,hk.same _ _ _ _ hb hc⟩,cT hk (p:=⟨b,0,none⟩) hb h.c0,cT hk (p:=⟨b,1,none⟩) hb h.c1,cT hk (p:=⟨b,2,none⟩) hb h.c2,cT hk (p:=⟨b,3,none⟩) hb h.c3,fun d hd=>⟨(h.sp d hd).1.ck hk hb,cT hk (p:=⟨b,4+d * 7+6,none⟩) hb (h.sp d hd).2⟩⟩
theorem CB.kept{W W':World}{b:Nat}{c f:Bool}{ah gr:Int}{A:Nat->dA}(h:CB W b c f ah gr A)(hb:Below W.heap.size W W'):CB W' b c f ah gr A:=h.ck (CK.of_below hb) h.lt
theorem CB.row{W W':World}{b B:Nat}{c f:Bool}{ah gr:Int}{A:Nat->dA}{row:Option Nat}(h:CB W b c f ah gr A)(hg:W.grownBy W' row)(hr:∀ r,row=some r->B<=r/\∃ o:Obj,W.heap[r]?=some o/\o.isCells=false):CB W' b c f ah gr A:=
 h.ck (N:=fun _=>True) ⟨hg.size,fun _ _ _ _ _ hc=>cC hg hr hc⟩ trivial
theorem bJ8{b i j:Nat}(h:i≠j):(⟨b,i,none⟩:Addr)≠⟨b,j,none⟩:=fun e=>h (by injection e)
theorem aF{W:World}{b i j:Nat}{u v:Value}(h:W.cell? ⟨b,i,none⟩=some v)(hij:i≠j):(W.setCell ⟨b,j,none⟩ u).cell? ⟨b,i,none⟩=some v:=by
 rw [World.cell?_setCell_other]
 ·exact h
 ·exact bJ8 hij.symm
theorem Six.off{W:World}{b o j:Nat}{u:Value}{f:Fl}(h:Six W b o f)(hj:j < o\/o+6<=j):Six (W.setCell ⟨b,j,none⟩ u) b o f:=
 ⟨aF h.1 (by omega),aF h.2.1 (by omega),aF h.2.2.1 (by omega),aF h.2.2.2.1 (by omega),aF h.2.2.2.2.1 (by omega),aF h.2.2.2.2.2 (by omega)⟩
theorem bV{W:World}{b:Nat}{t:TypeId}(h:∃ cur,W.heap[b]?=some (.cells cur t (0,0)))(j:Nat)(u:Value):∃ cur,(W.setCell ⟨b,j,none⟩ u).heap[b]?=some (.cells cur t (0,0)):=by
 obtain⟨cur,hc⟩:=h
 exact⟨_,aL hc j u⟩
theorem Seven.off{W:World}{b o j:Nat}{u:Value}{x:dA}(h:Seven W b o x)(hj:j < o\/o+7<=j):Seven (W.setCell ⟨b,j,none⟩ u) b o x:=
 ⟨h.1.off (by omega),aF h.2 (by omega)⟩
theorem CB.setAh{W:World}{b:Nat}{c f:Bool}{ah gr:Int}{A:Nat->dA}(h:CB W b c f ah gr A)(x:Int):CB (W.setCell ⟨b,2,none⟩ (.int .i64 x)) b c f x gr A:=
 ⟨bV h.blk _ _,aF h.c0 (by omega),aF h.c1 (by omega),World.cell?_setCell_same _ _ _ h.c2,aF h.c3 (by omega),fun d hd=>(h.sp d hd).off (by omega)⟩
theorem CB.setGr{W:World}{b:Nat}{c f:Bool}{ah gr:Int}{A:Nat->dA}(h:CB W b c f ah gr A)(x:Int):CB (W.setCell ⟨b,3,none⟩ (.int .i64 x)) b c f ah x A:=
 ⟨bV h.blk _ _,aF h.c0 (by omega),aF h.c1 (by omega),aF h.c2 (by omega),World.cell?_setCell_same _ _ _ h.c3,fun d hd=>(h.sp d hd).off (by omega)⟩
def nS(A:Nat->dA)(d:Nat)(x:dA):Nat->dA:=fun i=>if i=d then x else A i
theorem CB.setSeen{W:World}{b:Nat}{c f:Bool}{ah gr:Int}{A:Nat->dA}(h:CB W b c f ah gr A){d:Nat}(hd:d < 41)(x:Int):CB (W.setCell ⟨b,4+d * 7+6,none⟩ (.int .i64 x)) b c f ah gr (nS A d ⟨(A d).f,x⟩):=
 ⟨bV h.blk _ _,aF h.c0 (by omega),aF h.c1 (by omega),aF h.c2 (by omega),aF h.c3 (by omega),fun i hi=>by
  unfold nS
  by_cases e:i=d
  ·subst e
   rw [if_pos rfl]
   exact⟨(h.sp i hi).1.off (by omega),World.cell?_setCell_same _ _ _ (h.sp i hi).2⟩
  ·rw [if_neg e]
   exact(h.sp i hi).off (by omega)⟩
def jZ(W:World)(b o:Nat)(x:dA):World:=
 ((((((W.setCell ⟨b,o,none⟩ (.int .i64 x.f.k)).setCell ⟨b,o+1,none⟩ (.int .i64 x.f.n)).setCell ⟨b,o+2,none⟩ (.int .i64 x.f.mn)).setCell ⟨b,o+3,none⟩ (.int .i64 x.f.mx)).setCell ⟨b,o+4,none⟩ (.slice x.f.rq x.f.rs.length x.f.rc)).setCell ⟨b,o+5,none⟩ (.slice x.f.kq x.f.kl x.f.kc)).setCell ⟨b,o+6,none⟩ (.int .i64 x.s)
theorem CB.setSpot{W:World}{b:Nat}{c f:Bool}{ah gr:Int}{A:Nat->dA}(h:CB W b c f ah gr A){d:Nat}(hd:d < 41)(x:dA):CB (jZ W b (4+d * 7) x) b c f ah gr (nS A d x):=by
 have off:∀ {i:Nat} {v:Value},W.cell? ⟨b,i,none⟩=some v->(i < 4+d * 7\/4+d * 7+7<=i)->(jZ W b (4+d * 7) x).cell? ⟨b,i,none⟩=some v:=by
  intro i v hv hi
  unfold jZ
  exact aF (aF (aF (aF (aF (aF (aF hv (by omega)) (by omega)) (by omega)) (by omega)) (by omega)) (by omega)) (by omega)
 refine⟨?_,off h.c0 (by omega),off h.c1 (by omega),off h.c2 (by omega),off h.c3 (by omega),fun i hi=>?_⟩
 ·unfold jZ
  exact bV (bV (bV (bV (bV (bV (bV h.blk _ _) _ _) _ _) _ _) _ _) _ _) _ _
 ·unfold nS
  by_cases e:i=d
  ·subst e
   rw [if_pos rfl]
   obtain⟨⟨k0,k1,k2,k3,k4,k5⟩,k6⟩:=h.sp i hi
   unfold jZ
   refine⟨⟨?_,?_,?_,?_,?_,?_⟩,?_⟩
   ·exact aF (aF (aF (aF (aF (aF (World.cell?_setCell_same _ _ _ k0) (by omega)) (by omega)) (by omega)) (by omega)) (by omega)) (by omega)
   ·exact aF (aF (aF (aF (aF (World.cell?_setCell_same _ _ _ (aF k1 (by omega))) (by omega)) (by omega)) (by omega)) (by omega)) (by omega)
   ·exact aF (aF (aF (aF (World.cell?_setCell_same _ _ _ (aF (aF k2 (by omega)) (by omega))) (by omega)) (by omega)) (by omega)) (by omega)
   ·exact aF (aF (aF (World.cell?_setCell_same _ _ _ (aF (aF (aF k3 (by omega)) (by omega)) (by omega))) (by omega)) (by omega)) (by omega)
   ·exact aF (aF (World.cell?_setCell_same _ _ _ (aF (aF (aF (aF k4 (by omega)) (by omega)) (by omega)) (by omega))) (by omega)) (by omega)
   ·exact aF (World.cell?_setCell_same _ _ _ (aF (aF (aF (aF (aF k5 (by omega)) (by omega)) (by omega)) (by omega)) (by omega))) (by omega)
   ·exact World.cell?_setCell_same _ _ _ (aF (aF (aF (aF (aF (aF k6 (by omega)) (by omega)) (by omega)) (by omega)) (by omega)) (by omega))
  ·rw [if_neg e]
   obtain⟨⟨k0,k1,k2,k3,k4,k5⟩,k6⟩:=h.sp i hi
   exact⟨⟨off k0 (by omega),off k1 (by omega),off k2 (by omega),off k3 (by omega),off k4 (by omega),off k5 (by omega)⟩,off k6 (by omega)⟩
theorem aE5(W:World)(b o:Nat)(x:dA):Fr (fun z=>z=b) W (jZ W b o x):=by
 unfold jZ
 exact(((((((Fr.refl (fun z=>z=b) W).setCell (p:=⟨b,o,none⟩) rfl _).setCell (p:=⟨b,o+1,none⟩) rfl _).setCell (p:=⟨b,o+2,none⟩) rfl _).setCell (p:=⟨b,o+3,none⟩) rfl _).setCell (p:=⟨b,o+4,none⟩) rfl _).setCell (p:=⟨b,o+5,none⟩) rfl _).setCell (p:=⟨b,o+6,none⟩) rfl _
section
attribute [local go_sem] aV
def dH(pk:Int)(seen:Int)(kl:Nat)(k:Int):Bool:=
 if pk=5 then cO k ||(k==3 && seen==0) ||(k==4 && seen==(kl:Int) - 1)
 else if pk=9 then cO k
 else if pk=6 then eD k && k != 6
 else eD k
theorem aA3{w:World}{b:Nat}{c f:Bool}{ah gr:Int}{A:Nat->dA}(h:CB w b c f ah gr A){d:Nat}(hd:d < 41)(k:Int)(hkl:(A d).f.kl<=9223372036854775807) :
  Calls Tryz.prog 59 #[.pointer (some ⟨b,0,none⟩),.int .i64 ((d:Int)+1),.int .i64 k] w fun e w'=>e=.returned (.bool (dH (A d).f.k (A d).s (A d).f.kl k))/\Below w.heap.size w w':=by
 obtain⟨⟨k0,k1,k2,k3,k4,k5⟩,k6⟩:=h.sp d hd
 have hlt:=h.lt
 have e1:((d:Int)+1) - 1=(d:Int):=by omega
 have e2:(d:Int) < 41:=by omega
 have B1:Hid (Below w.heap.size w (w.alloc (.cells #[.int .i64 (A d).f.k,.int .i64 (A d).f.n,.int .i64 (A d).f.mn,.int .i64 (A d).f.mx,.slice (A d).f.rq (A d).f.rs.length (A d).f.rc,.slice (A d).f.kq (A d).f.kl (A d).f.kc,.int .i64 (A d).s] 60))):=bz9
 have N1:=aE w (.cells #[.int .i64 (A d).f.k,.int .i64 (A d).f.n,.int .i64 (A d).f.mn,.int .i64 (A d).f.mx,.slice (A d).f.rq (A d).f.rs.length (A d).f.rc,.slice (A d).f.kq (A d).f.kl (A d).f.kc,.int .i64 (A d).s] 60)
 obtain⟨r,hr⟩:∃ r,dH (A d).f.k (A d).s (A d).f.kl k=r:=⟨_,rfl⟩
 rw [hr]
 have HR:=aC hr
 clear hr
 go_enter Tryz.func59,Tryz.ntmps59
 go_upto_region 2 with fail
 have m0:(w.alloc (.cells #[.int .i64 (A d).f.k,.int .i64 (A d).f.n,.int .i64 (A d).f.mn,.int .i64 (A d).f.mx,.slice (A d).f.rq (A d).f.rs.length (A d).f.rc,.slice (A d).f.kq (A d).f.kl (A d).f.kc,.int .i64 (A d).s] 60)).cell? ⟨w.heap.size,0,none⟩=some (.int .i64 (A d).f.k):=aB N1 (i:=0) rfl
 have m5:(w.alloc (.cells #[.int .i64 (A d).f.k,.int .i64 (A d).f.n,.int .i64 (A d).f.mn,.int .i64 (A d).f.mx,.slice (A d).f.rq (A d).f.rs.length (A d).f.rc,.slice (A d).f.kq (A d).f.kl (A d).f.kc,.int .i64 (A d).s] 60)).cell? ⟨w.heap.size,5,none⟩=some (.slice (A d).f.kq (A d).f.kl (A d).f.kc):=aB N1 (i:=5) rfl
 have m6:(w.alloc (.cells #[.int .i64 (A d).f.k,.int .i64 (A d).f.n,.int .i64 (A d).f.mn,.int .i64 (A d).f.mx,.slice (A d).f.rq (A d).f.rs.length (A d).f.rc,.slice (A d).f.kq (A d).f.kl (A d).f.kc,.int .i64 (A d).s] 60)).cell? ⟨w.heap.size,6,none⟩=some (.int .i64 (A d).s):=aB N1 (i:=6) rfl
 have hlw:=aA N1
 generalize (w.alloc (.cells #[.int .i64 (A d).f.k,.int .i64 (A d).f.n,.int .i64 (A d).f.mn,.int .i64 (A d).f.mx,.slice (A d).f.rq (A d).f.rs.length (A d).f.rc,.slice (A d).f.kq (A d).f.kl (A d).f.kc,.int .i64 (A d).s] 60))=W1 at B1 m0 m5 m6 hlw ⊢
 clear N1 k0 k1 k2 k3 k4 k5 k6 hlt e1 e2 h hd
 generalize (A d).f.k=pk at m0 HR ⊢
 generalize (A d).f.kl=kl at m5 HR hkl ⊢
 generalize (A d).s=se at m6 HR ⊢
 cases h5:(pk==5) with
 | true=>
  obtain rfl:pk=5:=by simpa using h5
  go_upto_region 4 with fail
  refine wx9 ?_
  repeat (go_big_quiet_step (first | exact rfl))
  refine wpQuiet_nil ?_
  intro w2 hw
  have B2:Hid (Below w.heap.size w w2):=aD B1.out (aO hw) lz9
  clear hw B1
  have RR0:r=(cO k ||(k==3 && se==0) ||(k==4 && se==(kl:Int) - 1)):=by rw [<- HR.out];simp [dH]
  have HK:=aC (oL k)
  obtain⟨tb,htb⟩:∃ tb,cO k=tb:=⟨_,rfl⟩
  rw [htb] at HK RR0
  obtain⟨b1,hb1⟩:∃ b1,(se==0)=b1:=⟨_,rfl⟩
  obtain⟨b2,hb2⟩:∃ b2,(se==(kl:Int) - 1)=b2:=⟨_,rfl⟩
  rw [hb1,hb2] at RR0
  rw [hb1,hb2]
  have RRX:=aC RR0
  clear htb hb1 hb2 m0 m5 m6 RR0
  cases tb
  ·cases h3:(k==3)
   ·cases h4:(k==4)
    ·go_wp2_with (go_at_call 101;(with_reducible refine(HK.out _).mono ?_);rintro e w5 ⟨rfl,h5⟩;subst w5)
     go_ret
     exact⟨by rw [RRX.out,h3,h4];rfl,B2.out⟩
    ·go_wp2_with (go_at_call 101;(with_reducible refine(HK.out _).mono ?_);rintro e w5 ⟨rfl,h5⟩;subst w5)
     go_ret
     exact⟨by rw [RRX.out,h3,h4];simp,B2.out⟩
   ·obtain rfl:k=3:=by simpa using h3
    cases b1
    all_goals
     go_wp2_with (go_at_call 101;(with_reducible refine(HK.out _).mono ?_);rintro e w5 ⟨rfl,h5⟩;subst w5)
     go_ret
     exact⟨by rw [RRX.out];rfl,B2.out⟩
  ·go_wp2_with (go_at_call 101;(with_reducible refine(HK.out _).mono ?_);rintro e w5 ⟨rfl,h5⟩;subst w5)
   go_ret
   exact⟨by rw [RRX.out];rfl,B2.out⟩
 | false=>
  cases h9:(pk==9) with
  | true=>
   obtain rfl:pk=9:=by simpa using h9
   go_wp2_with (go_at_call 101;(with_reducible refine(oL _ _).mono ?_);rintro e w5 ⟨rfl,h5⟩;subst w5)
   go_ret
   exact⟨by rw [<- HR.out];simp [dH],B1.out⟩
  | false=>
   cases h6:(pk==6) with
   | true=>
    obtain rfl:pk=6:=by simpa using h6
    obtain⟨kb,hkb⟩:∃ kb,eD k=kb:=⟨_,rfl⟩
    have HK:=aC (xF k)
    rw [hkb] at HK
    have R2:r=(kb && k != 6):=by rw [<- HR.out,<- hkb];simp [dH]
    clear hkb
    cases kb with
    | true=>
     go_wp2_with (go_at_call 102;(with_reducible refine(HK.out _).mono ?_);rintro e w5 ⟨rfl,h5⟩;subst w5)
     go_ret
     exact⟨by rw [R2,Bool.true_and];rfl,B1.out⟩
    | false=>
     go_wp2_with (go_at_call 102;(with_reducible refine(HK.out _).mono ?_);rintro e w5 ⟨rfl,h5⟩;subst w5)
     go_ret
     exact⟨by rw [R2,Bool.false_and];rfl,B1.out⟩
   | false=>
    have R2:eD k=r:=by rw [<- HR.out];simp at h5 h9 h6;simp [dH,h5,h9,h6]
    go_wp2_with (go_at_call 102;(with_reducible refine(xF _ _).mono ?_);rintro e w5 ⟨rfl,h5⟩;subst w5)
    go_ret
    exact⟨by rw [<- R2];rfl,B1.out⟩
end
end Go.Proofs.YticfnglebbakkaaGreatDoor

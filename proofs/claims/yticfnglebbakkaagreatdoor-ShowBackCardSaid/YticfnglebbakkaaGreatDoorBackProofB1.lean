/-
  Parts of the proof.
-/
import Derived.Test.YticfnglebbakkaaGreatDoorBackProofB0
set_option maxRecDepth 100000
set_option maxHeartbeats 8000000
namespace Go.Proofs.YticfnglebbakkaaGreatDoor
open Go Go.RowKit
theorem dQ:Tryz.prog.underlying 23=some (.slice 25):=by kernel_rfl
theorem kI:(Tryz.prog.info? 25).map (fun i=>(i.zero,i.size,i.bytes))=some (some (.agg #[.int .i64 0,.int .i64 0,.int .i64 0,.int .i64 0,.slice none 0 0,.slice none 0 0]),6,80):=by kernel_rfl
def Six(W:World)(g o:Nat)(f:Fl):Prop:=
 W.cell? ⟨g,o,none⟩=some (.int .i64 f.k)/\W.cell? ⟨g,o+1,none⟩=some (.int .i64 f.n)/\W.cell? ⟨g,o+2,none⟩=some (.int .i64 f.mn)/\W.cell? ⟨g,o+3,none⟩=some (.int .i64 f.mx)/\W.cell? ⟨g,o+4,none⟩=some (.slice f.rq f.rs.length f.rc)/\W.cell? ⟨g,o+5,none⟩=some (.slice f.kq f.kl f.kc)
theorem Six.ck{N:Nat->Prop}{W W':World}{g o:Nat}{f:Fl}(h:Six W g o f)(hc:CKeep N W W')(hg:N g):Six W' g o f:=
 ⟨cR hc (p:=⟨g,o,none⟩) hg h.1,cR hc (p:=⟨g,o+1,none⟩) hg h.2.1,cR hc (p:=⟨g,o+2,none⟩) hg h.2.2.1,cR hc (p:=⟨g,o+3,none⟩) hg h.2.2.2.1,cR hc (p:=⟨g,o+4,none⟩) hg h.2.2.2.2.1,cR hc (p:=⟨g,o+5,none⟩) hg h.2.2.2.2.2⟩
def ArgK(W:World)(v:Value)(ks:List Tr):Prop:=
 (∃ p cap,v=.slice p 0 cap/\ks=[]/\(p=none->cap=0))\/∃ g off cap,v=.slice (some ⟨g,off,none⟩) ks.length cap/\g < W.heap.size/\ks.length<=cap/\cap<=maxLen/\∀ (i:Nat) (t:Tr),ks[i]?=some t->Six W g (off+i * 6) t.f
theorem ArgK.slice{W:World}{v:Value}{ks:List Tr}(h:ArgK W v ks):∃ q cap,v=.slice q ks.length cap/\ks.length<=maxLen/\ks.length<=cap /\
  (∀ (i:Nat) (t:Tr),ks[i]?=some t->∃ g off,q=some ⟨g,off,none⟩/\g < W.heap.size/\Six W g (off+i * 6) t.f):=by
 rcases h with⟨p,cap,rfl,rfl,-⟩ | ⟨g,off,cap,rfl,h2,h3,h4,h5⟩
 ·exact⟨p,cap,rfl,Nat.zero_le _,Nat.zero_le _,fun i x hx=>by simp at hx⟩
 ·exact⟨_,cap,rfl,Nat.le_trans h3 h4,h3,fun i x hx=>⟨g,off,rfl,h2,h5 i x hx⟩⟩
def CK(W W':World):Prop:=CKeep (fun k=>k < W.heap.size) W W'
theorem CK.of_below{W W':World}(h:Below W.heap.size W W'):CK W W':=⟨h.size,fun k _ _ _ _ hc=>(h.block k (aA hc)).trans hc⟩
theorem CK.trans{A B C:World}(h:CK A B)(k:CK B C):CK A C:=⟨Nat.le_trans h.size k.size,fun i cur t fr hi hc=>k.same i cur t fr (Nat.lt_of_lt_of_le hi h.size) (h.same i cur t fr hi hc)⟩
theorem CK.step{A B C:World}(h:CK A B)(k:CKeep (fun i=>i < A.heap.size) B C):CK A C:=⟨Nat.le_trans h.size k.size,fun i cur t fr hi hc=>k.same i cur t fr hi (h.same i cur t fr hi hc)⟩
theorem ArgK.ck{W W':World}{v:Value}{ks:List Tr}(h:ArgK W v ks)(hc:CK W W'):ArgK W' v ks:=by
 rcases h with h | ⟨g,off,cap,h1,h2,h3,h4,h5⟩
 ·exact .inl h
 ·exact .inr ⟨g,off,cap,h1,Nat.lt_of_lt_of_le h2 hc.size,h3,h4,fun i x hx=>(h5 i x hx).ck hc h2⟩
theorem ArgR.ck{W W':World}{v:Value}{L:List (Int × Int)}(h:ArgR W v L)(hc:CK W W'):ArgR W' v L:=by
 rcases h with h | ⟨g,off,cap,h1,h2,h3,h4,h5⟩
 ·exact .inl h
 ·exact .inr ⟨g,off,cap,h1,Nat.lt_of_lt_of_le h2 hc.size,h3,h4,fun i x hx=>⟨cR hc (p:=⟨g,off+2 * i,none⟩) h2 (h5 i x hx).1,cR hc (p:=⟨g,off+2 * i+1,none⟩) h2 (h5 i x hx).2⟩⟩
def NO(W:World)(t:Tr):Prop:=(∀ a,t.f.rq=some a->t.f.rs≠[]->∃ cur,W.heap[a.block]?=some (.cells cur 48 (0,0)))/\(∀ a,t.f.kq=some a->t.ks≠[]->∃ cur,W.heap[a.block]?=some (.cells cur 25 (0,0)))
theorem NO.ck{W W':World}{t:Tr}(h:NO W t)(hc:CK W W'):NO W' t:=
 ⟨fun a e z=>by obtain⟨cur,q⟩:=h.1 a e z;exact⟨cur,hc.same _ _ _ _ (aA q) q⟩,fun a e z=>by obtain⟨cur,q⟩:=h.2 a e z;exact⟨cur,hc.same _ _ _ _ (aA q) q⟩⟩
theorem NO.rows{base:Nat}{W:World}{f:Fl}{ks:List Tr}(hr:W.ownsRow base 48 2 (.slice f.rq f.rs.length f.rc) f.rs.length (aM f.rs))(hk:∀ a,f.kq=some a->ks≠[]->∃ cur,W.heap[a.block]?=some (.cells cur 25 (0,0))):NO W (.mk f ks):=
 ⟨fun a e _=>(aG hr (g:=a.block) (by rw [show f.rq=some a from e];rfl)).2.2,hk⟩
structure NA(W:World)(t:Tr):Prop where
 r:ArgR W (.slice t.f.rq t.f.rs.length t.f.rc) t.f.rs
 k:ArgK W (.slice t.f.kq t.f.kl t.f.kc) t.ks
 fit:Fit t.f.rs
 len:t.f.rs.length+3<=8796093022208
 own:NO W t
theorem NA.ck{W W':World}{t:Tr}(h:NA W t)(hc:CK W W'):NA W' t:=⟨h.r.ck hc,h.k.ck hc,h.fit,h.len,h.own.ck hc⟩
theorem NA.kl{W:World}{t:Tr}(h:NA W t):t.f.kl=t.ks.length:=by
 obtain⟨q,cap,e,-⟩:=h.k.slice
 injection e
def TA(W:World)(t:Tr):Prop:=cI (NA W) t
theorem dV{P Q:Tr->Prop}(h:∀ t,P t->Q t)(t:Tr):cI P t->cI Q t:=by
 refine Tr.ind (P:=fun t=>cI P t->cI Q t) (fun t ih he=>?_) t
 exact(aZ t).2 ⟨h t ((aZ t).1 he).1,(aY _).2 fun u hu=>ih u hu (dU he hu)⟩
theorem TA.ck{W W':World}{t:Tr}(h:TA W t)(hc:CK W W'):TA W' t:=dV (fun _ q=>NA.ck q hc) t h
theorem TA.kept{W W':World}{t:Tr}(h:TA W t)(hb:Below W.heap.size W W'):TA W' t:=h.ck (CK.of_below hb)
theorem TA.node{W:World}{t:Tr}(h:TA W t):NA W t:=((aZ t).1 h).1
theorem TA.kid{W:World}{t u:Tr}(h:TA W t)(hu:u∈t.ks):TA W u:=dU h hu
structure NB(W:World)(t:Tr):Prop where
 r:ArgR W (.slice t.f.rq t.f.rs.length t.f.rc) t.f.rs
 k:ArgK W (.slice t.f.kq t.f.kl t.f.kc) t.ks
 fit:Fit t.f.rs
 len:t.f.rs.length+3<=8796093022208
theorem NB.ck{W W':World}{t:Tr}(h:NB W t)(hc:CK W W'):NB W' t:=⟨h.r.ck hc,h.k.ck hc,h.fit,h.len⟩
theorem NB.kl{W:World}{t:Tr}(h:NB W t):t.f.kl=t.ks.length:=by
 obtain⟨q,cap,e,-⟩:=h.k.slice
 injection e
def TB(W:World)(t:Tr):Prop:=cI (NB W) t
theorem TB.ck{W W':World}{t:Tr}(h:TB W t)(hc:CK W W'):TB W' t:=dV (fun _ q=>NB.ck q hc) t h
theorem TB.kept{W W':World}{t:Tr}(h:TB W t)(hb:Below W.heap.size W W'):TB W' t:=h.ck (CK.of_below hb)
theorem TB.node{W:World}{t:Tr}(h:TB W t):NB W t:=((aZ t).1 h).1
theorem TB.kid{W:World}{t u:Tr}(h:TB W t)(hu:u∈t.ks):TB W u:=dU h hu
theorem TB.at{W:World}{t:Tr}(h:TB W t){p:Way}{z:El}(hz:z∈pp p t):TB W z.2:=xA t p h z hz
theorem TA.tb{W:World}{t:Tr}(h:TA W t):TB W t:=dV (fun _ q=>⟨q.r,q.k,q.fit,q.len⟩) t h
instance {W:World} {t:Tr}:Coe (TA W t) (TB W t):=⟨TA.tb⟩
def BoxN(W:World)(b:Nat)(f:Fl):Prop:=W.heap[b]?=some (.cells #[.int .i64 f.k,.int .i64 f.n,.int .i64 f.mn,.int .i64 f.mx,.slice f.rq f.rs.length f.rc,.slice f.kq f.kl f.kc] 25 (0,0))
theorem BoxN.six{W:World}{b:Nat}{f:Fl}(h:BoxN W b f):Six W b 0 f:=
 ⟨aB h (i:=0) rfl,aB h (i:=1) rfl,aB h (i:=2) rfl,aB h (i:=3) rfl,aB h (i:=4) rfl,aB h (i:=5) rfl⟩
section
inductive Er where
 | mk (k n mn mx:Int) (rs:List (Int × Int)) (ks:List Er)
mutual
def er:Tr->Er | .mk f ks=>.mk f.k f.n f.mn f.mx f.rs (ers ks)
def ers:List Tr->List Er | []=>[] | t :: ts=>er t :: ers ts
end
theorem bC7(l:List Tr):ers l=l.map er:=by
 induction l with
 | nil=>rw [ers];rfl
 | cons t ts ih=>rw [ers,ih];rfl
theorem fX(t:Tr):er t=.mk t.f.k t.f.n t.f.mn t.f.mx t.f.rs (t.ks.map er):=by
 cases t
 rw [er,bC7]
 rfl
theorem bJ8(a b:Tr):er a=er b ↔ a.f.k=b.f.k/\a.f.n=b.f.n/\a.f.mn=b.f.mn/\a.f.mx=b.f.mx/\a.f.rs=b.f.rs/\a.ks.map er=b.ks.map er:=by
 rw [fX a,fX b]
 constructor
 ·intro h
  injection h with h1 h2 h3 h4 h5 h6
  exact⟨h1,h2,h3,h4,h5,h6⟩
 ·rintro ⟨h1,h2,h3,h4,h5,h6⟩
  rw [h1,h2,h3,h4,h5,h6]
open Classical in
noncomputable def mC (a b:Er):Bool:=decide (a=b)
theorem nJ(a b:Er):mC a b=true ↔ a=b:=by unfold mC;simp
theorem pH(a:Er):mC a a=true:=(nJ a a).2 rfl
open Classical in
noncomputable def lH (a b:List Er):Bool:=decide (a=b)
theorem iY(a b:List Er):lH a b=true ↔ a=b:=by unfold lH;simp
end
inductive Sgn where
 | lf (k n:Int) (rs:List (Int × Int))
 | op (n:Nat)
 | cl
 | al
 | rp (a b:Int)
inductive Ps where
 | lf (k n:Int) (rs:List (Int × Int))
 | grp (n:Nat) (x:Ps)
 | rep (a b:Int) (x:Ps)
 | row (l:List Ps)
 | alt (l:List Ps)
mutual
def Ps.sz:Ps->Nat
 | .lf _ _ _=>1
 | .grp _ x=>x.sz+1
 | .rep _ _ x=>x.sz+1
 | .row l=>eJ l+1
 | .alt l=>eJ l+1
def eJ:List Ps->Nat
 | []=>0
 | x :: l=>x.sz+eJ l
end
mutual
def Ps.dp:Ps->Nat
 | .lf _ _ _=>1
 | .grp _ x=>x.dp+1
 | .rep _ _ x=>x.dp+1
 | .row l=>eK l+1
 | .alt l=>eK l+1
def eK:List Ps->Nat
 | []=>0
 | x :: l=>max x.dp (eK l)
end
mutual
def pfl:Ps->List Sgn
 | .lf k n rs=>[.lf k n rs]
 | .grp n x=>.op n :: (pfl x ++ [.cl])
 | .rep a b x=>pfl x ++ [.rp a b]
 | .row l=>bW l
 | .alt l=>cM l
def bW:List Ps->List Sgn
 | []=>[]
 | x :: l=>pfl x ++ bW l
def cM:List Ps->List Sgn
 | []=>[]
 | x :: l=>pfl x ++ cC l
def cC:List Ps->List Sgn
 | []=>[]
 | x :: l=>.al :: (pfl x ++ cC l)
end
mutual
def te:Ps->Er
 | .lf k n rs=>.mk k n 0 0 rs []
 | .grp n x=>.mk 7 n 0 0 [] [te x]
 | .rep a b x=>.mk 9 0 a b [] [te x]
 | .row l=>if l.isEmpty then .mk 1 0 0 0 [] [] else .mk 5 0 0 0 [] (tes l)
 | .alt l=>.mk 6 0 0 0 [] (tes l)
def tes:List Ps->List Er
 | []=>[]
 | x :: l=>te x :: tes l
end
theorem gS(l:List Ps):tes l=l.map te:=by
 induction l with
 | nil=>rw [tes];rfl
 | cons x l ih=>rw [tes,ih];rfl
def Ps.kd:Ps->Int
 | .lf k _ _=>k
 | .grp _ _=>7
 | .rep _ _ _=>9
 | .row l=>if l.isEmpty then 1 else 5
 | .alt _=>6
def cE:Ps->Bool
 | .row _=>false
 | .alt _=>false
 | _=>true
def wU:Ps->Bool
 | .alt _=>false
 | _=>true
def eY:Ps->Bool
 | .lf k _ _=>k==2 || k==8
 | .grp _ _=>true
 | .rep _ _ _=>true
 | _=>false
def bN7(l:List Ps):Prop:=∀ (i:Nat) (x:Ps),l[i]?=some x->cE x=true/\(x.kd=3->i=0)/\(x.kd=4->i+1=l.length)
mutual
def wf:Ps->Prop
 | .lf k _ _=>k=2\/k=3\/k=4\/k=8
 | .grp _ x=>wf x
 | .rep _ _ x=>eY x=true/\wf x
 | .row l=>l.length≠1/\bN7 l/\wfs l
 | .alt l=>2<=l.length/\(∀ x∈l,wU x=true)/\wfs l
def wfs:List Ps->Prop
 | []=>True
 | x :: l=>wf x/\wfs l
end
theorem eV(l:List Ps):wfs l ↔ ∀ x∈l,wf x:=by
 induction l with
 | nil=>rw [wfs];simp
 | cons x l ih=>rw [wfs,ih];simp
theorem jT(a b:List Ps):bW (a ++ b)=bW a ++ bW b:=by
 induction a with
 | nil=>rw [bW];rfl
 | cons x a ih=>rw [List.cons_append,bW,bW,ih,List.append_assoc]
theorem nZ(a b:List Ps):cC (a ++ b)=cC a ++ cC b:=by
 induction a with
 | nil=>rw [cC];rfl
 | cons x a ih=>rw [List.cons_append,cC,cC,ih];simp
theorem mG(x:Ps):bW [x]=pfl x:=by rw [bW,bW,List.append_nil]
theorem aQ3(x:Ps):cC [x]=.al :: pfl x:=by rw [cC,cC,List.append_nil]
theorem rU(x:Ps)(l:List Ps):cM (x :: l)=pfl x ++ cC l:=by rw [cM]
theorem kK(x:Ps):1<=x.sz:=by cases x <;> simp [Ps.sz]
theorem dS(x:Ps)(l:List Ps):eJ (x :: l)=x.sz+eJ l:=by rw [eJ]
theorem iP:eJ []=0:=by rw [eJ]
theorem oP{x:Ps}{l:List Ps}(h:x∈l):x.sz<=eJ l:=by
 induction l with
 | nil=>cases h
 | cons y l ih=>
  rw [dS]
  rcases List.mem_cons.1 h with rfl | h
  ·omega
  ·have:=ih h;omega
def Ps.kids:Ps->List Ps
 | .lf _ _ _=>[]
 | .grp _ x=>[x]
 | .rep _ _ x=>[x]
 | .row l=>l
 | .alt l=>l
theorem tI{x y:Ps}(h:y∈x.kids):y.sz < x.sz:=by
 cases x with
 | lf=>cases h
 | grp n k=>simp [Ps.kids] at h;subst h;simp [Ps.sz]
 | rep a b k=>simp [Ps.kids] at h;subst h;simp [Ps.sz]
 | row l=>have:=oP (show y∈l from h);simp [Ps.sz];omega
 | alt l=>have:=oP (show y∈l from h);simp [Ps.sz];omega
theorem Ps.ind{P:Ps->Prop}(h:∀ x,(∀ y∈x.kids,P y)->P x)(x:Ps):P x:=by
 have:∀ (m:Nat) (x:Ps),x.sz<=m->P x:=by
  intro m
  induction m with
  | zero=>intro x hx;have:=kK x;omega
  | succ m ih=>intro x hx;exact h x fun y hy=>ih y (by have:=tI hy;omega)
 exact this x.sz x lz9
theorem bG4{x y:Ps}(h:wf x)(hy:y∈x.kids):wf y:=by
 cases x with
 | lf=>cases hy
 | grp n k=>simp [Ps.kids] at hy;subst hy;rw [wf] at h;exact h
 | rep a b k=>simp [Ps.kids] at hy;subst hy;rw [wf] at h;exact h.2
 | row l=>rw [wf] at h;exact(eV l).1 h.2.2 y hy
 | alt l=>rw [wf] at h;exact(eV l).1 h.2.2 y hy
def okp:Option Sgn->Sgn->Prop
 | p,.rp _ _=>(∃ k n rs,p=some (.lf k n rs)/\(k=2\/k=8))\/p=some .cl\/∃ a b,p=some (.rp a b)
 | p,.lf k _ _=>(k=2\/k=3\/k=4\/k=8)/\(k=3->p=none\/p=some .al\/∃ n,p=some (.op n))/\∀ n rs,p≠some (.lf 4 n rs)
 | p,.op _=>∀ n rs,p≠some (.lf 4 n rs)
 | _,.cl=>True
 | _,.al=>True
def adj:Option Sgn->List Sgn->Prop
 | _,[]=>True
 | p,x :: l=>okp p x/\adj (some x) l
def hk:Nat->List Nat->List Nat->List Sgn->Prop
 | _,o,_,[]=>o=[]
 | g,o,e,.op n :: l=>n=g+1/\g < 30/\hk (g+1) (n :: o) e l
 | g,o,e,.cl :: l=>∃ n o',o=n :: o'/\hk g o' (n :: e) l
 | g,o,e,.lf k n _ :: l=>(k=8->∃ i∈e,n=(i:Int))/\hk g o e l
 | g,o,e,_ :: l=>hk g o e l
def mkB(l:List Ps):Ps:=match l with
 | [x]=>x
 | l=>.row l
def mkP(l:List Ps):Ps:=match l with
 | [x]=>x
 | l=>.alt l
theorem aR4(l:List Ps):pfl (mkB l)=bW l:=by
 unfold mkB
 split
 ·rw [mG]
 ·rw [pfl]
theorem aR3(b:List Ps)(x:Ps):pfl (mkP (b ++ [x]))=cM (b ++ [x]):=by
 unfold mkP
 split
 ·rename_i y h;rw [h,rU,cC,List.append_nil]
 ·rw [pfl]
theorem sX{x:Ps}(h:eY x=true):cE x=true/\x.kd≠3/\x.kd≠4:=by
 cases x with
 | lf k n rs=>
  simp [eY] at h
  rcases h with rfl | rfl <;> simp [cE,Ps.kd]
 | grp=>simp [cE,Ps.kd]
 | rep=>simp [cE,Ps.kd]
 | row=>simp [eY] at h
 | alt=>simp [eY] at h
def eA(k:Int):Bool:=decide (1<=k) && decide (k<=9)
def cK(k:Int):Bool:=k==2 || k==7 || k==8 || k==9
def iV(a b:Int):Bool:=decide (0<=a) && decide (a<=255) && (b==-1 ||(decide (a<=b) && decide (b<=255)))
def gK(k:Int)(n:Nat):Bool:=if k=5\/k=6 then decide (2<=n) else if k=7\/k=9 then n==1 else n==0
theorem wT(k:Int)(w:World):Calls Tryz.prog 102 #[.int .i64 k] w fun e w'=>e=.returned (.bool (eA k))/\w'=w:=by
 have hid:∀ b,eA k=b->Calls Tryz.prog 102 #[.int .i64 k] w fun e w'=>e=.returned (.bool b)/\w'=w:=by
  intro b hb
  by_cases h1:(1:Int)<=k
  ·by_cases h2:k<=9
   ·have e:b=true:=by rw [<- hb];simp [eA,h1,h2]
    subst e
    clear hb
    go_enter Tryz.func102,Tryz.ntmps102
    go_wp2
    go_ret
    exact⟨rfl,rfl⟩
   ·have e:b=false:=by rw [<- hb];simp [eA,h2]
    subst e
    clear hb
    go_enter Tryz.func102,Tryz.ntmps102
    go_wp2
    go_ret
    exact⟨rfl,rfl⟩
  ·have e:b=false:=by rw [<- hb];simp [eA,h1]
   subst e
   clear hb
   go_enter Tryz.func102,Tryz.ntmps102
   go_wp2
   go_ret
   exact⟨rfl,rfl⟩
 exact hid _ rfl
theorem oB(k:Int)(w:World):Calls Tryz.prog 101 #[.int .i64 k] w fun e w'=>e=.returned (.bool (cK k))/\w'=w:=by
 have hid:∀ b,cK k=b->Calls Tryz.prog 101 #[.int .i64 k] w fun e w'=>e=.returned (.bool b)/\w'=w:=by
  intro b hb
  unfold cK at hb
  cases h1:(k==2) <;> cases h2:(k==7) <;> cases h3:(k==8) <;> cases h4:(k==9) <;> rw [h1,h2,h3,h4] at hb <;> simp at hb <;> subst hb
  all_goals
   go_enter Tryz.func101,Tryz.ntmps101
   go_wp2
   go_ret
   exact⟨rfl,rfl⟩
 exact hid _ rfl
theorem qZ(a b:Int)(w:World):Calls Tryz.prog 104 #[.int .i64 a,.int .i64 b] w fun e w'=>e=.returned (.bool (iV a b))/\w'=w:=by
 have hid:∀ r,iV a b=r->Calls Tryz.prog 104 #[.int .i64 a,.int .i64 b] w fun e w'=>e=.returned (.bool r)/\w'=w:=by
  intro r hb
  unfold iV at hb
  by_cases h1:(0:Int)<=a
  ·by_cases h2:a<=255
   ·cases h3:(b==-1) with
    | true=>
     simp [h1,h2,h3] at hb
     subst hb
     go_enter Tryz.func104,Tryz.ntmps104
     go_wp2
     go_ret
     exact⟨rfl,rfl⟩
    | false=>
     by_cases h4:a<=b
     ·by_cases h5:b<=255
      ·simp [h1,h2,h3,h4,h5] at hb
       subst hb
       go_enter Tryz.func104,Tryz.ntmps104
       go_wp2
       go_ret
       exact⟨rfl,rfl⟩
      ·simp [h1,h2,h3,h4,h5] at hb
       subst hb
       go_enter Tryz.func104,Tryz.ntmps104
       go_wp2
       go_ret
       exact⟨rfl,rfl⟩
     ·simp [h1,h2,h3,h4] at hb
      subst hb
      go_enter Tryz.func104,Tryz.ntmps104
      go_wp2
      go_ret
      exact⟨rfl,rfl⟩
   ·simp [h1,h2] at hb
    subst hb
    go_enter Tryz.func104,Tryz.ntmps104
    go_wp2
    go_ret
    exact⟨rfl,rfl⟩
  ·simp [h1] at hb
   subst hb
   go_enter Tryz.func104,Tryz.ntmps104
   go_wp2
   go_ret
   exact⟨rfl,rfl⟩
 exact hid _ rfl
theorem aW6(n:Nat):((n:Int)==0)=(n==0):=by cases n <;> rfl
theorem bD8(n:Nat):((n:Int)==1)=(n==1):=by rw [Bool.eq_iff_iff];simp;omega
theorem vM(f:Fl)(w:World):Calls Tryz.prog 61 #[.agg #[.int .i64 f.k,.int .i64 f.n,.int .i64 f.mn,.int .i64 f.mx,.slice f.rq f.rs.length f.rc,.slice f.kq f.kl f.kc]] w fun e w'=>e=.returned (.bool (gK f.k f.kl))/\Below w.heap.size w w':=by
 obtain⟨r,hr⟩:∃ r,gK f.k f.kl=r:=⟨_,rfl⟩
 rw [hr]
 have HR:=aC hr
 have B1:Hid (Below w.heap.size w (w.alloc (.cells #[.int .i64 f.k,.int .i64 f.n,.int .i64 f.mn,.int .i64 f.mx,.slice f.rq f.rs.length f.rc,.slice f.kq f.kl f.kc] 25))):=bz9
 have N1:Hid (BoxN (w.alloc (.cells #[.int .i64 f.k,.int .i64 f.n,.int .i64 f.mn,.int .i64 f.mx,.slice f.rq f.rs.length f.rc,.slice f.kq f.kl f.kc] 25)) w.heap.size f):=aE w _
 obtain⟨c0,-,-,-,-,c5⟩:=N1.out.six
 simp only [Nat.zero_add] at c5
 clear hr
 cases h5:(f.k==5) <;> cases h6:(f.k==6) <;> cases h7:(f.k==7) <;> cases h9:(f.k==9)
 all_goals
  go_enter Tryz.func61,Tryz.ntmps61
  go_wp2
  go_ret
  refine⟨?_,B1.out⟩
  rw [<- HR.out]
  unfold gK
  simp at h5 h6 h7 h9
  simp [h5,h6,h7,h9]
  try first | exact aW6 _ | exact bD8 _ | omega
section
open Go
open Classical in
noncomputable def rsQ (q:Int->Prop):List (Int × Int):=if h:∃ C,IsC C q then h.choose else []
theorem aO8{C:List (Int × Int)}{q:Int->Prop}(h:IsC C q):rsQ q=C:=by
 have hx:∃ C,IsC C q:=⟨C,h⟩
 unfold rsQ
 rw [dif_pos hx]
 exact hx.choose_spec.one h (fun _=>Iff.rfl)
noncomputable def sgT (g:Nat) (t:Tk):Sgn:=
 if t.kind=3 then .op (g+1) else if t.kind=4 then .cl else if t.kind=5 then .al else if t.kind=2 then .rp t.mn t.mx
 else if t.kind=7 then .lf 3 0 [] else if t.kind=8 then .lf 4 0 [] else if t.kind=6 then .lf 8 (t.n:Int) [] else .lf 2 0 (rsQ t.q)
def gnx(g:Nat)(t:Tk):Nat:=if t.kind=3 then g+1 else g
noncomputable def nG:Nat->List Tp->List Sgn
 | _,[]=>[]
 | g,t :: T=>sgT g t.1 :: nG (gnx g t.1) T
theorem gU:∀ (g:Nat) (T:List Tp),(nG g T).length=T.length
 | g,[]=>rfl
 | g,t :: T=>by rw [nG,List.length_cons,List.length_cons,gU]
structure GS where
 g:Nat
 o:List (Nat × Nat)
 e:List Nat
def glk(s:GS)(t:Tp):Except (Nat × Nat) GS:=
 if t.1.kind=3 then (if s.g=30 then .error (42,t.2.1) else .ok ⟨s.g+1,s.o ++ [(s.g+1,t.2.1)],s.e⟩)
 else if t.1.kind=4 then (match s.o.getLast? with
  | none=>.error (40,t.2.1)
  | some x=>.ok ⟨s.g,s.o.dropLast,x.1 :: s.e⟩)
 else if t.1.kind=6 then (if t.1.n∈s.e then .ok s else .error (41,t.2.1))
 else .ok s
def gck:GS->List Tp->Except (Nat × Nat) GS
 | s,[]=>.ok s
 | s,t :: T=>match glk s t with
  | .error x=>.error x
  | .ok s'=>gck s' T
def gs0:GS:=⟨0,[],[]⟩
def iT(T:List Tp):Option (Nat × Nat):=match gck gs0 T with
 | .error x=>some x
 | .ok s=>match s.o with
  | []=>none
  | x :: _=>some (39,x.2)
structure TkK(m:Md)(s:ByteArray)(p last:Nat)(t:Tk)(q:Nat):Prop where
 rep:t.kind=2->fG last=false/\iV t.mn t.mx=true
 beg:t.kind=7->p=0\/last=3\/last=5
 fin:t.kind=8->q=p+1/\lD s p=true
 back:t.kind=6->1<=t.n/\t.n<=9
 set:t.kind=1->∃ L b,t.q=fC m L b
 chr:∀ c,t.q c->aU m.c c
def TkR(m:Md)(s:ByteArray)(p last:Nat)(r:Rs (Tk × Nat)):Prop:=match r with
 | .error _=>True
 | .ok x=>TkK m s p last x.1 x.2
theorem sV(m:Md)(s:ByteArray)(p last:Nat)(L:List (Int × Int))(b:Bool)(q:Nat):TkR m s p last (.ok (bI m L b,q)):=
 ⟨fun h=>(by cases h),fun h=>(by cases h),fun h=>(by cases h),fun h=>(by cases h),fun _=>⟨L,b,rfl⟩,fun c h=>h.1⟩
theorem aN2(m:Md)(s:ByteArray)(p last k q:Nat)(h1:k=3\/k=4\/k=5):TkR m s p last (.ok (kT k,q)):=by
 refine⟨fun h=>?_,fun h=>?_,fun h=>?_,fun h=>?_,fun h=>?_,fun c h=>h.elim⟩ <;> (have h':k=_:=h;omega)
theorem sW(m:Md)(s:ByteArray)(p last:Nat)(a b:Int)(q:Nat)(h1:fG last=false)(h2:iV a b=true):TkR m s p last (.ok (dJ a b,q)):=
 ⟨fun _=>⟨h1,h2⟩,fun h=>(by cases h),fun h=>(by cases h),fun h=>(by cases h),fun h=>(by cases h),fun c h=>h.elim⟩
theorem bN0(m:Md)(s:ByteArray)(p last:Nat):TkR m s p last (brk m s p):=by
 unfold brk
 split
 ·trivial
 ·split
  ·trivial
  ·exact sV ..
theorem bJ0(m:Md)(s:ByteArray)(p last:Nat)(h:fG last=false):TkR m s p last (lO s p):=by
 unfold lO
 split
 ·trivial
 split
 ·trivial
 ·rename_i n
  refine sW _ _ _ _ _ _ _ h ?_
  have:-1<=ivB s p:=by unfold ivB;split <;> (try split) <;> omega
  simp only [iV,Bool.and_eq_true,Bool.or_eq_true,decide_eq_true_eq,beq_iff_eq]
  omega
theorem bM3(m:Md)(s:ByteArray)(p last:Nat):TkR m s p last (esc m s p last):=by
 unfold esc
 split
 ·trivial
 split
 ·exact aN2 _ _ _ _ _ _ (by omega)
 split
 ·exact aN2 _ _ _ _ _ _ (by omega)
 split
 ·exact aN2 _ _ _ _ _ _ (by omega)
 split
 ·rename_i h
  exact⟨fun h=>(by cases h),fun h=>(by cases h),fun h=>(by cases h),fun _=>⟨by simp only [cX];omega,by simp only [cX];omega⟩,fun h=>(by cases h),fun c h=>h.elim⟩
 split
 ·split
  ·trivial
  rename_i hb
  have hb':fG last=false:=by simpa using hb
  split
  ·exact sW _ _ _ _ _ _ _ hb' rfl
  split
  ·exact sW _ _ _ _ _ _ _ hb' rfl
  ·exact bJ0 m s p last hb'
 split
 ·exact sV ..
 ·trivial
theorem bL0(m:Md)(s:ByteArray)(p last:Nat):TkR m s p last (tok m s p last):=by
 unfold tok
 split
 ·exact bM3 ..
 split
 ·rename_i h
  simp only [Bool.and_eq_true,Bool.not_eq_true'] at h
  exact sW _ _ _ _ _ _ _ h.2 rfl
 split
 ·rename_i h
  simp only [Bool.and_eq_true,Bool.or_eq_true,beq_iff_eq] at h
  exact⟨fun h=>(by cases h),fun _=>by omega,fun h=>(by cases h),fun h=>(by cases h),fun h=>(by cases h),fun c h=>h.elim⟩
 split
 ·rename_i h
  simp only [Bool.and_eq_true] at h
  exact⟨fun h=>(by cases h),fun h=>(by cases h),fun _=>⟨rfl,h.2⟩,fun h=>(by cases h),fun h=>(by cases h),fun c h=>h.elim⟩
 split
 ·exact sV ..
 split
 ·exact bN0 ..
 ·split
  ·trivial
  ·exact sV ..
theorem aY0(m:Md)(s:ByteArray)(p last:Nat){t:Tk}{q:Nat}(h:aJ s p [92,41]=true\/aJ s p [92,124]=true)(hw:tok m s p last=.ok (t,q)):t.kind=4\/t.kind=5:=by
 have h0:aJ s p [92]=true:=by
  rcases h with h | h
  ·exact iG.2 ⟨by have:=(eC.1 h).1;omega,(eC.1 h).2.1⟩
  ·exact iG.2 ⟨by have:=(eC.1 h).1;omega,(eC.1 h).2.1⟩
 unfold tok at hw
 rw [if_pos h0] at hw
 unfold esc at hw
 rcases h with h | h
 ·have h1:=eC.1 h
  rw [if_neg (by omega),if_neg (by rw [h1.2.2];decide),if_pos (by rw [h1.2.2];decide)] at hw
  cases hw
  exact .inl rfl
 ·have h1:=eC.1 h
  rw [if_neg (by omega),if_neg (by rw [h1.2.2];decide),if_neg (by rw [h1.2.2];decide),if_pos (by rw [h1.2.2];decide)] at hw
  cases hw
  exact .inr rfl
def okk(a b:Nat):Prop:=(b=2->a=1\/a=2\/a=4\/a=6)/\(b=7->a=0\/a=3\/a=5)/\(a=8->b=4\/b=5)
structure TkW(m:Md)(t:Tk):Prop where
 ok:fS t
 rep:t.kind=2->iV t.mn t.mx=true
 back:t.kind=6->1<=t.n/\t.n<=9
 set:t.kind=1->∃ L b,t.q=fC m L b
 chr:∀ c,t.q c->aU m.c c
structure Beside(m:Md)(s:ByteArray)(T:List Tp)(p:Nat):Prop where
 each:∀ i t,T[i]?=some t->okk (cN (T.take i)) t.1.kind
 tok:∀ t∈T,TkW m t.1
 fin:cN T=8->p=s.size\/aJ s p [92,41]=true\/aJ s p [92,124]=true
theorem wQ{m:Md}{s:ByteArray}{T:List Tp}{p:Nat}(h:Beside m s T p):cN T<=8/\(cN T=0->T=[]):=by
 unfold cN
 cases hl:T.getLast? with
 | none=>exact⟨by simp,fun _=>List.getLast?_eq_none_iff.1 hl⟩
 | some x=>
  have:=(h.tok x (List.mem_of_getLast? hl)).ok
  exact⟨this.2.1,fun q=>by have:=this.1;simp only at q;omega⟩
theorem Beside.add{m:Md}{s:ByteArray}{T:List Tp}{p q:Nat}{t:Tk}(h:Beside m s T p)(hp:p < s.size)(h0:p=0->T=[])(hw:Go.Proofs.YticfnglebbakkaaGreatDoor.tok m s p (cN T)=.ok (t,q)):Beside m s (T ++ [(t,p,q)]) q:=by
 have hk:=bL0 m s p (cN T)
 have ho:=sU m s p (cN T)
 rw [hw] at hk ho
 have hk':TkK m s p (cN T) t q:=hk
 have ho':fS t:=ho
 have hr:=wQ h
 have h8:cN T=8->t.kind=4\/t.kind=5:=fun e=>by
  rcases h.fin e with z | z
  ·omega
  ·exact aY0 m s p _ z hw
 refine⟨fun i x hx=>?_,fun x hx=>?_,fun e=>?_⟩
 ·rcases Nat.lt_trichotomy i T.length with g | g | g
  ·rw [List.getElem?_append_left g] at hx
   rw [List.take_append_of_le_length (by omega)]
   exact h.each i x hx
  ·subst g
   rw [List.getElem?_append_right lz9,Nat.sub_self] at hx
   simp at hx
   subst hx
   rw [List.take_append_of_le_length (by omega),List.take_length]
   refine⟨fun e=>?_,fun e=>?_,h8⟩
   ·have:=(hk'.rep e).1
    have k1:cN T≠8:=fun z=>by have:=h8 z;simp only at e;omega
    unfold fG at this
    simp only [Bool.or_eq_false_iff,beq_eq_false_iff_ne] at this
    omega
   ·rcases hk'.beg e with z | z
    ·left;rw [h0 z];rfl
    ·right;exact z
  ·rw [List.getElem?_append_right (by omega),List.getElem?_eq_none (by simp;omega)] at hx
   cases hx
 ·rcases List.mem_append.1 hx with z | z
  ·exact h.tok x z
  ·simp at z
   subst z
   exact⟨ho',fun e=>(hk'.rep e).2,hk'.back,hk'.set,hk'.chr⟩
 ·rw [show cN (T ++ [(t,p,q)])=t.kind by simp [cN]] at e
  obtain⟨e1,e2⟩:=hk'.fin e
  unfold lD at e2
  simp only [Bool.or_eq_true,decide_eq_true_eq] at e2
  subst e1
  rcases e2 with (z | z) | z
  ·exact .inl z
  ·exact .inr (.inl z)
  ·exact .inr (.inr z)
theorem sB(m:Md)(s:ByteArray):∀ (f p:Nat) (T T':List Tp),Stands s T p->Beside m s T p->lx m s f p T=.ok T'->∃ p',Beside m s T' p'
 | 0,p,T,T',_,_,hw=>by unfold lx at hw;cases hw
 | f+1,p,T,T',hs,hb,hw=>by
  unfold lx at hw
  split at hw
  ·rename_i hp
   have q1:=sT m s p (cN T) hp
   have q2:=sU m s p (cN T)
   cases ht:Go.Proofs.YticfnglebbakkaaGreatDoor.tok m s p (cN T) with
   | error e=>rw [ht] at hw;cases hw
   | ok x=>
    obtain⟨t,q⟩:=x
    rw [ht] at hw q1 q2
    have h1:p < q:=q1.1
    have h2:q<=s.size:=q1.2
    exact sB m s f q _ T' (hs.add h1 h2 q2) (hb.add hp (fun z=>by have:=hs.few;exact List.eq_nil_of_length_eq_zero (by omega)) ht) hw
  ·cases hw
   exact⟨p,hb⟩
theorem pX{m:Md}{s:ByteArray}{T:List Tp}(h:jU m s=.ok T):∃ p,Beside m s T p:=by
 unfold jU at h
 split at h
 ·cases h
 ·exact sB m s _ 0 [] T (Stands.nil s) ⟨fun i t hx=>(by simp at hx),fun t ht=>by(cases ht),fun e=>(by cases e)⟩ h
theorem jW{k:Nat}(h1:1<=k)(h2:k<=8):k=1\/k=2\/k=3\/k=4\/k=5\/k=6\/k=7\/k=8:=by omega
end
section
open Go Go.RowKit Go.Shelf
def rF(x:El):Array Value:=#[.int .i64 ((x.1.length:Int)+1),.agg #[.int .i64 x.2.f.k,.int .i64 x.2.f.n,.int .i64 x.2.f.mn,.int .i64 x.2.f.mx,.slice x.2.f.rq x.2.f.rs.length x.2.f.rc,.slice x.2.f.kq x.2.f.kl x.2.f.kc]]
theorem lM(par:Tr)(p:Way)(a b:List Tr):∀ i,pps par p i (a ++ b)=pps par p i a ++ pps par p (i+a.length) b:=by
 induction a with
 | nil=>intro i;rw [bT];rfl
 | cons x a ih=>intro i;rw [List.cons_append,bY,bY,ih (i+1),List.append_assoc,List.length_cons,show i+1+a.length=i+(a.length+1) by omega]
theorem mE{par:Tr}{p:Way}{ks:List Tr}{j:Nat}{u:Tr}(h:ks[j]?=some u):pps par p 0 (ks.take (j+1))=pps par p 0 (ks.take j) ++ pp ((par,j) :: p) u:=by
 have hj:=(List.getElem?_eq_some_iff.1 h).1
 rw [List.take_add_one,h,Option.toList_some,lM,bY,bT,List.append_nil,List.length_take,Nat.zero_add,Nat.min_eq_left (by omega)]
theorem aD5{par:Tr}{p:Way}{ks:List Tr}(j:Nat):pps par p 0 (ks.take j) <+: pps par p 0 ks:=by
 have:=lM par p (ks.take j) (ks.drop j) 0
 rw [List.take_append_drop] at this
 rw [this]
 exact List.prefix_append _ _
def Nn(b0 b1:Nat):Nat->Prop:=fun k=>k < b0\/b1<=k
theorem iQ{L pre:List El}{p:Way}{t:Tr}{r:List El}(h:pre ++ pp p t <+: L)(hr:r <+: pps t p 0 t.ks):pre ++ (p,t) :: r <+: L:=by
 refine List.IsPrefix.trans ?_ h
 rw [fN]
 exact(List.prefix_append_right_inj _).2 (List.cons_prefix_cons.2 ⟨rfl,hr⟩)
def yD(w0:World)(b1:Nat)(L:List El)(J Jx:List El->World->Prop)(xs:List El)(e:Ending)(V':World):Prop:=
 ∃ r:Bool,e=.returned (.bool r)/\((r=true/\J xs V'/\CK w0 V'/\b1<=V'.heap.size)\/(r=false/\∃ pre',pre' <+: L/\Jx pre' V'))
theorem bK1{w0:World}{L:List El}{l b1:Nat}{J Jx:List El->World->Prop}{B:Nat}(hJ:OwnFrom B J)(n:Nat)(hL:∀ pre V,J pre V->pre.length<=1000000)
  (hY:∀ pre x V,J pre V->pre ++ [x] <+: L->YieldAt Fence.wide (n - 1) Tryz.prog l (rF x) V fun e V'=>KeepsFrom B V V'/\((e=.returned (.bool true)/\J (pre ++ [x]) V'/\CKeep (Nn w0.heap.size b1) V V')\/(e=.returned (.bool false)/\Jx (pre ++ [x]) V'))) :
  ∀ (m:Nat) (t:Tr) (p:Way) (pre:List El) (V:World),t.sz<=m->pre ++ pp p t <+: L->TB w0 t->CK w0 V->J pre V->p.length<=pre.length->b1<=V.heap.size ->
   CallsIn Fence.wide n Tryz.prog 58 #[.agg #[.int .i64 t.f.k,.int .i64 t.f.n,.int .i64 t.f.mn,.int .i64 t.f.mx,.slice t.f.rq t.f.rs.length t.f.rc,.slice t.f.kq t.f.kl t.f.kc],.int .i64 ((p.length:Int)+1),.func (.yield l) #[] #[]] V (yD w0 b1 L J Jx (pre ++ pp p t)):=by
 intro m
 induction m with
 | zero=>intro t p pre V hm;exact absurd (lG t) (by omega)
 | succ m ih=>
  intro t p pre V hm hpre hta hck hj hpl hb1
  have hfn:∀ f,Fence.wide.fn f:=fun _=>trivial
  have IH:=aC ih
  have HL:=aC hL
  have HPRE:=aC hpre
  have HTA:=aC hta
  have HM:=aC hm
  have hlen:=hL pre V hj
  obtain⟨q,cap,hkv,hk1,hk2,hk3⟩:=hta.node.k.slice
  injection hkv with hkq hkl hkc
  subst hkq
  have HKL:=aC hkl
  have HK3:=aC hk3
  have hkm:t.ks.length<=9223372036854775807:=hk1
  clear hkl hkc hk3 hk1
  have B1:Hid (Below V.heap.size V (V.alloc (.cells #[.int .i64 t.f.k,.int .i64 t.f.n,.int .i64 t.f.mn,.int .i64 t.f.mx,.slice t.f.rq t.f.rs.length t.f.rc,.slice t.f.kq t.f.kl t.f.kc] 25))):=bz9
  have N1:Hid (BoxN (V.alloc (.cells #[.int .i64 t.f.k,.int .i64 t.f.n,.int .i64 t.f.mn,.int .i64 t.f.mx,.slice t.f.rq t.f.rs.length t.f.rc,.slice t.f.kq t.f.kl t.f.kc] 25)) V.heap.size t.f):=aE V _
  have J1:Hid (J pre (V.alloc (.cells #[.int .i64 t.f.k,.int .i64 t.f.n,.int .i64 t.f.mn,.int .i64 t.f.mx,.slice t.f.rq t.f.rs.length t.f.rc,.slice t.f.kq t.f.kl t.f.kc] 25))):=hJ.alloc _ hj
  have C1:Hid (CK w0 (V.alloc (.cells #[.int .i64 t.f.k,.int .i64 t.f.n,.int .i64 t.f.mn,.int .i64 t.f.mx,.slice t.f.rq t.f.rs.length t.f.rc,.slice t.f.kq t.f.kl t.f.kc] 25))):=hck.trans (CK.of_below B1.out)
  have Hb1:=aC hb1
  clear ih hL hpre hta hm hj hck hb1
  refine callsIn_of_wp Tryz.func58 rfl trivial ?_ rfl
  simp only [Tryz.ntmps58,List.size_toArray,List.length_cons,List.length_nil,Nat.reduceAdd,Nat.reduceSub,Array.replicate_succ,Array.replicate_zero,List.push_toArray,List.append_toArray,List.nil_append,List.cons_append]
  have cs:=N1.out.six
  obtain⟨fn,tmps,assign,body,hy,hR⟩:=hY pre (p,t) _ J1.out (iQ HPRE.out List.nil_prefix)
  simp only [rF] at hy
  obtain⟨c0,c1,c2,c3,c4,c5⟩:=cs
  simp only [Nat.zero_add] at c1 c2 c3 c4 c5
  gi_wp2
  refine⟨(fun z=>by cases z),hR.mono ?_⟩
  rintro e W3 ⟨-,(⟨rfl,hJ3,hk3⟩ | ⟨rfl,hJx3⟩)⟩
  ·have cc5:W3.cell? ⟨V.heap.size,5,none⟩=some (.slice t.f.kq t.f.kl t.f.kc):=cR hk3 (p:=⟨V.heap.size,5,none⟩) (.inr Hb1.out) c5
   have J3:=aC hJ3
   have C3:Hid (CK w0 W3):=C1.out.step ⟨hk3.size,fun i cur ty fr hi hc=>hk3.same i cur ty fr (.inl hi) hc⟩
   have S3:Hid (b1<=W3.heap.size):=Nat.le_trans Hb1.out (Nat.le_trans B1.out.size hk3.size)
   rw [HKL.out] at cc5
   clear hJ3 hk3 hy hR c0 c1 c2 c3 c4 c5 J1 C1 N1 B1
   gi_wp2
   gi_loopw [17] (fun i wr=>∃ j:Nat,j<=t.ks.length/\i=.int .i64 (j:Int)/\J (pre ++ (p,t) :: pps t p 0 (t.ks.take j)) wr/\CK w0 wr/\b1<=wr.heap.size) (fun i _=>t.ks.length - (intOf i).toNat)
   case atStart=>exact⟨0,Nat.zero_le _,rfl,by rw [List.take_zero,bT];exact J3.out,C3.out,S3.out⟩
   case round=>
    clear J3 C3 S3 cc5
    obtain⟨j,hj,rfl,hj1,hj2,hj3⟩:=hrel
    have HJ:=aC hj1
    have HC:=aC hj2
    have HS:=aC hj3
    clear hj1 hj2 hj3
    by_cases hjl:j < t.ks.length
    ·have e0:(j:Int) < (t.ks.length:Int):=by omega
     obtain⟨u,hu⟩:∃ u,t.ks[j]?=some u:=⟨_,List.getElem?_eq_getElem hjl⟩
     obtain⟨g,off,hq,hg,hsix⟩:=HK3.out j u hu
     rw [hq]
     have HU:=aC hu
     have hin:u∈t.ks:=List.mem_of_getElem? hu
     obtain⟨c0,c1,c2,c3,c4,c5⟩:=hsix.ck HC.out hg
     have B4:Hid (Below wr.heap.size wr (wr.alloc (.cells #[.int .i64 u.f.k,.int .i64 u.f.n,.int .i64 u.f.mn,.int .i64 u.f.mx,.slice u.f.rq u.f.rs.length u.f.rc,.slice u.f.kq u.f.kl u.f.kc] 25))):=bz9
     have N4:Hid (BoxN (wr.alloc (.cells #[.int .i64 u.f.k,.int .i64 u.f.n,.int .i64 u.f.mn,.int .i64 u.f.mx,.slice u.f.rq u.f.rs.length u.f.rc,.slice u.f.kq u.f.kl u.f.kc] 25)) wr.heap.size u.f):=aE wr _
     obtain⟨d0,d1,d2,d3,d4,d5⟩:=N4.out.six
     simp only [Nat.zero_add] at d1 d2 d3 d4 d5
     have hj1:=HL.out _ _ HJ.out
     have IHU:=aC (IH.out u ((t,j) :: p) (pre ++ (p,t) :: pps t p 0 (t.ks.take j)) (wr.alloc (.cells #[.int .i64 u.f.k,.int .i64 u.f.n,.int .i64 u.f.mn,.int .i64 u.f.mx,.slice u.f.rq u.f.rs.length u.f.rc,.slice u.f.kq u.f.kl u.f.kc] 25)) (by have:=nF hin;have:=HM.out;omega)
      (by rw [List.append_assoc,List.cons_append,<- mE hu];exact iQ HPRE.out (aD5 _)) (HTA.out.kid hin) (HC.out.trans (CK.of_below B4.out)) (hJ.alloc _ HJ.out) (by simp;omega) (Nat.le_trans HS.out B4.out.size))
     have e1:((((t,j) :: p).length:Nat):Int)+1=((p.length:Int)+1)+1:=by simp
     rw [e1] at IHU
     clear hsix hu
     gi_wp2
     refine⟨(fun z=>by cases z),(callsIn_wide.2 (callsIn_wide.1 IHU.out)).mono ?_⟩
     rintro e W5 ⟨r5,rfl,h5⟩
     have H5:=aC h5
     clear h5 c0 c1 c2 c3 c4 c5 d0 d1 d2 d3 d4 d5 IHU N4 B4
     cases r5 with
     | true=>
      rcases H5.out with⟨-,h51,h52,h53⟩ | ⟨z,-⟩
      ·have HN:Hid (J (pre ++ (p,t) :: pps t p 0 (t.ks.take (j+1))) W5):=(by rw [mE HU.out,<- List.cons_append,<- List.append_assoc];exact h51)
       have H52:=aC h52
       have H53:=aC h53
       clear h51 h52 h53 H5
       gi_wp2
       go_roundw
       case rel=>exact⟨j+1,by omega,by go_num,HN.out,H52.out,H53.out⟩
       case measure=>simp only [intOf];omega
      ·cases z
     | false=>
      rcases H5.out with⟨z,-⟩ | ⟨-,pre',h51,h52⟩
      ·cases z
      ·have HN:=aC (⟨pre',h51,h52⟩:∃ pre',pre' <+: L/\Jx pre' W5)
       clear H5 h51 h52
       gi_wp2
       go_ret
       exact⟨false,rfl,.inr ⟨rfl,HN.out⟩⟩
    ·have e0:¬ (j:Int) < (t.ks.length:Int):=by omega
     have HN:Hid (J (pre ++ pp p t) wr):=(by rw [fN,show t.ks=t.ks.take j by rw [List.take_of_length_le (by omega)]];exact HJ.out)
     gi_wp2
     go_ret
     exact⟨true,rfl,.inl ⟨rfl,HN.out,HC.out,HS.out⟩⟩
  ·have HN:=aC hJx3
   clear hJx3
   gi_wp2
   go_ret
   exact⟨false,rfl,.inr ⟨rfl,_,iQ HPRE.out List.nil_prefix,HN.out⟩⟩
theorem tQ(f:Fl)(w:World) :
  Calls Tryz.prog 26 #[.agg #[.int .i64 f.k,.int .i64 f.n,.int .i64 f.mn,.int .i64 f.mx,.slice f.rq f.rs.length f.rc,.slice f.kq f.kl f.kc]] w fun e w'=>e=.returned (.func (.func 57) #[] #[.pointer (some ⟨w.heap.size,0,none⟩)])/\w'=w.alloc (.cells #[.int .i64 f.k,.int .i64 f.n,.int .i64 f.mn,.int .i64 f.mx,.slice f.rq f.rs.length f.rc,.slice f.kq f.kl f.kc] 25):=by
 go_enter Tryz.func26,Tryz.ntmps26
 go_wp2
 go_ret
 exact⟨rfl,rfl⟩
def qR(t:Tr)(pre:List El)(x:El)(_:World):Prop:=pre ++ [x] <+: pp [] t
theorem vX(n:Nat){w0 w:World}{b:Nat}{t:Tr}(hB:BoxN w b t.f)(hta:TB w0 t)(hck:CK w0 w) :
  bG3 n Tryz.prog 57 #[.pointer (some ⟨b,0,none⟩)] rF (Nn w0.heap.size w.heap.size) (qR t) (fun xs=>xs=pp [] t) (fun pre=>pre <+: pp [] t) w:=by
 intro l J Jx V hV hJ hJx hb hY h0
 have hfn:∀ f,Fence.wide.fn f:=fun _=>trivial
 have D:=aC (bK1 (w0:=w0) (L:=pp [] t) (b1:=w.heap.size) (Jx:=Jx) hJ n hb (fun pre x V=>hY pre x V) t.sz t [] [] V lz9 (by rw [List.nil_append];exact List.prefix_refl _) hta (hck.step ⟨hV.size,fun k _ _ _ _ hc=>(hV.block k (aA hc)).trans hc⟩) h0 lz9 hV.size)
 have HB:Hid (BoxN V b t.f):=(hV.block _ (aA hB)).trans hB
 obtain⟨c0,c1,c2,c3,c4,c5⟩:=HB.out.six
 simp only [Nat.zero_add] at c1 c2 c3 c4 c5
 clear hJ hJx hb hY h0 hB hta hck hV
 refine callsIn_of_wp Tryz.func57 rfl trivial ?_ rfl
 simp only [Tryz.ntmps57,List.size_toArray,List.length_cons,List.length_nil,Nat.reduceAdd,Nat.reduceSub,Array.replicate_succ,Array.replicate_zero,List.push_toArray,List.append_toArray,List.nil_append,List.cons_append]
 gi_wp2
 refine⟨(fun z=>by cases z),(callsIn_wide.2 (callsIn_wide.1 D.out)).mono ?_⟩
 rintro e W5 ⟨r5,rfl,h5⟩
 have H5:=aC h5
 clear h5 D
 gi_wp2
 go_end0
 refine⟨⟨_,rfl⟩,?_⟩
 rcases H5.out with⟨-,h51,-,-⟩ | ⟨-,pre',h51,h52⟩
 ·exact .inl ⟨_,rfl,by rw [List.nil_append] at h51;exact h51⟩
 ·exact .inr ⟨pre',h51,h52⟩
theorem aV6{w0 W W':World}{B:Nat}{row:Option Nat}(h:CK w0 W)(hg:W.grownBy W' row)(hr:∀ r,row=some r->B<=r/\∃ o:Obj,W.heap[r]?=some o/\o.isCells=false):CK w0 W':=
 ⟨Nat.le_trans h.size hg.size,fun k cur t fr hk hc=>cB hg hr (h.same k cur t fr hk hc)⟩
def eI(a:Act)(q d:Nat)(x:El):Act:={ tmps:=(a.tmps.setIfInBounds q (.int .i64 ((x.1.length:Int)+1))).setIfInBounds d (.agg #[.int .i64 x.2.f.k,.int .i64 x.2.f.n,.int .i64 x.2.f.mn,.int .i64 x.2.f.mx,.slice x.2.f.rq x.2.f.rs.length x.2.f.rc,.slice x.2.f.kq x.2.f.kl x.2.f.kc]),defers:=[] }
def dX(a:Act)(D:Nat):Act:={ a with defers:={ target:=.collected D,args:=#[] } :: a.defers }
theorem aP5{g:Operand}{ps:Array Tmp}{assign body:Code}{Q:Exit->Act->World->Prop}{a:Act}{w:World}{n:Nat}(hn:1<=n)(q d:Nat)(b:Nat){w0:World}{t:Tr}
  (hg:a.eval g=.func (.func 57) #[] #[.pointer (some ⟨b,0,none⟩)]) (hps:ps=#[q,d]) (hB:BoxN w b t.f) (hta:TB w0 t) (hck:CK w0 w)
  (I:List El->World->Prop) (Ix:Code->List El->World->Prop) (hI:OwnFrom w.heap.size I) (hIx:∀ c,OwnFrom w.heap.size (Ix c)) (hbd:∀ pre W,I pre W->pre.length<=1000000) (h0:I [] w)
  (Ax:Act->El->Act->World->Prop) (hAx:∀ y x a',OwnFrom w.heap.size (fun (_:Unit) W=>Ax y x a' W))
  (hassign:∀ (l:Nat) (pre:List El) (x:El) (W:World) (K:Act->World->Prop),I pre W->CK w0 W->w.heap.size<=W.heap.size->qR t pre x W->(∀ a' W',Below W.heap.size W W'->Ax (eI a q d x) x a' W'->K a' W') ->
   assign.wpIn (Fence.wide.inRound l) (n - 1 - 1) Tryz.prog (Exit.then K (fun _ _ _=>False)) (eI a q d x) W)
  (hbody:∀ (l:Nat) (pre:List El) (x:El) (a':Act) (V:World),I pre V->CK w0 V->w.heap.size<=V.heap.size->qR t pre x V->Ax (eI a q d x) x a' V->body.wpIn (Fence.wide.inRound l) (n - 1 - 1) Tryz.prog (ownPostG w.heap.size (CKeep (Nn w0.heap.size w.heap.size)) I Ix (pre ++ [x]) V) a' V)
  (hdone:∀ (D:Nat) (V:World),w.heap.size<=D->I (pp [] t) V->CK w0 V->V.heap[D]?=some (.deferred (some []))->Q .normal (dX a D) V)
  (hstop:∀ (D:Nat) (c:Code) (pre:List El) (V:World),w.heap.size<=D->pre <+: pp [] t->Ix c pre V->V.heap[D]?=some (.deferred (some []))->c.wpIn Fence.wide n Tryz.prog Q (dX a D) V) :
  (Code.rangeFunc g ps assign body).wpIn Fence.wide n Tryz.prog Q a w:=by
 subst hps
 refine yZ (α:=El) hn (gf:=57) hg (enters_of Tryz.func57 (by kernel_rfl) rfl) (bP:=rF) (fun _=>rfl)
  (vX (n - 1) hB hta hck) (fun pre V=>I pre V/\CK w0 V/\w.heap.size<=V.heap.size) Ix ?_ hIx (fun pre x _ _ _ _ h _ _=>h) (fun pre W h=>hbd pre W h.1) ⟨h0,hck,Nat.le_refl _⟩ (fun x=>Ax (eI a q d x) x) (fun x=>hAx _ x) ?_ ?_ ?_ hstop
 ·intro pre A A' row hi hg hr
  exact⟨hI pre A A' row hi.1 hg hr,aV6 hi.2.1 hg hr,Nat.le_trans hi.2.2 hg.size⟩
 ·intro l pre x V K hi ht hK
  have:=hassign l pre x V K hi.1 hi.2.1 hi.2.2 ht hK
  simpa [rF,eI] using this
 ·intro l pre x a' V hi ht hax
  refine wpIn_mono (hbody l pre x a' V hi.1 hi.2.1 hi.2.2 ht hax) fun e a3 W3 hp=>?_
  cases e with
  | normal=>exact⟨hp.1,hp.2.1,hp.2.2,hi.2.1.step ⟨hp.2.1.size,fun k cur ty fr hk hc=>hp.2.1.same k cur ty fr (.inl hk) hc⟩,Nat.le_trans hi.2.2 hp.1.size⟩
  | ret=>exact hp
  | exit id=>exact hp
  | goto t=>exact hp
  | panic ch=>exact hp
  | outgrown=>exact hp
 ·rintro D xs V hD rfl hi hK
  exact hdone D V hD hi.1 hi.2.1 hK
def Ax0(y:Act)(_:El)(a':Act)(_:World):Prop:=a'=y
theorem bE3(B:Nat)(y:Act)(x:El)(a':Act):OwnFrom B (fun (_:Unit) W=>Ax0 y x a' W):=fun _ _ _ _ h _ _=>h
end
section
open Go Go.RowKit Go.Shelf
attribute [local go_sem] Oper.semAt_some
def BoxI(W:World)(b:Nat)(x:Int):Prop:=W.heap[b]?=some (.cells #[.int .i64 x] 3 (0,0))
theorem BoxI.cell{W:World}{b:Nat}{x:Int}(h:BoxI W b x):W.cell? ⟨b,0,none⟩=some (.int .i64 x):=aB h (i:=0) rfl
theorem BoxI.row{W W':World}{b B:Nat}{x:Int}{row:Option Nat}(h:BoxI W b x)(hg:W.grownBy W' row)(hr:∀ r,row=some r->B<=r/\∃ o:Obj,W.heap[r]?=some o/\o.isCells=false):BoxI W' b x:=cB hg hr h
theorem BoxI.set{W:World}{b:Nat}{x:Int}(h:BoxI W b x)(y:Int):BoxI (W.setCell ⟨b,0,none⟩ (.int .i64 y)) b y:=aL h 0 _
theorem BoxI.fr{W:World}{b:Nat}(v:Value):Fr (fun z=>z=b) W (W.setCell ⟨b,0,none⟩ v):=(Fr.refl (fun z=>z=b) W).setCell (p:=⟨b,0,none⟩) rfl _
def rH(t:Tr):Nat:=min (pp [] t).length 2001
theorem gG{n B:Nat}{w W W':World}{row:Option Nat}(h:Below n w W)(hn:n<=w.heap.size)(hB:n<=B)(hg:W.grownBy W' row)(hr:∀ r,row=some r->B<=r/\∃ o:Obj,W.heap[r]?=some o/\o.isCells=false):Below n w W':=
 h.trans ⟨hg.os,hg.tape,hg.output,hg.size,fun k hk=>hg.block k (by have:=h.size;omega) (fun e=>by have:=(hr k e.symm).1;omega)⟩
theorem jJ{n:Nat}{w W:World}{D:Nat}(o:Obj)(h:Below n w W)(hD:n<=D):Below n w (W.putObj D o):=
 h.trans ⟨rfl,rfl,rfl,(grownBy_putObj' W D o).size,fun k hk=>World.putObj_heap_other (by omega)⟩
theorem bK2(n:Nat)(hn:3<=n){w:World}{t:Tr}(hta:TB w t) :
  CallsIn Fence.wide n Tryz.prog 76 #[.agg #[.int .i64 t.f.k,.int .i64 t.f.n,.int .i64 t.f.mn,.int .i64 t.f.mx,.slice t.f.rq t.f.rs.length t.f.rc,.slice t.f.kq t.f.kl t.f.kc]] w fun e w'=>e=.returned (.int .i64 (rH t:Int))/\Below w.heap.size w w':=by
 have hfn:∀ f,Fence.wide.fn f:=fun _=>trivial
 refine callsIn_of_wp_marks Tryz.func76 rfl trivial ?_ rfl
 simp only [Tryz.ntmps76,List.size_toArray,List.length_cons,List.length_nil,Nat.reduceAdd,Nat.reduceSub,Array.replicate_succ,Array.replicate_zero,List.push_toArray,List.append_toArray,List.nil_append,List.cons_append]
 refine wpIn_wide.2 ?_
 have HTA:=aC hta
 have B1:Hid (Below w.heap.size w ((w.alloc (.cells #[.int .i64 t.f.k,.int .i64 t.f.n,.int .i64 t.f.mn,.int .i64 t.f.mx,.slice t.f.rq t.f.rs.length t.f.rc,.slice t.f.kq t.f.kl t.f.kc] 25)).alloc (.cells #[.int .i64 0] 3))):=(bz9).alloc (by simp) _
 have N1:Hid (BoxN ((w.alloc (.cells #[.int .i64 t.f.k,.int .i64 t.f.n,.int .i64 t.f.mn,.int .i64 t.f.mx,.slice t.f.rq t.f.rs.length t.f.rc,.slice t.f.kq t.f.kl t.f.kc] 25)).alloc (.cells #[.int .i64 0] 3)) w.heap.size t.f):=(Below.heap_alloc _ _ _ (by simp)).trans (aE w _)
 have N2:Hid (BoxI ((w.alloc (.cells #[.int .i64 t.f.k,.int .i64 t.f.n,.int .i64 t.f.mn,.int .i64 t.f.mx,.slice t.f.rq t.f.rs.length t.f.rc,.slice t.f.kq t.f.kl t.f.kc] 25)).alloc (.cells #[.int .i64 0] 3)) (w.heap.size+1) 0):=(by
  have:=aE (w.alloc (.cells #[.int .i64 t.f.k,.int .i64 t.f.n,.int .i64 t.f.mn,.int .i64 t.f.mx,.slice t.f.rq t.f.rs.length t.f.rc,.slice t.f.kq t.f.kl t.f.kc] 25)) (.cells #[.int .i64 0] 3)
  rwa [World.size_alloc] at this)
 obtain⟨c0,c1,c2,c3,c4,c5⟩:=N1.out.six
 simp only [Nat.zero_add] at c1 c2 c3 c4 c5
 go_wp2_with (go_at_call 26;(with_reducible refine(tQ _ _).mono ?_);rintro e w3 ⟨rfl,rfl⟩)
 have N3:BoxN (((w.alloc (.cells #[.int .i64 t.f.k,.int .i64 t.f.n,.int .i64 t.f.mn,.int .i64 t.f.mx,.slice t.f.rq t.f.rs.length t.f.rc,.slice t.f.kq t.f.kl t.f.kc] 25)).alloc (.cells #[.int .i64 0] 3)).alloc (.cells #[.int .i64 t.f.k,.int .i64 t.f.n,.int .i64 t.f.mn,.int .i64 t.f.mx,.slice t.f.rq t.f.rs.length t.f.rc,.slice t.f.kq t.f.kl t.f.kc] 25)) (w.heap.size+1+1) t.f:=(by
  have:=aE ((w.alloc (.cells #[.int .i64 t.f.k,.int .i64 t.f.n,.int .i64 t.f.mn,.int .i64 t.f.mx,.slice t.f.rq t.f.rs.length t.f.rc,.slice t.f.kq t.f.kl t.f.kc] 25)).alloc (.cells #[.int .i64 0] 3)) (.cells #[.int .i64 t.f.k,.int .i64 t.f.n,.int .i64 t.f.mn,.int .i64 t.f.mx,.slice t.f.rq t.f.rs.length t.f.rc,.slice t.f.kq t.f.kl t.f.kc] 25)
  rwa [World.size_alloc,World.size_alloc] at this)
 have I3:BoxI (((w.alloc (.cells #[.int .i64 t.f.k,.int .i64 t.f.n,.int .i64 t.f.mn,.int .i64 t.f.mx,.slice t.f.rq t.f.rs.length t.f.rc,.slice t.f.kq t.f.kl t.f.kc] 25)).alloc (.cells #[.int .i64 0] 3)).alloc (.cells #[.int .i64 t.f.k,.int .i64 t.f.n,.int .i64 t.f.mn,.int .i64 t.f.mx,.slice t.f.rq t.f.rs.length t.f.rc,.slice t.f.kq t.f.kl t.f.kc] 25)) (w.heap.size+1) 0:=(Below.heap_alloc _ _ _ (by simp)).trans N2.out
 have B3:Below w.heap.size w (((w.alloc (.cells #[.int .i64 t.f.k,.int .i64 t.f.n,.int .i64 t.f.mn,.int .i64 t.f.mx,.slice t.f.rq t.f.rs.length t.f.rc,.slice t.f.kq t.f.kl t.f.kc] 25)).alloc (.cells #[.int .i64 0] 3)).alloc (.cells #[.int .i64 t.f.k,.int .i64 t.f.n,.int .i64 t.f.mn,.int .i64 t.f.mx,.slice t.f.rq t.f.rs.length t.f.rc,.slice t.f.kq t.f.kl t.f.kc] 25)):=B1.out.alloc (by simp;omega) _
 generalize (((w.alloc (.cells #[.int .i64 t.f.k,.int .i64 t.f.n,.int .i64 t.f.mn,.int .i64 t.f.mx,.slice t.f.rq t.f.rs.length t.f.rc,.slice t.f.kq t.f.kl t.f.kc] 25)).alloc (.cells #[.int .i64 0] 3)).alloc (.cells #[.int .i64 t.f.k,.int .i64 t.f.n,.int .i64 t.f.mn,.int .i64 t.f.mx,.slice t.f.rq t.f.rs.length t.f.rc,.slice t.f.kq t.f.kl t.f.kc] 25))=w4 at N3 I3 B3 ⊢
 have L3:=aA N3
 have L4:=aA I3
 obtain⟨bi,hbi⟩:∃ bi,w.heap.size+1=bi:=⟨_,rfl⟩
 rw [hbi] at I3 N3 L3 L4 ⊢
 obtain⟨bn,hbn⟩:∃ bn,bi+1=bn:=⟨_,rfl⟩
 rw [hbn] at N3 L3 ⊢
 have hwi:w.heap.size<=bi:=by omega
 clear N1 N2 B1 c0 c1 c2 c3 c4 c5 hbi hbn
 refine(wpIn_wide (n:=n)).1 ?_
 refine aP5 (by omega) 6 7 bn rfl rfl N3 HTA.out (CK.of_below B3) (fun pre V=>BoxI V bi (pre.length:Int)/\pre.length<=2000/\Below w.heap.size w V) (fun c pre V=>c=.exit 0/\BoxI V bi 2001/\pre.length=2001/\Below w.heap.size w V)
  ?_ ?_ (fun pre W h=>by omega) ⟨I3,by simp,B3⟩ Ax0 (bE3 _) ?_ ?_ ?_ ?_
 ·rintro pre A A' row ⟨h1,h2,h3⟩ hg hr
  exact⟨h1.row hg hr,h2,gG h3 lz9 B3.size hg hr⟩
 ·rintro c pre A A' row ⟨h0,h1,h2,h3⟩ hg hr
  exact⟨h0,h1.row hg hr,h2,gG h3 lz9 B3.size hg hr⟩
 ·intro l pre x V K _ _ _ _ hK
  gi_wp2
  exact hK _ _ (Below.refl _ _) rfl
 ·rintro l pre x a' V ⟨h1,h2,h3⟩ hck hsz ht rfl
  have H1:=aC h1
  have H3:=aC h3
  have k0:=h1.cell
  have fz:=aQ h1 0
  have HS:=aC hsz
  clear h1 h3 hck ht hsz
  have F1:Hid (Fr (fun z=>z=bi) V (V.setCell ⟨bi,0,none⟩ (.int .i64 ((pre.length:Int)+1)))):=BoxI.fr _
  have X1:Hid (BoxI (V.setCell ⟨bi,0,none⟩ (.int .i64 ((pre.length:Int)+1))) bi ((pre.length:Int)+1)):=H1.out.set _
  have HP:Hid (KeepsFrom w4.heap.size V (V.setCell ⟨bi,0,none⟩ (.int .i64 ((pre.length:Int)+1)))/\CKeep (Nn w.heap.size w4.heap.size) V (V.setCell ⟨bi,0,none⟩ (.int .i64 ((pre.length:Int)+1)))/\Below w.heap.size w (V.setCell ⟨bi,0,none⟩ (.int .i64 ((pre.length:Int)+1)))):=
   ⟨F1.out.keepsFrom (fun k hk=>by omega),F1.out.ckeep (fun k hk=>by rintro (z | z) <;> omega),bJ H3.out F1.out lz9 (fun k e=>by omega)⟩
  have k1:=X1.out.cell
  simp only [eI]
  by_cases hlt:2000<=pre.length
  ·have e1:(2000:Int) < (pre.length:Int)+1:=by omega
   gi_wp2
   refine⟨HP.out.1,rfl,by have:=X1.out;rwa [show (pre.length:Int)+1=2001 by omega] at this ⊢,by simp;omega,HP.out.2.2⟩
  ·have e1:¬ (2000:Int) < (pre.length:Int)+1:=by omega
   gi_wp2
   refine⟨HP.out.1,HP.out.2.1,by simpa using X1.out,by simp;omega,HP.out.2.2⟩
 ·rintro D V hD ⟨h1,h2,h3⟩ hck hK
  have k0:=h1.cell
  have e1:rH t=(pp [] t).length:=by unfold rH;omega
  have H3:=aC h3
  have HK:=aC hK
  have HD:=aC hD
  simp only [dX]
  go_wp2
  refine⟨by simp,.inl ⟨_,_,rfl,run_takeDeferred HK.out,?_⟩⟩
  refine⟨.int .i64 (rH t:Int),by simp [results,Tryz.results76,go_sem,e1],rfl,jJ _ H3.out (Nat.le_trans B3.size HD.out)⟩
 ·rintro D c pre V hD hpre ⟨rfl,h1,h2,h3⟩ hK
  have k0:=h1.cell
  have e1:rH t=2001:=by unfold rH;have:=hpre.length_le;omega
  have H3:=aC h3
  have HK:=aC hK
  have HD:=aC hD
  refine(wpIn_wide (n:=n)).2 ?_
  simp only [dX]
  go_wp2
  refine⟨by simp,.inl ⟨_,_,rfl,run_takeDeferred HK.out,?_⟩⟩
  refine⟨.int .i64 (rH t:Int),by simp [results,Tryz.results76,go_sem,e1],rfl,jJ _ H3.out (Nat.le_trans B3.size HD.out)⟩
theorem bM5{w:World}{t:Tr}(hta:TB w t):Calls Tryz.prog 76 #[.agg #[.int .i64 t.f.k,.int .i64 t.f.n,.int .i64 t.f.mn,.int .i64 t.f.mx,.slice t.f.rq t.f.rs.length t.f.rc,.slice t.f.kq t.f.kl t.f.kc]] w fun e w'=>e=.returned (.int .i64 (rH t:Int))/\Below w.heap.size w w':=callsIn_wide.1 (bK2 3 (by decide) hta)
theorem rN{w:World}{t:Tr}(hta:TB w t):Calls Tryz.prog 33 #[.agg #[.int .i64 t.f.k,.int .i64 t.f.n,.int .i64 t.f.mn,.int .i64 t.f.mx,.slice t.f.rq t.f.rs.length t.f.rc,.slice t.f.kq t.f.kl t.f.kc]] w fun e w'=>e=.returned (.bool (decide (2000 < (pp [] t).length)))/\Below w.heap.size w w':=by
 have HTA:=aC hta
 have B1:Hid (Below w.heap.size w (w.alloc (.cells #[.int .i64 t.f.k,.int .i64 t.f.n,.int .i64 t.f.mn,.int .i64 t.f.mx,.slice t.f.rq t.f.rs.length t.f.rc,.slice t.f.kq t.f.kl t.f.kc] 25))):=bz9
 have N1:Hid (BoxN (w.alloc (.cells #[.int .i64 t.f.k,.int .i64 t.f.n,.int .i64 t.f.mn,.int .i64 t.f.mx,.slice t.f.rq t.f.rs.length t.f.rc,.slice t.f.kq t.f.kl t.f.kc] 25)) w.heap.size t.f):=aE w _
 obtain⟨c0,c1,c2,c3,c4,c5⟩:=N1.out.six
 simp only [Nat.zero_add] at c1 c2 c3 c4 c5
 have e1:(decide ((2000:Int) < (rH t:Int)))=decide (2000 < (pp [] t).length):=by
  rw [decide_eq_decide]
  unfold rH
  omega
 clear hta
 go_enter Tryz.func33,Tryz.ntmps33
 go_wp2_with (go_at_call 76;(with_reducible refine(bM5 (HTA.out.kept B1.out)).mono ?_);rintro e w3 ⟨rfl,h3⟩;have B3:Hid (Below w.heap.size w w3):=aD B1.out h3 lz9;clear h3)
 go_ret
 exact⟨by rw [<- e1];rfl,B3.out⟩
end
structure cY where
 f:Fl
 s:Int
def Seven(W:World)(g o:Nat)(x:cY):Prop:=Six W g o x.f/\W.cell? ⟨g,o+6,none⟩=some (.int .i64 x.s)
structure CB(W:World)(b:Nat)(c f:Bool)(ah gr:Int)(A:Nat->cY):Prop where
 blk:∃ cur,W.heap[b]?=some (.cells cur 63 (0,0))
 c0:W.cell? ⟨b,0,none⟩=some (.bool c)
 c1:W.cell? ⟨b,1,none⟩=some (.bool f)
 c2:W.cell? ⟨b,2,none⟩=some (.int .i64 ah)
 c3:W.cell? ⟨b,3,none⟩=some (.int .i64 gr)
 sp:∀ d,d < 41->Seven W b (4+d * 7) (A d)
theorem CB.lt{W:World}{b:Nat}{c f:Bool}{ah gr:Int}{A:Nat->cY}(h:CB W b c f ah gr A):b < W.heap.size:=by
 obtain⟨cur,h⟩:=h.blk
 exact aA h
theorem CB.ck{N:Nat->Prop}{W W':World}{b:Nat}{c f:Bool}{ah gr:Int}{A:Nat->cY}(h:CB W b c f ah gr A)(hk:CKeep N W W')(hb:N b):CB W' b c f ah gr A:=by
 obtain⟨cur,hc⟩:=h.blk
 exact⟨⟨cur,hk.same _ _ _ _ hb hc⟩,cR hk (p:=⟨b,0,none⟩) hb h.c0,cR hk (p:=⟨b,1,none⟩) hb h.c1,cR hk (p:=⟨b,2,none⟩) hb h.c2,cR hk (p:=⟨b,3,none⟩) hb h.c3,fun d hd=>⟨(h.sp d hd).1.ck hk hb,cR hk (p:=⟨b,4+d * 7+6,none⟩) hb (h.sp d hd).2⟩⟩
theorem CB.kept{W W':World}{b:Nat}{c f:Bool}{ah gr:Int}{A:Nat->cY}(h:CB W b c f ah gr A)(hb:Below W.heap.size W W'):CB W' b c f ah gr A:=h.ck (CK.of_below hb) h.lt
theorem CB.row{W W':World}{b B:Nat}{c f:Bool}{ah gr:Int}{A:Nat->cY}{row:Option Nat}(h:CB W b c f ah gr A)(hg:W.grownBy W' row)(hr:∀ r,row=some r->B<=r/\∃ o:Obj,W.heap[r]?=some o/\o.isCells=false):CB W' b c f ah gr A:=
 h.ck (N:=fun _=>True) ⟨hg.size,fun _ _ _ _ _ hc=>cB hg hr hc⟩ trivial
theorem bI3{b i j:Nat}(h:i≠j):(⟨b,i,none⟩:Addr)≠⟨b,j,none⟩:=fun e=>h (by injection e)
theorem aF{W:World}{b i j:Nat}{u v:Value}(h:W.cell? ⟨b,i,none⟩=some v)(hij:i≠j):(W.setCell ⟨b,j,none⟩ u).cell? ⟨b,i,none⟩=some v:=by
 rw [World.cell?_setCell_other]
 ·exact h
 ·exact bI3 hij.symm
theorem Six.off{W:World}{b o j:Nat}{u:Value}{f:Fl}(h:Six W b o f)(hj:j < o\/o+6<=j):Six (W.setCell ⟨b,j,none⟩ u) b o f:=
 ⟨aF h.1 (by omega),aF h.2.1 (by omega),aF h.2.2.1 (by omega),aF h.2.2.2.1 (by omega),aF h.2.2.2.2.1 (by omega),aF h.2.2.2.2.2 (by omega)⟩
theorem bU{W:World}{b:Nat}{t:TypeId}(h:∃ cur,W.heap[b]?=some (.cells cur t (0,0)))(j:Nat)(u:Value):∃ cur,(W.setCell ⟨b,j,none⟩ u).heap[b]?=some (.cells cur t (0,0)):=by
 obtain⟨cur,hc⟩:=h
 exact⟨_,aL hc j u⟩
theorem Seven.off{W:World}{b o j:Nat}{u:Value}{x:cY}(h:Seven W b o x)(hj:j < o\/o+7<=j):Seven (W.setCell ⟨b,j,none⟩ u) b o x:=
 ⟨h.1.off (by omega),aF h.2 (by omega)⟩
theorem CB.setAh{W:World}{b:Nat}{c f:Bool}{ah gr:Int}{A:Nat->cY}(h:CB W b c f ah gr A)(x:Int):CB (W.setCell ⟨b,2,none⟩ (.int .i64 x)) b c f x gr A:=
 ⟨bU h.blk _ _,aF h.c0 (by omega),aF h.c1 (by omega),World.cell?_setCell_same _ _ _ h.c2,aF h.c3 (by omega),fun d hd=>(h.sp d hd).off (by omega)⟩
theorem CB.setGr{W:World}{b:Nat}{c f:Bool}{ah gr:Int}{A:Nat->cY}(h:CB W b c f ah gr A)(x:Int):CB (W.setCell ⟨b,3,none⟩ (.int .i64 x)) b c f ah x A:=
 ⟨bU h.blk _ _,aF h.c0 (by omega),aF h.c1 (by omega),aF h.c2 (by omega),World.cell?_setCell_same _ _ _ h.c3,fun d hd=>(h.sp d hd).off (by omega)⟩
def nH(A:Nat->cY)(d:Nat)(x:cY):Nat->cY:=fun i=>if i=d then x else A i
theorem CB.setSeen{W:World}{b:Nat}{c f:Bool}{ah gr:Int}{A:Nat->cY}(h:CB W b c f ah gr A){d:Nat}(hd:d < 41)(x:Int):CB (W.setCell ⟨b,4+d * 7+6,none⟩ (.int .i64 x)) b c f ah gr (nH A d ⟨(A d).f,x⟩):=
 ⟨bU h.blk _ _,aF h.c0 (by omega),aF h.c1 (by omega),aF h.c2 (by omega),aF h.c3 (by omega),fun i hi=>by
  unfold nH
  by_cases e:i=d
  ·subst e
   rw [if_pos rfl]
   exact⟨(h.sp i hi).1.off (by omega),World.cell?_setCell_same _ _ _ (h.sp i hi).2⟩
  ·rw [if_neg e]
   exact(h.sp i hi).off (by omega)⟩
def jQ(W:World)(b o:Nat)(x:cY):World:=
 ((((((W.setCell ⟨b,o,none⟩ (.int .i64 x.f.k)).setCell ⟨b,o+1,none⟩ (.int .i64 x.f.n)).setCell ⟨b,o+2,none⟩ (.int .i64 x.f.mn)).setCell ⟨b,o+3,none⟩ (.int .i64 x.f.mx)).setCell ⟨b,o+4,none⟩ (.slice x.f.rq x.f.rs.length x.f.rc)).setCell ⟨b,o+5,none⟩ (.slice x.f.kq x.f.kl x.f.kc)).setCell ⟨b,o+6,none⟩ (.int .i64 x.s)
theorem CB.setSpot{W:World}{b:Nat}{c f:Bool}{ah gr:Int}{A:Nat->cY}(h:CB W b c f ah gr A){d:Nat}(hd:d < 41)(x:cY):CB (jQ W b (4+d * 7) x) b c f ah gr (nH A d x):=by
 have off:∀ {i:Nat} {v:Value},W.cell? ⟨b,i,none⟩=some v->(i < 4+d * 7\/4+d * 7+7<=i)->(jQ W b (4+d * 7) x).cell? ⟨b,i,none⟩=some v:=by
  intro i v hv hi
  unfold jQ
  exact aF (aF (aF (aF (aF (aF (aF hv (by omega)) (by omega)) (by omega)) (by omega)) (by omega)) (by omega)) (by omega)
 refine⟨?_,off h.c0 (by omega),off h.c1 (by omega),off h.c2 (by omega),off h.c3 (by omega),fun i hi=>?_⟩
 ·unfold jQ
  exact bU (bU (bU (bU (bU (bU (bU h.blk _ _) _ _) _ _) _ _) _ _) _ _) _ _
 ·unfold nH
  by_cases e:i=d
  ·subst e
   rw [if_pos rfl]
   obtain⟨⟨k0,k1,k2,k3,k4,k5⟩,k6⟩:=h.sp i hi
   unfold jQ
   refine⟨⟨?_,?_,?_,?_,?_,?_⟩,?_⟩
   ·exact aF (aF (aF (aF (aF (aF (World.cell?_setCell_same _ _ _ k0) (by omega)) (by omega)) (by omega)) (by omega)) (by omega)) (by omega)
   ·exact aF (aF (aF (aF (aF (World.cell?_setCell_same _ _ _ (aF k1 (by omega))) (by omega)) (by omega)) (by omega)) (by omega)) (by omega)
   ·exact aF (aF (aF (aF (World.cell?_setCell_same _ _ _ (aF (aF k2 (by omega)) (by omega))) (by omega)) (by omega)) (by omega)) (by omega)
   ·exact aF (aF (aF (World.cell?_setCell_same _ _ _ (aF (aF (aF k3 (by omega)) (by omega)) (by omega))) (by omega)) (by omega)) (by omega)
   ·exact aF (aF (World.cell?_setCell_same _ _ _ (aF (aF (aF (aF k4 (by omega)) (by omega)) (by omega)) (by omega))) (by omega)) (by omega)
   ·exact aF (World.cell?_setCell_same _ _ _ (aF (aF (aF (aF (aF k5 (by omega)) (by omega)) (by omega)) (by omega)) (by omega))) (by omega)
   ·exact World.cell?_setCell_same _ _ _ (aF (aF (aF (aF (aF (aF k6 (by omega)) (by omega)) (by omega)) (by omega)) (by omega)) (by omega))
  ·rw [if_neg e]
   obtain⟨⟨k0,k1,k2,k3,k4,k5⟩,k6⟩:=h.sp i hi
   exact⟨⟨off k0 (by omega),off k1 (by omega),off k2 (by omega),off k3 (by omega),off k4 (by omega),off k5 (by omega)⟩,off k6 (by omega)⟩
theorem aD4(W:World)(b o:Nat)(x:cY):Fr (fun z=>z=b) W (jQ W b o x):=by
 unfold jQ
 exact(((((((Fr.refl (fun z=>z=b) W).setCell (p:=⟨b,o,none⟩) rfl _).setCell (p:=⟨b,o+1,none⟩) rfl _).setCell (p:=⟨b,o+2,none⟩) rfl _).setCell (p:=⟨b,o+3,none⟩) rfl _).setCell (p:=⟨b,o+4,none⟩) rfl _).setCell (p:=⟨b,o+5,none⟩) rfl _).setCell (p:=⟨b,o+6,none⟩) rfl _
section
attribute [local go_sem] aX
def dF(pk:Int)(seen:Int)(kl:Nat)(k:Int):Bool:=
 if pk=5 then cK k ||(k==3 && seen==0) ||(k==4 && seen==(kl:Int) - 1)
 else if pk=9 then cK k
 else if pk=6 then eA k && k != 6
 else eA k
theorem zQ{w:World}{b:Nat}{c f:Bool}{ah gr:Int}{A:Nat->cY}(h:CB w b c f ah gr A){d:Nat}(hd:d < 41)(k:Int)(hkl:(A d).f.kl<=9223372036854775807) :
  Calls Tryz.prog 59 #[.pointer (some ⟨b,0,none⟩),.int .i64 ((d:Int)+1),.int .i64 k] w fun e w'=>e=.returned (.bool (dF (A d).f.k (A d).s (A d).f.kl k))/\Below w.heap.size w w':=by
 obtain⟨⟨k0,k1,k2,k3,k4,k5⟩,k6⟩:=h.sp d hd
 have hlt:=h.lt
 have e1:((d:Int)+1) - 1=(d:Int):=by omega
 have e2:(d:Int) < 41:=by omega
 have B1:Hid (Below w.heap.size w (w.alloc (.cells #[.int .i64 (A d).f.k,.int .i64 (A d).f.n,.int .i64 (A d).f.mn,.int .i64 (A d).f.mx,.slice (A d).f.rq (A d).f.rs.length (A d).f.rc,.slice (A d).f.kq (A d).f.kl (A d).f.kc,.int .i64 (A d).s] 60))):=bz9
 have N1:=aE w (.cells #[.int .i64 (A d).f.k,.int .i64 (A d).f.n,.int .i64 (A d).f.mn,.int .i64 (A d).f.mx,.slice (A d).f.rq (A d).f.rs.length (A d).f.rc,.slice (A d).f.kq (A d).f.kl (A d).f.kc,.int .i64 (A d).s] 60)
 obtain⟨r,hr⟩:∃ r,dF (A d).f.k (A d).s (A d).f.kl k=r:=⟨_,rfl⟩
 rw [hr]
 have HR:=aC hr
 clear hr
 go_enter Tryz.func59,Tryz.ntmps59
 go_upto_region 2 with fail
 have m0:(w.alloc (.cells #[.int .i64 (A d).f.k,.int .i64 (A d).f.n,.int .i64 (A d).f.mn,.int .i64 (A d).f.mx,.slice (A d).f.rq (A d).f.rs.length (A d).f.rc,.slice (A d).f.kq (A d).f.kl (A d).f.kc,.int .i64 (A d).s] 60)).cell? ⟨w.heap.size,0,none⟩=some (.int .i64 (A d).f.k):=aB N1 (i:=0) rfl
 have m5:(w.alloc (.cells #[.int .i64 (A d).f.k,.int .i64 (A d).f.n,.int .i64 (A d).f.mn,.int .i64 (A d).f.mx,.slice (A d).f.rq (A d).f.rs.length (A d).f.rc,.slice (A d).f.kq (A d).f.kl (A d).f.kc,.int .i64 (A d).s] 60)).cell? ⟨w.heap.size,5,none⟩=some (.slice (A d).f.kq (A d).f.kl (A d).f.kc):=aB N1 (i:=5) rfl
 have m6:(w.alloc (.cells #[.int .i64 (A d).f.k,.int .i64 (A d).f.n,.int .i64 (A d).f.mn,.int .i64 (A d).f.mx,.slice (A d).f.rq (A d).f.rs.length (A d).f.rc,.slice (A d).f.kq (A d).f.kl (A d).f.kc,.int .i64 (A d).s] 60)).cell? ⟨w.heap.size,6,none⟩=some (.int .i64 (A d).s):=aB N1 (i:=6) rfl
 have hlw:=aA N1
 generalize (w.alloc (.cells #[.int .i64 (A d).f.k,.int .i64 (A d).f.n,.int .i64 (A d).f.mn,.int .i64 (A d).f.mx,.slice (A d).f.rq (A d).f.rs.length (A d).f.rc,.slice (A d).f.kq (A d).f.kl (A d).f.kc,.int .i64 (A d).s] 60))=W1 at B1 m0 m5 m6 hlw ⊢
 clear N1 k0 k1 k2 k3 k4 k5 k6 hlt e1 e2 h hd
 generalize (A d).f.k=pk at m0 HR ⊢
 generalize (A d).f.kl=kl at m5 HR hkl ⊢
 generalize (A d).s=se at m6 HR ⊢
 cases h5:(pk==5) with
 | true=>
  obtain rfl:pk=5:=by simpa using h5
  go_upto_region 4 with fail
  refine wx9 ?_
  repeat (go_big_quiet_step (first | exact rfl))
  refine wpQuiet_nil ?_
  intro w2 hw
  have B2:Hid (Below w.heap.size w w2):=aD B1.out (aO hw) lz9
  clear hw B1
  have RR0:r=(cK k ||(k==3 && se==0) ||(k==4 && se==(kl:Int) - 1)):=by rw [<- HR.out];simp [dF]
  have HK:=aC (oB k)
  obtain⟨tb,htb⟩:∃ tb,cK k=tb:=⟨_,rfl⟩
  rw [htb] at HK RR0
  obtain⟨b1,hb1⟩:∃ b1,(se==0)=b1:=⟨_,rfl⟩
  obtain⟨b2,hb2⟩:∃ b2,(se==(kl:Int) - 1)=b2:=⟨_,rfl⟩
  rw [hb1,hb2] at RR0
  rw [hb1,hb2]
  have RRX:=aC RR0
  clear htb hb1 hb2 m0 m5 m6 RR0
  cases tb
  ·cases h3:(k==3)
   ·cases h4:(k==4)
    ·go_wp2_with (go_at_call 101;(with_reducible refine(HK.out _).mono ?_);rintro e w5 ⟨rfl,h5⟩;subst w5)
     go_ret
     exact⟨by rw [RRX.out,h3,h4];rfl,B2.out⟩
    ·go_wp2_with (go_at_call 101;(with_reducible refine(HK.out _).mono ?_);rintro e w5 ⟨rfl,h5⟩;subst w5)
     go_ret
     exact⟨by rw [RRX.out,h3,h4];simp,B2.out⟩
   ·obtain rfl:k=3:=by simpa using h3
    cases b1
    all_goals
     go_wp2_with (go_at_call 101;(with_reducible refine(HK.out _).mono ?_);rintro e w5 ⟨rfl,h5⟩;subst w5)
     go_ret
     exact⟨by rw [RRX.out];rfl,B2.out⟩
  ·go_wp2_with (go_at_call 101;(with_reducible refine(HK.out _).mono ?_);rintro e w5 ⟨rfl,h5⟩;subst w5)
   go_ret
   exact⟨by rw [RRX.out];rfl,B2.out⟩
 | false=>
  cases h9:(pk==9) with
  | true=>
   obtain rfl:pk=9:=by simpa using h9
   go_wp2_with (go_at_call 101;(with_reducible refine(oB _ _).mono ?_);rintro e w5 ⟨rfl,h5⟩;subst w5)
   go_ret
   exact⟨by rw [<- HR.out];simp [dF],B1.out⟩
  | false=>
   cases h6:(pk==6) with
   | true=>
    obtain rfl:pk=6:=by simpa using h6
    obtain⟨kb,hkb⟩:∃ kb,eA k=kb:=⟨_,rfl⟩
    have HK:=aC (wT k)
    rw [hkb] at HK
    have R2:r=(kb && k != 6):=by rw [<- HR.out,<- hkb];simp [dF]
    clear hkb
    cases kb with
    | true=>
     go_wp2_with (go_at_call 102;(with_reducible refine(HK.out _).mono ?_);rintro e w5 ⟨rfl,h5⟩;subst w5)
     go_ret
     exact⟨by rw [R2,Bool.true_and];rfl,B1.out⟩
    | false=>
     go_wp2_with (go_at_call 102;(with_reducible refine(HK.out _).mono ?_);rintro e w5 ⟨rfl,h5⟩;subst w5)
     go_ret
     exact⟨by rw [R2,Bool.false_and];rfl,B1.out⟩
   | false=>
    have R2:eA k=r:=by rw [<- HR.out];simp at h5 h9 h6;simp [dF,h5,h9,h6]
    go_wp2_with (go_at_call 102;(with_reducible refine(wT _ _).mono ?_);rintro e w5 ⟨rfl,h5⟩;subst w5)
    go_ret
    exact⟨by rw [<- R2];rfl,B1.out⟩
end
section
attribute [local go_sem] aX
def inB(A:Nat->cY)(d:Nat)(num:Int):Bool:=(List.range d).any fun i=>(A i).f.k==7 && (A i).f.n==num
theorem mP(A:Nat->cY)(d:Nat)(num:Int):inB A (d+1) num=(inB A d num ||((A d).f.k==7 && (A d).f.n==num)):=by
 unfold inB
 rw [List.range_succ,List.any_append]
 simp
theorem bJ1{A:Nat->cY}{d e:Nat}{num:Int}(h:inB A d num=true)(hde:d<=e):inB A e num=true:=by
 unfold inB at *
 rw [List.any_eq_true] at *
 obtain⟨x,hx,h⟩:=h
 exact⟨x,by rw [List.mem_range] at *;omega,h⟩
theorem zZ{w:World}{b:Nat}{c f:Bool}{ah gr:Int}{A:Nat->cY}(h:CB w b c f ah gr A){d:Nat}(hd:d<=41)(num:Int) :
  Calls Tryz.prog 62 #[.pointer (some ⟨b,0,none⟩),.int .i64 (d:Int),.int .i64 num] w fun e w'=>e=.returned (.bool (!inB A d num && decide (num<=gr)))/\Below w.heap.size w w':=by
 have H:=aC h
 have hlt:=h.lt
 have e2:(d:Int)<=41:=by omega
 obtain⟨r,hr⟩:∃ r,(!inB A d num && decide (num<=gr))=r:=⟨_,rfl⟩
 rw [hr]
 have HR:=aC hr
 clear h hr
 go_enter Tryz.func62,Tryz.ntmps62
 go_wp2
 go_loopw [15] (fun i wr=>∃ j:Nat,j<=d/\i=.int .i64 (j:Int)/\inB A j num=false/\Below w.heap.size w wr) (fun i _=>d - (intOf i).toNat)
 case atStart=>exact⟨0,Nat.zero_le _,rfl,rfl,Below.refl _ _⟩
 case round=>
  obtain⟨j,hj,rfl,hin,hb⟩:=hrel
  have HI:=aC hin
  have HB:=aC hb
  have H1:Hid (CB wr b c f ah gr A):=H.out.kept hb
  clear hin hb hlt
  have hlt:=H1.out.lt
  by_cases hjl:j < d
  ·have e0:(j:Int) < (d:Int):=by omega
   obtain⟨⟨k0,k1,k2,k3,k4,k5⟩,k6⟩:=H1.out.sp j (by omega)
   have B2:Hid (Below w.heap.size w (wr.alloc (.cells #[.int .i64 (A j).f.k,.int .i64 (A j).f.n,.int .i64 (A j).f.mn,.int .i64 (A j).f.mx,.slice (A j).f.rq (A j).f.rs.length (A j).f.rc,.slice (A j).f.kq (A j).f.kl (A j).f.kc,.int .i64 (A j).s] 60))):=HB.out.alloc HB.out.size _
   have N2:=aE wr (.cells #[.int .i64 (A j).f.k,.int .i64 (A j).f.n,.int .i64 (A j).f.mn,.int .i64 (A j).f.mx,.slice (A j).f.rq (A j).f.rs.length (A j).f.rc,.slice (A j).f.kq (A j).f.kl (A j).f.kc,.int .i64 (A j).s] 60)
   have m0:(wr.alloc (.cells #[.int .i64 (A j).f.k,.int .i64 (A j).f.n,.int .i64 (A j).f.mn,.int .i64 (A j).f.mx,.slice (A j).f.rq (A j).f.rs.length (A j).f.rc,.slice (A j).f.kq (A j).f.kl (A j).f.kc,.int .i64 (A j).s] 60)).cell? ⟨wr.heap.size,0,none⟩=some (.int .i64 (A j).f.k):=aB N2 (i:=0) rfl
   have m1:(wr.alloc (.cells #[.int .i64 (A j).f.k,.int .i64 (A j).f.n,.int .i64 (A j).f.mn,.int .i64 (A j).f.mx,.slice (A j).f.rq (A j).f.rs.length (A j).f.rc,.slice (A j).f.kq (A j).f.kl (A j).f.kc,.int .i64 (A j).s] 60)).cell? ⟨wr.heap.size,1,none⟩=some (.int .i64 (A j).f.n):=aB N2 (i:=1) rfl
   have HS:=aC (mP A j num)
   clear N2
   go_upto_region 4 with fail
   generalize (wr.alloc (.cells #[.int .i64 (A j).f.k,.int .i64 (A j).f.n,.int .i64 (A j).f.mn,.int .i64 (A j).f.mx,.slice (A j).f.rq (A j).f.rs.length (A j).f.rc,.slice (A j).f.kq (A j).f.kl (A j).f.kc,.int .i64 (A j).s] 60))=W2 at B2 m0 m1 ⊢
   cases h7:((A j).f.k==7)
   ·have HN:Hid (inB A (j+1) num=false):=(by rw [HS.out,HI.out,h7];rfl)
    clear HS
    go_wp2
    go_roundw
    case rel=>exact⟨j+1,by omega,by go_num,HN.out,B2.out⟩
    case measure=>simp only [intOf];omega
   ·cases hn:((A j).f.n==num)
    ·have HN:Hid (inB A (j+1) num=false):=(by rw [HS.out,HI.out,h7,hn];rfl)
     clear HS
     go_wp2
     go_roundw
     case rel=>exact⟨j+1,by omega,by go_num,HN.out,B2.out⟩
     case measure=>simp only [intOf];omega
    ·have HN:Hid (inB A d num=true):=bJ1 (d:=j+1) (by rw [HS.out,HI.out,h7,hn];rfl) (by omega)
     clear HS
     go_wp2
     go_ret
     exact⟨by rw [<- HR.out,HN.out];rfl,B2.out⟩
  ·have e0:¬ (j:Int) < (d:Int):=by omega
   obtain rfl:j=d:=by omega
   have k3:=H1.out.c3
   go_wp2
   go_ret
   exact⟨by rw [<- HR.out,HI.out];rfl,HB.out⟩
theorem CB.frz{W:World}{b:Nat}{c f:Bool}{ah gr:Int}{A:Nat->cY}(h:CB W b c f ah gr A)(j:Nat):W.frozen? ⟨b,j,none⟩=false:=by
 obtain⟨cur,hc⟩:=h.blk
 exact aQ hc j
theorem oS{W:World}{k b j:Nat}{f:Fl}{u:Value}(h:BoxN W k f)(hk:k≠b):BoxN (W.setCell ⟨b,j,none⟩ u) k f:=(((Fr.refl (fun z=>z=b) W).setCell (p:=⟨b,j,none⟩) rfl u).block _ (aA h) hk).trans h
theorem tZ{w:World}{b:Nat}{c f:Bool}{ah gr:Int}{A:Nat->cY}(h:CB w b c f ah gr A){d:Nat}(hd:d+1 < 41)(x:Fl)(ha:0<=ah/\ah<=1000000)(hg:0<=gr/\gr<=1000000)(hs:0<=(A d).s/\(A d).s<=1000000) :
  Calls Tryz.prog 63 #[.pointer (some ⟨b,0,none⟩),.int .i64 ((d:Int)+1),.agg #[.int .i64 x.k,.int .i64 x.n,.int .i64 x.mn,.int .i64 x.mx,.slice x.rq x.rs.length x.rc,.slice x.kq x.kl x.kc]] w fun e w'=>e=.returned (.tuple #[])/\CB w' b c f (ah+1) (gr+(if x.k=7 then 1 else 0)) (nH (nH A d ⟨(A d).f,(A d).s+1⟩) (d+1) ⟨x,0⟩)/\Fr (fun z=>z=b) w w':=by
 have H:=aC h
 have hlt:=h.lt
 have B1:Hid (Below w.heap.size w (w.alloc (.cells #[.int .i64 x.k,.int .i64 x.n,.int .i64 x.mn,.int .i64 x.mx,.slice x.rq x.rs.length x.rc,.slice x.kq x.kl x.kc] 25))):=bz9
 have N1:Hid (BoxN (w.alloc (.cells #[.int .i64 x.k,.int .i64 x.n,.int .i64 x.mn,.int .i64 x.mx,.slice x.rq x.rs.length x.rc,.slice x.kq x.kl x.kc] 25)) w.heap.size x):=aE w _
 have H1:Hid (CB (w.alloc (.cells #[.int .i64 x.k,.int .i64 x.n,.int .i64 x.mn,.int .i64 x.mx,.slice x.rq x.rs.length x.rc,.slice x.kq x.kl x.kc] 25)) b c f ah gr A):=h.kept B1.out
 have F1:Hid (Fr (fun z=>z=b) w (w.alloc (.cells #[.int .i64 x.k,.int .i64 x.n,.int .i64 x.mn,.int .i64 x.mx,.slice x.rq x.rs.length x.rc,.slice x.kq x.kl x.kc] 25))):=Fr.of_below B1.out
 have hne:w.heap.size≠b:=by omega
 clear h H
 obtain⟨g2,hg2⟩:∃ g2,gr+(if x.k=7 then 1 else 0)=g2:=⟨_,rfl⟩
 rw [hg2]
 have HG:=aC hg2
 clear hg2
 go_enter Tryz.func63,Tryz.ntmps63
 go_upto_region 1 with fail
 generalize (w.alloc (.cells #[.int .i64 x.k,.int .i64 x.n,.int .i64 x.mn,.int .i64 x.mx,.slice x.rq x.rs.length x.rc,.slice x.kq x.kl x.kc] 25))=w1 at B1 N1 H1 F1 ⊢
 have c2:=H1.out.c2
 have f2:=H1.out.frz 2
 have lb:=H1.out.lt
 have H2:Hid (CB (w1.setCell ⟨b,2,none⟩ (.int .i64 (ah+1))) b c f (ah+1) gr A):=H1.out.setAh _
 have N2:Hid (BoxN (w1.setCell ⟨b,2,none⟩ (.int .i64 (ah+1))) w.heap.size x):=oS N1.out hne
 have F2:Hid (Fr (fun z=>z=b) w (w1.setCell ⟨b,2,none⟩ (.int .i64 (ah+1)))):=F1.out.setCell (p:=⟨b,2,none⟩) rfl _
 clear B1 N1 H1 F1
 go_upto_region 2 with fail
 generalize (w1.setCell ⟨b,2,none⟩ (.int .i64 (ah+1)))=w2 at H2 N2 F2 ⊢
 clear c2 f2 lb hlt
 obtain⟨c0,-⟩:=N2.out.six
 have c3:=H2.out.c3
 have f3:=H2.out.frz 3
 have lb:=H2.out.lt
 have e1:((d:Int)+1) - 1=(d:Int):=by omega
 have e2:(d:Int) < 41:=by omega
 have e3:(d:Int)+1 < 41:=by omega
 by_cases hk:x.k=7
 ·have hkb:(x.k==7)=true:=by simpa using hk
  have E2:=HG.out
  rw [if_pos hk] at E2
  subst E2
  have H3:Hid (CB (w2.setCell ⟨b,3,none⟩ (.int .i64 (gr+1))) b c f (ah+1) (gr+1) A):=H2.out.setGr _
  have N3:Hid (BoxN (w2.setCell ⟨b,3,none⟩ (.int .i64 (gr+1))) w.heap.size x):=oS N2.out hne
  have F3:Hid (Fr (fun z=>z=b) w (w2.setCell ⟨b,3,none⟩ (.int .i64 (gr+1)))):=F2.out.setCell (p:=⟨b,3,none⟩) rfl _
  clear H2 N2 F2 hk
  go_upto_region 4 with fail
  generalize (w2.setCell ⟨b,3,none⟩ (.int .i64 (gr+1)))=w3 at H3 N3 F3 ⊢
  clear c0 c3 f3 lb
  have p6:=(H3.out.sp d (by omega)).2
  have lb:=H3.out.lt
  have f6:=H3.out.frz (4+d * 7+6)
  have H5:=aC ((H3.out.setSeen (d:=d) (by omega) ((A d).s+1)).kept ((Below.refl _ _).drew))
  have N5:Hid (BoxN (w3.setCell ⟨b,4+d * 7+6,none⟩ (.int .i64 ((A d).s+1))).drew w.heap.size x):=oS N3.out hne
  have F5:Hid (Fr (fun z=>z=b) w (w3.setCell ⟨b,4+d * 7+6,none⟩ (.int .i64 ((A d).s+1))).drew):=(F3.out.setCell (p:=⟨b,4+d * 7+6,none⟩) rfl _).trans (Fr.of_below ((Below.refl _ _).drew))
  clear H3 N3 F3
  go_region
  go_upto_region 5 with fail
  generalize (w3.setCell ⟨b,4+d * 7+6,none⟩ (.int .i64 ((A d).s+1))).drew=w5 at H5 N5 F5 ⊢
  clear p6 f6 lb
  have lb:=H5.out.lt
  have ln:=aA N5.out
  obtain⟨n0,n1,n2,n3,n4,n5⟩:=N5.out.six
  simp only [Nat.zero_add] at n1 n2 n3 n4 n5
  have fr:=fun j=>H5.out.frz j
  obtain⟨⟨q0,q1,q2,q3,q4,q5⟩,q6⟩:=H5.out.sp (d+1) (by omega)
  have H7:=aC ((H5.out.setSpot (d:=d+1) (by omega) ⟨x,0⟩).kept ((Below.refl _ _).drew))
  have F7:Hid (Fr (fun z=>z=b) w (jQ w5 b (4+(d+1) * 7) ⟨x,0⟩).drew):=(F5.out.trans (aD4 _ _ _ _)).trans (Fr.of_below ((Below.refl _ _).drew))
  unfold jQ at H7 F7
  clear H5 F5
  go_region
  go_wp2
  go_end0
  exact⟨rfl,H7.out,F7.out⟩
 ·have hkb:(x.k==7)=false:=by simpa using hk
  have E2:=HG.out
  rw [if_neg hk,Int.add_zero] at E2
  subst E2
  have H3:=H2
  have N3:=N2
  have F3:=F2
  clear H2 N2 F2 hk
  go_upto_region 4 with fail
  clear c0 c3 f3 lb
  have p6:=(H3.out.sp d (by omega)).2
  have lb:=H3.out.lt
  have f6:=H3.out.frz (4+d * 7+6)
  have H5:=aC ((H3.out.setSeen (d:=d) (by omega) ((A d).s+1)).kept ((Below.refl _ _).drew))
  have N5:Hid (BoxN (w2.setCell ⟨b,4+d * 7+6,none⟩ (.int .i64 ((A d).s+1))).drew w.heap.size x):=oS N3.out hne
  have F5:Hid (Fr (fun z=>z=b) w (w2.setCell ⟨b,4+d * 7+6,none⟩ (.int .i64 ((A d).s+1))).drew):=(F3.out.setCell (p:=⟨b,4+d * 7+6,none⟩) rfl _).trans (Fr.of_below ((Below.refl _ _).drew))
  clear H3 N3 F3
  go_region
  go_upto_region 5 with fail
  generalize (w2.setCell ⟨b,4+d * 7+6,none⟩ (.int .i64 ((A d).s+1))).drew=w5 at H5 N5 F5 ⊢
  clear p6 f6 lb
  have lb:=H5.out.lt
  have ln:=aA N5.out
  obtain⟨n0,n1,n2,n3,n4,n5⟩:=N5.out.six
  simp only [Nat.zero_add] at n1 n2 n3 n4 n5
  have fr:=fun j=>H5.out.frz j
  obtain⟨⟨q0,q1,q2,q3,q4,q5⟩,q6⟩:=H5.out.sp (d+1) (by omega)
  have H7:=aC ((H5.out.setSpot (d:=d+1) (by omega) ⟨x,0⟩).kept ((Below.refl _ _).drew))
  have F7:Hid (Fr (fun z=>z=b) w (jQ w5 b (4+(d+1) * 7) ⟨x,0⟩).drew):=(F5.out.trans (aD4 _ _ _ _)).trans (Fr.of_below ((Below.refl _ _).drew))
  unfold jQ at H7 F7
  clear H5 F5
  go_region
  go_wp2
  go_end0
  exact⟨rfl,H7.out,F7.out⟩
end
end Go.Proofs.YticfnglebbakkaaGreatDoor

/-
  Parts of the proof.
-/
import Derived.Test.YtjafnbjipgediaaGreatDoorRefsProofB2
import Derived.Maps.Views
import Derived.Maps.OwnOps
namespace Go.Proofs.YtjafnbjipgediaaGreatDoor
open Go Go.RowKit
theorem rC:Tryz.prog.underlying 23=some (.slice 25):=by kernel_rfl
theorem aA5:(Tryz.prog.info? 25).map (fun i=>(i.zero,i.size,i.bytes))=some (some (.agg #[.int .i64 0,.int .i64 0,.int .i64 0,.int .i64 0,.slice none 0 0,.slice none 0 0]),6,80):=by kernel_rfl
def Six(W:World)(g o:Nat)(f:Fl):Prop:=
 W.cell? ⟨g,o,none⟩=some (.int .i64 f.k)/\W.cell? ⟨g,o+1,none⟩=some (.int .i64 f.n)/\W.cell? ⟨g,o+2,none⟩=some (.int .i64 f.mn)/\W.cell? ⟨g,o+3,none⟩=some (.int .i64 f.mx)/\W.cell? ⟨g,o+4,none⟩=some (.slice f.rq f.rs.length f.rc)/\W.cell? ⟨g,o+5,none⟩=some (.slice f.kq f.kl f.kc)
theorem Six.ck{N:Nat->Prop}{W W':World}{g o:Nat}{f:Fl}(h:Six W g o f)(hc:CKeep N W W')(hg:N g):Six W' g o f:=
 ⟨cQ hc (p:=⟨g,o,none⟩) hg h.1,cQ hc (p:=⟨g,o+1,none⟩) hg h.2.1,cQ hc (p:=⟨g,o+2,none⟩) hg h.2.2.1,cQ hc (p:=⟨g,o+3,none⟩) hg h.2.2.2.1,cQ hc (p:=⟨g,o+4,none⟩) hg h.2.2.2.2.1,cQ hc (p:=⟨g,o+5,none⟩) hg h.2.2.2.2.2⟩
def ArgK(W:World)(v:Value)(ks:List Tr):Prop:=
 (∃ p cap,v=.slice p 0 cap/\ks=[]/\(p=none->cap=0))\/∃ g off cap,v=.slice (some ⟨g,off,none⟩) ks.length cap/\g < W.heap.size/\ks.length<=cap/\cap<=maxLen/\∀ (i:Nat) (t:Tr),ks[i]?=some t->Six W g (off+i * 6) t.f
theorem ArgK.slice{W:World}{v:Value}{ks:List Tr}(h:ArgK W v ks):∃ q cap,v=.slice q ks.length cap/\ks.length<=maxLen/\ks.length<=cap /\
  (∀ (i:Nat) (t:Tr),ks[i]?=some t->∃ g off,q=some ⟨g,off,none⟩/\g < W.heap.size/\Six W g (off+i * 6) t.f):=by
 rcases h with⟨p,cap,rfl,rfl,-⟩ | ⟨g,off,cap,rfl,h2,h3,h4,h5⟩
 ·exact⟨p,cap,rfl,Nat.zero_le _,Nat.zero_le _,fun i x hx=>by simp at hx⟩
 ·exact⟨_,cap,rfl,Nat.le_trans h3 h4,h3,fun i x hx=>⟨g,off,rfl,h2,h5 i x hx⟩⟩
def CK(W W':World):Prop:=CKeep (fun k=>k < W.heap.size) W W'
theorem CK.of_below{W W':World}(h:Below W.heap.size W W'):CK W W':=⟨h.size,fun k _ _ _ _ hc=>(h.block k (aB hc)).trans hc⟩
theorem CK.trans{A B C:World}(h:CK A B)(k:CK B C):CK A C:=⟨Nat.le_trans h.size k.size,fun i cur t fr hi hc=>k.same i cur t fr (Nat.lt_of_lt_of_le hi h.size) (h.same i cur t fr hi hc)⟩
theorem CK.step{A B C:World}(h:CK A B)(k:CKeep (fun i=>i < A.heap.size) B C):CK A C:=⟨Nat.le_trans h.size k.size,fun i cur t fr hi hc=>k.same i cur t fr hi (h.same i cur t fr hi hc)⟩
theorem ArgK.ck{W W':World}{v:Value}{ks:List Tr}(h:ArgK W v ks)(hc:CK W W'):ArgK W' v ks:=by
 rcases h with h | ⟨g,off,cap,h1,h2,h3,h4,h5⟩
 ·exact .inl h
 ·exact .inr ⟨g,off,cap,h1,Nat.lt_of_lt_of_le h2 hc.size,h3,h4,fun i x hx=>(h5 i x hx).ck hc h2⟩
theorem ArgR.ck{W W':World}{v:Value}{L:List (Int × Int)}(h:ArgR W v L)(hc:CK W W'):ArgR W' v L:=by
 rcases h with h | ⟨g,off,cap,h1,h2,h3,h4,h5⟩
 ·exact .inl h
 ·exact .inr ⟨g,off,cap,h1,Nat.lt_of_lt_of_le h2 hc.size,h3,h4,fun i x hx=>⟨cQ hc (p:=⟨g,off+2 * i,none⟩) h2 (h5 i x hx).1,cQ hc (p:=⟨g,off+2 * i+1,none⟩) h2 (h5 i x hx).2⟩⟩
def NO(W:World)(t:Tr):Prop:=(∀ a,t.f.rq=some a->t.f.rs≠[]->∃ cur,W.heap[a.block]?=some (.cells cur 110 (0,0)))/\(∀ a,t.f.kq=some a->t.ks≠[]->∃ cur,W.heap[a.block]?=some (.cells cur 25 (0,0)))
structure NA(W:World)(t:Tr):Prop where
 r:ArgR W (.slice t.f.rq t.f.rs.length t.f.rc) t.f.rs
 k:ArgK W (.slice t.f.kq t.f.kl t.f.kc) t.ks
 fit:Fit t.f.rs
 len:t.f.rs.length+3<=8796093022208
 own:NO W t
def TA(W:World)(t:Tr):Prop:=bM (NA W) t
theorem kK{P Q:Tr->Prop}(h:∀ t,P t->Q t)(t:Tr):bM P t->bM Q t:=by
 refine Tr.ind (P:=fun t=>bM P t->bM Q t) (fun t ih he=>?_) t
 exact(aX t).2 ⟨h t ((aX t).1 he).1,(bJ _).2 fun u hu=>ih u hu (bD he hu)⟩
structure NB(W:World)(t:Tr):Prop where
 r:ArgR W (.slice t.f.rq t.f.rs.length t.f.rc) t.f.rs
 k:ArgK W (.slice t.f.kq t.f.kl t.f.kc) t.ks
 fit:Fit t.f.rs
 len:t.f.rs.length+3<=8796093022208
theorem NB.ck{W W':World}{t:Tr}(h:NB W t)(hc:CK W W'):NB W' t:=⟨h.r.ck hc,h.k.ck hc,h.fit,h.len⟩
theorem NB.kl{W:World}{t:Tr}(h:NB W t):t.f.kl=t.ks.length:=by
 obtain⟨q,cap,e,-⟩:=h.k.slice
 injection e
def TB(W:World)(t:Tr):Prop:=bM (NB W) t
theorem TB.ck{W W':World}{t:Tr}(h:TB W t)(hc:CK W W'):TB W' t:=kK (fun _ q=>NB.ck q hc) t h
theorem TB.kept{W W':World}{t:Tr}(h:TB W t)(hb:Below W.heap.size W W'):TB W' t:=h.ck (CK.of_below hb)
theorem TB.node{W:World}{t:Tr}(h:TB W t):NB W t:=((aX t).1 h).1
theorem TB.kid{W:World}{t u:Tr}(h:TB W t)(hu:u∈t.ks):TB W u:=bD h hu
theorem TB.at{W:World}{t:Tr}(h:TB W t){p:Way}{z:El}(hz:z∈pp p t):TB W z.2:=pS t p h z hz
theorem TA.tb{W:World}{t:Tr}(h:TA W t):TB W t:=kK (fun _ q=>⟨q.r,q.k,q.fit,q.len⟩) t h
instance {W:World} {t:Tr}:Coe (TA W t) (TB W t):=⟨TA.tb⟩
def BoxN(W:World)(b:Nat)(f:Fl):Prop:=W.heap[b]?=some (.cells #[.int .i64 f.k,.int .i64 f.n,.int .i64 f.mn,.int .i64 f.mx,.slice f.rq f.rs.length f.rc,.slice f.kq f.kl f.kc] 25 (0,0))
theorem BoxN.six{W:World}{b:Nat}{f:Fl}(h:BoxN W b f):Six W b 0 f:=
 ⟨aA h (i:=0) rfl,aA h (i:=1) rfl,aA h (i:=2) rfl,aA h (i:=3) rfl,aA h (i:=4) rfl,aA h (i:=5) rfl⟩
section
abbrev cU(T:Type):=Fl->List Tr->List T->(Int->T)->T
def lF{T:Type}(g:Int->T)(k:Int)(x:T):Int->T:=fun i=>if i=k then x else g i
theorem aA0{T:Type}(g:Int->T)(k:Int)(x:T):lF g k x k=x:=if_pos rfl
theorem wL{T:Type}(g:Int->T){k i:Int}(x:T)(h:i≠k):lF g k x i=g i:=if_neg h
mutual
def ev{T:Type}(ρ:cU T):(Int->T)->Tr->T × (Int->T)
 | g,.mk f ks=>(ρ f ks (evs ρ g ks).1 (evs ρ g ks).2,if f.k=7 then lF (evs ρ g ks).2 f.n (ρ f ks (evs ρ g ks).1 (evs ρ g ks).2) else (evs ρ g ks).2)
def evs{T:Type}(ρ:cU T):(Int->T)->List Tr->List T × (Int->T)
 | g,[]=>([],g)
 | g,t :: ts=>((ev ρ g t).1 :: (evs ρ (ev ρ g t).2 ts).1,(evs ρ (ev ρ g t).2 ts).2)
end
mutual
def evG{T:Type}(ρ:cU T)(G:Int->T):Tr->T
 | .mk f ks=>ρ f ks (aD3 ρ G ks) G
def aD3{T:Type}(ρ:cU T)(G:Int->T):List Tr->List T
 | []=>[]
 | t :: ts=>evG ρ G t :: aD3 ρ G ts
end
variable {T:Type} {ρ:cU T}
theorem iW(g:Int->T)(t:Tr):(ev ρ g t).1=ρ t.f t.ks (evs ρ g t.ks).1 (evs ρ g t.ks).2:=by cases t;rw [ev];rfl
theorem jQ(g:Int->T)(t:Tr):(ev ρ g t).2=if t.f.k=7 then lF (evs ρ g t.ks).2 t.f.n (ev ρ g t).1 else (evs ρ g t.ks).2:=by cases t;rw [ev];rfl
theorem cV(g:Int->T):evs ρ g []=([],g):=by rw [evs]
theorem eR(g:Int->T)(t:Tr)(ts:List Tr):evs ρ g (t :: ts)=((ev ρ g t).1 :: (evs ρ (ev ρ g t).2 ts).1,(evs ρ (ev ρ g t).2 ts).2):=by rw [evs]
theorem xS(a b:List Tr):∀ (g:Int->T),evs ρ g (a ++ b)=((evs ρ g a).1 ++ (evs ρ (evs ρ g a).2 b).1,(evs ρ (evs ρ g a).2 b).2):=by
 induction a with
 | nil=>intro g;rw [cV];rfl
 | cons t a ih=>intro g;rw [List.cons_append,eR,eR,ih];rfl
theorem eQ(ks:List Tr):∀ (g:Int->T),(evs ρ g ks).1.length=ks.length:=by
 induction ks with
 | nil=>intro g;rw [cV];rfl
 | cons t a ih=>intro g;rw [eR];simp [ih]
theorem cN{ks:List Tr}{j:Nat}{u:Tr}(h:ks[j]?=some u)(g:Int->T) :
  (evs ρ g (ks.take (j+1))).1=(evs ρ g (ks.take j)).1 ++ [(ev ρ (evs ρ g (ks.take j)).2 u).1]/\(evs ρ g (ks.take (j+1))).2=(ev ρ (evs ρ g (ks.take j)).2 u).2:=by
 rw [List.take_add_one,h,Option.toList_some,xS,eR,cV]
 exact⟨rfl,rfl⟩
theorem aY7(G:Int->T)(t:Tr):evG ρ G t=ρ t.f t.ks (aD3 ρ G t.ks) G:=by cases t;rw [evG];rfl
theorem aK8(G:Int->T)(ks:List Tr):aD3 ρ G ks=ks.map (evG ρ G):=by
 induction ks with
 | nil=>rw [aD3];rfl
 | cons t a ih=>rw [aD3,ih];rfl
theorem aR9{NP:Tr->Prop}{Good:T->Prop}(hg:∀ t xs g,NP t->xs.length=t.ks.length->(∀ x∈xs,Good x)->(∀ i,Good (g i))->Good (ρ t.f t.ks xs g))(t:Tr):∀ g:Int->T,bM NP t->(∀ i,Good (g i))->Good (ev ρ g t).1/\∀ i,Good ((ev ρ g t).2 i):=by
 refine Tr.ind (P:=fun t=>∀ g:Int->T,bM NP t->(∀ i,Good (g i))->Good (ev ρ g t).1/\∀ i,Good ((ev ρ g t).2 i)) (fun t ih g he h0=>?_) t
 have hl:∀ (ks:List Tr) (g:Int->T),(∀ u∈ks,u∈t.ks)->(∀ i,Good (g i))->(∀ x∈(evs ρ g ks).1,Good x)/\∀ i,Good ((evs ρ g ks).2 i):=by
  intro ks
  induction ks with
  | nil=>intro g _ h;rw [cV];exact⟨fun x hx=>(by cases hx),h⟩
  | cons u us ih2=>
   intro g hs h
   obtain⟨a,b⟩:=ih u (hs u (List.mem_cons_self ..)) g (bD he (hs u (List.mem_cons_self ..))) h
   obtain⟨p,q⟩:=ih2 (ev ρ g u).2 (fun v hv=>hs v (List.mem_cons_of_mem _ hv)) b
   rw [eR]
   refine⟨fun x hx=>?_,q⟩
   rcases List.mem_cons.1 hx with e | e
   ·rw [e];exact a
   ·exact p x e
 obtain⟨p,q⟩:=hl t.ks g (fun _ h=>h) h0
 have hx:Good (ev ρ g t).1:=by
  rw [iW]
  exact hg t _ _ ((aX t).1 he).1 (eQ _ _) p q
 refine⟨hx,fun i=>?_⟩
 rw [jQ]
 split
 ·unfold lF
  split
  ·exact hx
  ·exact q i
 ·exact q i
theorem dO{NP:Tr->Prop}{Good:T->Prop}(hg:∀ t xs g,NP t->xs.length=t.ks.length->(∀ x∈xs,Good x)->(∀ i,Good (g i))->Good (ρ t.f t.ks xs g)):∀ (ks:List Tr) (g:Int->T),(∀ u∈ks,bM NP u)->(∀ i,Good (g i))->(∀ x∈(evs ρ g ks).1,Good x)/\∀ i,Good ((evs ρ g ks).2 i)
 | [],g,_,h=>by rw [cV];exact⟨fun x hx=>(by cases hx),h⟩
 | u :: us,g,hs,h=>by
  obtain⟨a,b⟩:=aR9 hg u g (hs u (List.mem_cons_self ..)) h
  obtain⟨p,q⟩:=dO hg us (ev ρ g u).2 (fun v hv=>hs v (List.mem_cons_of_mem _ hv)) b
  rw [eR]
  refine⟨fun x hx=>?_,q⟩
  rcases List.mem_cons.1 hx with e | e
  ·rw [e];exact a
  ·exact p x e
theorem bO{ks:List Tr}{j:Nat}{u:Tr}(h:ks[j]?=some u):szs (ks.take (j+1))=szs (ks.take j)+u.sz:=by
 have app:∀ a b:List Tr,szs (a ++ b)=szs a+szs b:=by
  intro a b
  induction a with
  | nil=>rw [fE];simp
  | cons x a ih=>rw [List.cons_append,fL,fL,ih];omega
 rw [List.take_add_one,h,Option.toList_some,app,fL,fE]
 rfl
theorem eB(ks:List Tr):ks.length<=szs ks:=by
 induction ks with
 | nil=>simp
 | cons x a ih=>rw [fL,List.length_cons];have:=eJ x;omega
theorem oY(ks:List Tr)(j:Nat):szs (ks.take j)<=szs ks:=by
 have app:∀ a b:List Tr,szs (a ++ b)=szs a+szs b:=by
  intro a b
  induction a with
  | nil=>rw [fE];simp
  | cons x a ih=>rw [List.cons_append,fL,fL,ih];omega
 have:=app (ks.take j) (ks.drop j)
 rw [List.take_append_drop] at this
 omega
end
def bB5(v:Value):Option (DataW Value × List MemPlace):=some (.held v,[])
def MapV(w:World)(z:Value)(b n:Nat)(g:Int->Value):Prop:=
 ∃ D:DataW Value,w.ownsMap Tryz.prog 3 bB5 b n D/\Maps.IsMap D/\∀ i:Int,D.atKey (.int .i64 i) (.held z)=.held (g i)
theorem kA:Tryz.prog.underlying 3=some (.int .i64):=by kernel_rfl
theorem MapV.made(w:World)(z:Value):MapV (w.alloc (.map #[] 0)) z w.heap.size 0 (fun _=>z):=
 ⟨.map [],World.ownsMap_made w _ _ _,Maps.isMap_empty,fun _=>rfl⟩
theorem MapV.lt{w:World}{z:Value}{b n:Nat}{g:Int->Value}(h:MapV w z b n g):b < w.heap.size:=by
 obtain⟨D,h1,-⟩:=h
 exact h1.lt
theorem MapV.block{w:World}{z:Value}{b n:Nat}{g:Int->Value}(h:MapV w z b n g):∃ es clock,w.heap[b]?=some (.map es clock):=by
 obtain⟨D,⟨es,clock,hb,-⟩,-⟩:=h
 exact⟨es,clock,hb⟩
theorem MapV.mono{w:World}{z:Value}{b n m:Nat}{g:Int->Value}(h:MapV w z b n g)(hm:n<=m):MapV w z b m g:=by
 obtain⟨D,h1,h2⟩:=h
 exact⟨D,h1.mono hm,h2⟩
theorem MapV.same{w w':World}{z:Value}{b n:Nat}{g:Int->Value}(h:MapV w z b n g)(hb:w'.heap[b]?=w.heap[b]?):MapV w' z b n g:=by
 obtain⟨D,⟨es,clock,h1,h2⟩,h3⟩:=h
 exact⟨D,⟨es,clock,hb.trans h1,h2⟩,h3⟩
theorem MapV.kept{w w':World}{z:Value}{b n:Nat}{g:Int->Value}(h:MapV w z b n g)(hb:Below w.heap.size w w'):MapV w' z b n g:=h.same (hb.block b h.lt)
theorem MapV.fr{S:Nat->Prop}{w w':World}{z:Value}{b n:Nat}{g:Int->Value}(h:MapV w z b n g)(hf:Fr S w w')(hs:¬ S b):MapV w' z b n g:=h.same (hf.block b h.lt hs)
theorem MapV.look{w:World}{z:Value}{b n:Nat}{g:Int->Value}(h:MapV w z b n g){t e:TypeId}(ht:Tryz.prog.underlying t=some (.map 3 e))(hz:(zeroValue e).run Tryz.prog w=.ok z w){i:Int}(hi:(Lit.int .i64 i).wf=true) :
  (Instr.lookup t (.map (some b)) (.int .i64 i) false).run Tryz.prog w=.ok (g i) w:=by
 obtain⟨D,h1,h2,h3⟩:=h
 obtain⟨v,ps,r1,r2⟩:=h1.lookup (Maps.int_keyed kA) ht hz (zd:=.held z) (zp:=[]) rfl (Maps.keyOf_int_mk kA hi)
 rw [h3 i] at r2
 have r3:(DataW.held v:DataW Value)=.held (g i):=congrArg Prod.fst (Option.some.inj r2)
 have r4:v=g i:=DataW.held.inj r3
 exact r4 ▸ r1
theorem MapV.store{w:World}{z:Value}{b n:Nat}{g:Int->Value}(h:MapV w z b n g){t e:TypeId}(ht:Tryz.prog.underlying t=some (.map 3 e))(hn:n < maxLen){i:Int}(hi:(Lit.int .i64 i).wf=true)(v:Value) :
  ∃ w',(Instr.mapUpdate t (.map (some b)) (.int .i64 i) v).run Tryz.prog w=.ok () w'/\MapV w' z b (n+1) (lF g i v)/\w.grownBy w' (some b):=by
 obtain⟨D,h1,h2,h3⟩:=h
 obtain⟨w',r1,r2,r3⟩:=h1.update (Maps.int_keyed kA) ht hn (val:=v) (d:=.held v) (ps:=[]) (Maps.keyOf_int_mk kA hi) rfl
 refine⟨w',r1,⟨_,r2,h2.put _ _,fun j=>?_⟩,r3⟩
 by_cases hj:j=i
 ·subst hj
  rw [Maps.atKey_put_same h2 (show WideAt.IsKeyLit (.int .i64 j) from trivial),aA0]
 ·rw [Maps.atKey_put_other (fun e=>hj (by injection e)),wL _ _ hj,h3 j]
theorem kR(w:World){ops:Array Oper}{rest:List Oper}{o:Oper}{a:Act}{Q:Exit->Act->World->Prop}(hg:o.guard=none)(m x:Operand)(t:TypeId)(hop:o.op=Op.lookup t m x false)(e:TypeId)
  (ht:Tryz.prog.underlying t=some (.map 3 e)) (z:Value) (b n:Nat) (g:Int->Value) (hm:a.eval m=.map (some b)) (h:MapV w z b n g) (hz:(zeroValue e).run Tryz.prog w=.ok z w) (i:Int) (hx:a.eval x=.int .i64 i) (hi:(Lit.int .i64 i).wf=true)
  (hK:wpList Tryz.prog ops Q rest (a.put o.dst (g i)) w):wpList Tryz.prog ops Q (o :: rest) a w:=by
 refine wpList_plain hg fun K' hK'=>?_
 have hrun:=h.look ht hz hi
 unfold Oper.wp
 simp [execOp,hop,hm,hx,hrun,Result.andThen]
 exact hK' _ _ hK
theorem dL(w:World){ops:Array Oper}{rest:List Oper}{o:Oper}{a:Act}{Q:Exit->Act->World->Prop}(hg:o.guard=none)(m x y:Operand)(t:TypeId)(hop:o.op=Op.mapUpdate t m x y)(e:TypeId)
  (ht:Tryz.prog.underlying t=some (.map 3 e)) (z:Value) (b n:Nat) (g:Int->Value) (hm:a.eval m=.map (some b)) (h:MapV w z b n g) (hn:n < maxLen) (i:Int) (hx:a.eval x=.int .i64 i) (hi:(Lit.int .i64 i).wf=true) (v:Value) (hy:a.eval y=v)
  (hK:∀ w',MapV w' z b (n+1) (lF g i v)->w.grownBy w' (some b)->wpList Tryz.prog ops Q rest (a.put o.dst undef) w'):wpList Tryz.prog ops Q (o :: rest) a w:=by
 refine wpList_plain hg fun K' hK'=>?_
 obtain⟨w',hrun,r1,r2⟩:=h.store ht hn hi v
 unfold Oper.wp
 simp [execOp,hop,hm,hx,hy,hrun,Result.andThen]
 exact hK' _ _ (hK w' r1 r2)
abbrev bx(b:Nat):Value:=.pointer (some ⟨b,0,none⟩)
theorem sX{w w':World}{b:Nat}(h:∃ es clock,w.heap[b]?=some (.map es clock))(hf:Fr (fun k=>k=b) w w'):CK w w':=
 ⟨hf.size,fun k cur t fr _ hc=>(hf.block k (aB hc) (fun e=>by
  obtain⟨es,clock,hb⟩:=h
  rw [e,hb] at hc
  cases hc)).trans hc⟩
structure TW(GF OF RF GT OT RT MT:Nat)(w:World)(bm bg bo br bp bb:Nat)(c f:Bool):Prop where
 m:w.heap[bm]?=some (.cells #[.bool c,.bool f] 27 (0,0))
 g:w.heap[bg]?=some (.cells #[.func (.func GF) #[] #[bx bp]] GT (0,0))
 o:w.heap[bo]?=some (.cells #[.func (.func OF) #[] #[bx bm,bx bg,bx bo,bx br,bx bp]] OT (0,0))
 r:w.heap[br]?=some (.cells #[.func (.func RF) #[] #[]] RT (0,0))
 p:w.heap[bp]?=some (.cells #[.map (some bb)] MT (0,0))
theorem TW.ck{GF OF RF GT OT RT MT:Nat}{w w':World}{bm bg bo br bp bb:Nat}{c f:Bool}(h:TW GF OF RF GT OT RT MT w bm bg bo br bp bb c f)(hc:CK w w'):TW GF OF RF GT OT RT MT w' bm bg bo br bp bb c f:=
 ⟨hc.same _ _ _ _ (aB h.m) h.m,hc.same _ _ _ _ (aB h.g) h.g,hc.same _ _ _ _ (aB h.o) h.o,hc.same _ _ _ _ (aB h.r) h.r,hc.same _ _ _ _ (aB h.p) h.p⟩
def cL(f:Fl)(c o:Bool)(v:Value)(g:Value):Array Value:=#[.int .i64 f.k,.int .i64 f.n,.int .i64 f.mn,.int .i64 f.mx,.slice f.rq f.rs.length f.rc,.slice f.kq f.kl f.kc,.bool c,.bool o,v,g]
def Wr2(b s:Nat):Nat->Prop:=fun k=>k=b\/k=s
theorem eD{w W wr:World}{b s:Nat}(h:∃ es clock,W.heap[b]?=some (.map es clock))(hs:w.heap.size<=s)(hB:Below w.heap.size w W)(hf:Fr (Wr2 b s) W wr):CK w wr:=
 ⟨Nat.le_trans hB.size hf.size,fun k cur t fr hk hc=>by
  have h1:=(hB.block k hk).trans hc
  refine(hf.block k (aB h1) ?_).trans h1
  rintro (e | e)
  ·obtain⟨es,clock,hb⟩:=h
   rw [e,hb] at h1
   cases h1
  ·omega⟩
theorem pR{w W wr:World}{b s:Nat}(hs:w.heap.size<=s)(hB:Below w.heap.size w W)(hf:Fr (Wr2 b s) W wr):Fr (fun k=>k=b) w wr:=
 ⟨hf.os.trans hB.os,hf.tape.trans hB.tape,hf.output.trans hB.output,Nat.le_trans hB.size hf.size,fun k hk hn=>(hf.block k (Nat.lt_of_lt_of_le hk hB.size) (fun z=>by
  rcases z with e | e
  ·exact hn e
  ·omega)).trans (hB.block k hk)⟩
theorem oR{T:Type}(en:T->Value)(g:Int->T)(k:Int)(x:T):lF (fun i=>en (g i)) k (en x)=fun i=>en (lF g k x i):=by
 funext i
 unfold lF
 split <;> rfl
def bF(W:World)(b:Nat):Nat->List Value->World
 | _,[]=>W
 | o,v :: vs=>bF (W.setCell ⟨b,o,none⟩ v) b (o+1) vs
theorem aU(b:Nat):∀ (vs:List Value) (o:Nat) (W:World),Fr (fun k=>k=b) W (bF W b o vs)
 | [],_,W=>Fr.refl _ W
 | v :: vs,o,W=>((Fr.refl (fun k=>k=b) W).setCell (p:=⟨b,o,none⟩) rfl v).trans (aU b vs (o+1) _)
theorem rI(b:Nat)(t:TypeId):∀ (vs pre:List Value) (W:World) (cs:List Value),W.heap[b]?=some (.cells (pre ++ cs).toArray t (0,0))->cs.length=vs.length->(bF W b pre.length vs).heap[b]?=some (.cells (pre ++ vs).toArray t (0,0))
 | [],pre,W,cs,h,hl=>by
  have:cs=[]:=List.eq_nil_of_length_eq_zero hl
  subst this
  exact h
 | v :: vs,pre,W,[],h,hl=>by simp at hl
 | v :: vs,pre,W,c :: cs,h,hl=>by
  have h1:=aN h pre.length v
  have h2:=rI b t vs (pre ++ [v]) (W.setCell ⟨b,pre.length,none⟩ v) cs (by rw [h1];simp) (by simpa using hl)
  rw [List.length_append,List.length_singleton] at h2
  simpa [bF] using h2
theorem aW{W:World}{b:Nat}{t:TypeId}{cs:Array Value}(h:W.heap[b]?=some (.cells cs t (0,0)))(vs:List Value)(hl:cs.size=vs.length):(bF W b 0 vs).heap[b]?=some (.cells vs.toArray t (0,0)):=
 rI b t vs [] W cs.toList (by simpa using h) (by simpa using hl)
theorem jP{S:Nat->Prop}{a b c:World}{x:Nat}(h:Fr S a b)(k:Fr (fun z=>z=x) b c)(hx:a.heap.size<=x):Fr S a c:=
 ⟨k.os.trans h.os,k.tape.trans h.tape,k.output.trans h.output,Nat.le_trans h.size k.size,fun i hi hs=>(k.block i (Nat.lt_of_lt_of_le hi h.size) (by omega)).trans (h.block i hi hs)⟩
theorem Fr.grownNew{S:Nat->Prop}{a w w':World}{row:Option Nat}(h:Fr S a w)(hg:w.grownBy w' row)(hr:∀ k,row=some k->a.heap.size<=k):Fr S a w':=
 ⟨hg.os.trans h.os,hg.tape.trans h.tape,hg.output.trans h.output,Nat.le_trans h.size hg.size,fun k hk hs=>(hg.block k (Nat.lt_of_lt_of_le hk h.size) (fun e=>by have:=hr k e.symm;omega)).trans (h.block k hk hs)⟩
theorem bU(W:World)(cs:List Value)(t:TypeId):∀ (j:Nat) (u:Value),cs[j]?=some u->(W.alloc (.cells cs.toArray t)).cell? ((⟨W.heap.size,0,none⟩:Addr).add j)=some u:=by
 intro j u h
 have hadd:(⟨W.heap.size,0,none⟩:Addr).add j=⟨W.heap.size,j,none⟩:=by unfold Addr.add;split <;> simp_all
 rw [hadd]
 exact aA (aE W (.cells cs.toArray t)) (i:=j) (by simpa using h)
theorem bG{w:World}{base:Nat}{e:TypeId}{size n b:Nat}{v:Value}{xs:List Value}(h:w.ownsRow base e size v n xs)(hb:∃ es cl,w.heap[b]?=some (.map es cl)):v.ownBlock≠some b:=fun q=>by
 obtain⟨_,_,cur,hc⟩:=aF h q
 obtain⟨es,cl,hm⟩:=hb
 rw [hm] at hc
 cases hc
theorem aJ{w:World}{k:Nat}(o:Obj)(h:k=w.heap.size):(w.alloc o).heap[k]?=some o:=by rw [h];exact aE w o
theorem iU{α:Type}(f:α->List Value)(N:Nat)(hf:∀ x,(f x).length=N):∀ (xs:List α) (i:Nat) (x:α),xs[i]?=some x->∀ j,j < N->(xs.flatMap f)[i * N+j]?=(f x)[j]?
 | [],i,x,h,_,_=>by simp at h
 | y :: ys,0,x,h,j,hj=>by
  simp at h
  subst h
  rw [List.flatMap_cons,Nat.zero_mul,Nat.zero_add,List.getElem?_append_left (by rw [hf];exact hj)]
 | y :: ys,i+1,x,h,j,hj=>by
  rw [List.flatMap_cons,List.getElem?_append_right (by rw [hf,Nat.add_mul];omega),hf,show (i+1) * N+j - N=i * N+j by rw [Nat.add_mul];omega]
  exact iU f N hf ys i x (by simpa using h) j hj
def top(m:Bool):Int:=if m then 1114111 else 255
def bS(m:Bool)(c:Int):Prop:=0<=c/\c<=top m/\(m=true->c < 55296\/57343 < c)
def cS(m:Bool):List (Int × Int):=if m then [(0,55295),(57344,1114111)] else [(0,255)]
theorem iJ(m:Bool):IsC (cS m) (bS m):=by
 cases m with
 | true=>
  refine⟨⟨by simp [cS],by simp [cS]⟩,fun r hr=>?_,fun c=>?_⟩
  ·simp [cS] at hr
   rcases hr with rfl | rfl <;> simp
  ·simp [cS,In,bS,top]
   omega
 | false=>
  refine⟨⟨by simp [cS],by simp [cS]⟩,fun r hr=>?_,fun c=>?_⟩
  ·simp [cS] at hr
   subst hr;simp
  ·simp [cS,In,bS,top]
theorem hP(m:Bool):(cS m).length<=2:=by cases m <;> simp [cS]
theorem aT7(m:Bool)(w:World):Calls Tryz.prog 217 #[.bool m] w fun e w'=>e=.returned (.int .i64 (top m))/\w'=w:=by
 cases m with
 | true=>
  go_enter Tryz.func217,Tryz.ntmps217
  go_wp2
  go_ret
  exact⟨rfl,rfl⟩
 | false=>
  go_enter Tryz.func217,Tryz.ntmps217
  go_wp2
  go_ret
  exact⟨rfl,rfl⟩
theorem aS8(m:Bool)(w:World):Calls Tryz.prog 212 #[.bool m] w fun e w'=>∃ v,e=.returned v/\RR w.heap.size w' v (cS m)/\Below w.heap.size w w':=by
 cases m with
 | true=>
  go_enter Tryz.func212,Tryz.ntmps212
  go_wp2_with (go_at_call 217;refine(aT7 _ _).mono ?_;rintro e w5 ⟨rfl,h5⟩;subst w5)
  go_ret
  exact⟨_,rfl,World.ownsRow_lit w #[.int .i64 0,.int .i64 55295,.int .i64 57344,.int .i64 1114111] 2 lz9 (by unfold maxLen;omega) rfl,bz9⟩
 | false=>
  go_enter Tryz.func212,Tryz.ntmps212
  go_wp2_with (go_at_call 217;refine(aT7 _ _).mono ?_;rintro e w5 ⟨rfl,h5⟩;subst w5)
  go_ret
  exact⟨_,rfl,World.ownsRow_lit w #[.int .i64 0,.int .i64 255] 1 lz9 (by unfold maxLen;omega) rfl,bz9⟩
end Go.Proofs.YtjafnbjipgediaaGreatDoor

/-
  Parts of the proof.
-/
import Derived.Test.YtdgfpiekjigfnaaGreatDoorHoldsProofA0
import Derived.Test.YtdgfpiekjigfnaaGreatDoorHoldsProofB2
import Derived.Maps.Views
import Derived.Maps.OwnOps
namespace Go.Proofs.YtdgfpiekjigfnaaGreatDoor
open Go Go.RowKit
section
abbrev dJ(T:Type):=Fl->List Tr->List T->(Int->T)->T
def nY{T:Type}(g:Int->T)(k:Int)(x:T):Int->T:=fun i=>if i=k then x else g i
theorem uV{T:Type}(g:Int->T)(k:Int)(x:T):nY g k x k=x:=if_pos rfl
theorem nC{T:Type}(g:Int->T){k i:Int}(x:T)(h:i≠k):nY g k x i=g i:=if_neg h
mutual
def ev{T:Type}(ρ:dJ T):(Int->T)->Tr->T × (Int->T)
 | g,.mk f ks=>(ρ f ks (evs ρ g ks).1 (evs ρ g ks).2,if f.k=7 then nY (evs ρ g ks).2 f.n (ρ f ks (evs ρ g ks).1 (evs ρ g ks).2) else (evs ρ g ks).2)
def evs{T:Type}(ρ:dJ T):(Int->T)->List Tr->List T × (Int->T)
 | g,[]=>([],g)
 | g,t :: ts=>((ev ρ g t).1 :: (evs ρ (ev ρ g t).2 ts).1,(evs ρ (ev ρ g t).2 ts).2)
end
mutual
def evG{T:Type}(ρ:dJ T)(G:Int->T):Tr->T
 | .mk f ks=>ρ f ks (xG ρ G ks) G
def xG{T:Type}(ρ:dJ T)(G:Int->T):List Tr->List T
 | []=>[]
 | t :: ts=>evG ρ G t :: xG ρ G ts
end
variable {T:Type} {ρ:dJ T}
theorem kN(g:Int->T)(t:Tr):(ev ρ g t).1=ρ t.f t.ks (evs ρ g t.ks).1 (evs ρ g t.ks).2:=by cases t;rw [ev];rfl
theorem lP(g:Int->T)(t:Tr):(ev ρ g t).2=if t.f.k=7 then nY (evs ρ g t.ks).2 t.f.n (ev ρ g t).1 else (evs ρ g t.ks).2:=by cases t;rw [ev];rfl
theorem cQ(g:Int->T):evs ρ g []=([],g):=by rw [evs]
theorem eN(g:Int->T)(t:Tr)(ts:List Tr):evs ρ g (t :: ts)=((ev ρ g t).1 :: (evs ρ (ev ρ g t).2 ts).1,(evs ρ (ev ρ g t).2 ts).2):=by rw [evs]
theorem aG7(a b:List Tr):∀ (g:Int->T),evs ρ g (a ++ b)=((evs ρ g a).1 ++ (evs ρ (evs ρ g a).2 b).1,(evs ρ (evs ρ g a).2 b).2):=by
 induction a with
 | nil=>intro g;rw [cQ];rfl
 | cons t a ih=>intro g;rw [aAF,eN,eN,ih];rfl
theorem fT(ks:List Tr):∀ (g:Int->T),(evs ρ g ks).1.length=ks.length:=by
 induction ks with
 | nil=>intro g;rw [cQ];rfl
 | cons t a ih=>intro g;rw [eN];simp [ih]
theorem dD{ks:List Tr}{j:Nat}{u:Tr}(h:ks[j]?=some u)(g:Int->T) :
  (evs ρ g (ks.take (j+1))).1=(evs ρ g (ks.take j)).1 ++ [(ev ρ (evs ρ g (ks.take j)).2 u).1]/\(evs ρ g (ks.take (j+1))).2=(ev ρ (evs ρ g (ks.take j)).2 u).2:=by
 rw [t7,h,aAX,aG7,eN,cQ];exact⟨rfl,rfl⟩
theorem nP(G:Int->T)(t:Tr):evG ρ G t=ρ t.f t.ks (xG ρ G t.ks) G:=by cases t;rw [evG];rfl
theorem pE(G:Int->T)(ks:List Tr):xG ρ G ks=ks.map (evG ρ G):=by
 induction ks with
 | nil=>rw [xG];rfl
 | cons t a ih=>rw [xG,ih];rfl
theorem aM1{NP:Tr->Prop}{Good:T->Prop}(hg:∀ t xs g,NP t->xs.length=t.ks.length->(∀ x∈xs,Good x)->(∀ i,Good (g i))->Good (ρ t.f t.ks xs g))(t:Tr):∀ g:Int->T,bK NP t->(∀ i,Good (g i))->Good (ev ρ g t).1/\∀ i,Good ((ev ρ g t).2 i):=by
 refine Tr.ind (P:=fun t=>∀ g:Int->T,bK NP t->(∀ i,Good (g i))->Good (ev ρ g t).1/\∀ i,Good ((ev ρ g t).2 i)) (fun t ih g he h0=>?_) t;have hl:∀ (ks:List Tr) (g:Int->T),(∀ u∈ks,u∈t.ks)->(∀ i,Good (g i))->(∀ x∈(evs ρ g ks).1,Good x)/\∀ i,Good ((evs ρ g ks).2 i):=by
  intro ks
  induction ks with
  | nil=>intro g _ h;rw [cQ];exact⟨fun x hx=>(by cases hx),h⟩
  | cons u us ih2=>
   intro g hs h;obtain⟨a,b⟩:=ih u (hs u (r9 ..)) g (bC he (hs u (r9 ..))) h;obtain⟨p,q⟩:=ih2 (ev ρ g u).2 (fun v hv=>hs v (r8 _ hv)) b;rw [eN];refine⟨fun x hx=>?_,q⟩;rcases aBB.1 hx with e | e
   ·rw [e];exact a
   ·exact p x e
 obtain⟨p,q⟩:=hl t.ks g (fun _ h=>h) h0;have hx:Good (ev ρ g t).1:=by
  rw [kN];exact hg t _ _ ((aQ t).1 he).1 (fT _ _) p q
 refine⟨hx,fun i=>?_⟩;rw [lP]
 split
 ·unfold nY
  split
  ·exact hx
  ·exact q i
 ·exact q i
theorem eM{NP:Tr->Prop}{Good:T->Prop}(hg:∀ t xs g,NP t->xs.length=t.ks.length->(∀ x∈xs,Good x)->(∀ i,Good (g i))->Good (ρ t.f t.ks xs g)):∀ (ks:List Tr) (g:Int->T),(∀ u∈ks,bK NP u)->(∀ i,Good (g i))->(∀ x∈(evs ρ g ks).1,Good x)/\∀ i,Good ((evs ρ g ks).2 i)
 | [],g,_,h=>by rw [cQ];exact⟨fun x hx=>(by cases hx),h⟩
 | u :: us,g,hs,h=>by
  obtain⟨a,b⟩:=aM1 hg u g (hs u (r9 ..)) h;obtain⟨p,q⟩:=eM hg us (ev ρ g u).2 (fun v hv=>hs v (r8 _ hv)) b;rw [eN];refine⟨fun x hx=>?_,q⟩;rcases aBB.1 hx with e | e
  ·rw [e];exact a
  ·exact p x e
theorem bL{ks:List Tr}{j:Nat}{u:Tr}(h:ks[j]?=some u):szs (ks.take (j+1))=szs (ks.take j)+u.sz:=by
 have app:∀ a b:List Tr,szs (a ++ b)=szs a+szs b:=by
  intro a b
  induction a with
  | nil=>rw [eP];simp
  | cons x a ih=>rw [aAF,fM,fM,ih];omega
 rw [t7,h,aAX,app,fM,eP]
 rfl
theorem cO(ks:List Tr):ks.length<=szs ks:=by
 induction ks with
 | nil=>simp
 | cons x a ih=>rw [fM,o5];have:=dQ x;omega
theorem lB(ks:List Tr)(j:Nat):szs (ks.take j)<=szs ks:=by
 have app:∀ a b:List Tr,szs (a ++ b)=szs a+szs b:=by
  intro a b
  induction a with
  | nil=>rw [eP];simp
  | cons x a ih=>rw [aAF,fM,fM,ih];omega
 have:=app (ks.take j) (ks.drop j);rw [aBX] at this;omega
end
def bZ6(v:Value):Option (DataW Value × List MemPlace):=some (.held v,[])
def MapV(w:World)(z:Value)(b n:Nat)(g:Int->Value):Prop:=
 ∃ D:DataW Value,w.ownsMap Tryz.prog 3 bZ6 b n D/\Maps.IsMap D/\∀ i:Int,D.atKey (.int .i64 i) (.held z)=.held (g i)
theorem mA:Tryz.prog.underlying 3=some (.int .i64):=by kernel_rfl
theorem MapV.made(w:World)(z:Value):MapV (w.alloc (.map #[] 0)) z w.heap.size 0 (fun _=>z):=
 ⟨.map [],World.ownsMap_made w _ _ _,Maps.isMap_empty,fun _=>rfl⟩
theorem MapV.lt{w:World}{z:Value}{b n:Nat}{g:Int->Value}(h:MapV w z b n g):b < w.heap.size:=by
 obtain⟨D,h1,-⟩:=h;exact h1.lt
theorem MapV.block{w:World}{z:Value}{b n:Nat}{g:Int->Value}(h:MapV w z b n g):∃ es clock,w.heap[b]?=some (.map es clock):=by
 obtain⟨D,⟨es,clock,hb,-⟩,-⟩:=h;exact⟨es,clock,hb⟩
theorem MapV.mono{w:World}{z:Value}{b n m:Nat}{g:Int->Value}(h:MapV w z b n g)(hm:n<=m):MapV w z b m g:=by
 obtain⟨D,h1,h2⟩:=h;exact⟨D,h1.mono hm,h2⟩
theorem MapV.same{w w':World}{z:Value}{b n:Nat}{g:Int->Value}(h:MapV w z b n g)(hb:w'.heap[b]?=w.heap[b]?):MapV w' z b n g:=by
 obtain⟨D,⟨es,clock,h1,h2⟩,h3⟩:=h;exact⟨D,⟨es,clock,hb.trans h1,h2⟩,h3⟩
theorem MapV.kept{w w':World}{z:Value}{b n:Nat}{g:Int->Value}(h:MapV w z b n g)(hb:wBl w w'):MapV w' z b n g:=h.same (hb.block b h.lt)
theorem MapV.fr{S:Nat->Prop}{w w':World}{z:Value}{b n:Nat}{g:Int->Value}(h:MapV w z b n g)(hf:Fr S w w')(hs:¬ S b):MapV w' z b n g:=h.same (hf.block b h.lt hs)
theorem MapV.look{w:World}{z:Value}{b n:Nat}{g:Int->Value}(h:MapV w z b n g){t e:TypeId}(ht:Tryz.prog.underlying t=some (.map 3 e))(hz:(zeroValue e).run Tryz.prog w=.ok z w){i:Int}(hi:(Lit.int .i64 i).wf=true) :
  (Instr.lookup t (.map (some b)) (.int .i64 i) false).run Tryz.prog w=.ok (g i) w:=by
 obtain⟨D,h1,h2,h3⟩:=h;obtain⟨v,ps,r1,r2⟩:=h1.lookup (Maps.int_keyed mA) ht hz (zd:=.held z) (zp:=[]) rfl (Maps.keyOf_int_mk mA hi);rw [h3 i] at r2;have r3:(DataW.held v:DataW Value)=.held (g i):=congrArg Prod.fst (t6 r2);have r4:v=g i:=DataW.held.inj r3;exact r4 ▸ r1
theorem MapV.store{w:World}{z:Value}{b n:Nat}{g:Int->Value}(h:MapV w z b n g){t e:TypeId}(ht:Tryz.prog.underlying t=some (.map 3 e))(hn:n < maxLen){i:Int}(hi:(Lit.int .i64 i).wf=true)(v:Value) :
  ∃ w',(Instr.mapUpdate t (.map (some b)) (.int .i64 i) v).run Tryz.prog w=.ok () w'/\MapV w' z b (n+1) (nY g i v)/\w.grownBy w' (some b):=by
 obtain⟨D,h1,h2,h3⟩:=h;obtain⟨w',r1,r2,r3⟩:=h1.update (Maps.int_keyed mA) ht hn (val:=v) (d:=.held v) (ps:=[]) (Maps.keyOf_int_mk mA hi) rfl;refine⟨w',r1,⟨_,r2,h2.put _ _,fun j=>?_⟩,r3⟩;by_cases hj:j=i
 ·subst hj;rw [Maps.atKey_put_same h2 (show WideAt.IsKeyLit (.int .i64 j) from trivial),uV]
 ·rw [Maps.atKey_put_other (fun e=>hj (by injection e)),nC _ _ hj,h3 j]
theorem mW(w:World){ops:Array Oper}{rest:List Oper}{o:Oper}{a:Act}{Q:Exit->Act->World->Prop}(hg:o.guard=none)(m x:Operand)(t:TypeId)(hop:o.op=Op.lookup t m x false)(e:TypeId)
  (ht:Tryz.prog.underlying t=some (.map 3 e)) (z:Value) (b n:Nat) (g:Int->Value) (hm:a.eval m=.map (some b)) (h:MapV w z b n g) (hz:(zeroValue e).run Tryz.prog w=.ok z w) (i:Int) (hx:a.eval x=.int .i64 i) (hi:(Lit.int .i64 i).wf=true)
  (hK:wpList Tryz.prog ops Q rest (a.put o.dst (g i)) w):wpList Tryz.prog ops Q (o :: rest) a w:=by
 refine wpList_plain hg fun K' hK'=>?_;have hrun:=h.look ht hz hi;unfold Oper.wp;simp [execOp,hop,hm,hx,hrun,Result.andThen];exact hK' _ _ hK
theorem eI(w:World){ops:Array Oper}{rest:List Oper}{o:Oper}{a:Act}{Q:Exit->Act->World->Prop}(hg:o.guard=none)(m x y:Operand)(t:TypeId)(hop:o.op=Op.mapUpdate t m x y)(e:TypeId)
  (ht:Tryz.prog.underlying t=some (.map 3 e)) (z:Value) (b n:Nat) (g:Int->Value) (hm:a.eval m=.map (some b)) (h:MapV w z b n g) (hn:n < maxLen) (i:Int) (hx:a.eval x=.int .i64 i) (hi:(Lit.int .i64 i).wf=true) (v:Value) (hy:a.eval y=v)
  (hK:∀ w',MapV w' z b (n+1) (nY g i v)->w.grownBy w' (some b)->wpList Tryz.prog ops Q rest (a.put o.dst undef) w'):wpList Tryz.prog ops Q (o :: rest) a w:=by
 refine wpList_plain hg fun K' hK'=>?_;obtain⟨w',hrun,r1,r2⟩:=h.store ht hn hi v;unfold Oper.wp;simp [execOp,hop,hm,hx,hy,hrun,Result.andThen];exact hK' _ _ (hK w' r1 r2)
abbrev bx(b:Nat):Value:=.pointer (some ⟨b,0,none⟩)
theorem xJ{w w':World}{b:Nat}(h:∃ es clock,w.heap[b]?=some (.map es clock))(hf:Fr (fun k=>k=b) w w'):CK w w':=
 ⟨hf.size,fun k cur t fr _ hc=>(hf.block k (aB hc) (fun e=>by
  obtain⟨es,clock,hb⟩:=h;rw [e,hb] at hc;cases hc)).trans hc⟩
structure TW(GF OF RF GT OT RT MT:Nat)(w:World)(bm bg bo br bp bb:Nat)(c f:Bool):Prop where
 m:w.heap[bm]?=some (.cells #[.bool c,.bool f] 27 (0,0))
 g:w.heap[bg]?=some (.cells #[.func (.func GF) #[] #[bx bp]] GT (0,0))
 o:w.heap[bo]?=some (.cells #[.func (.func OF) #[] #[bx bm,bx bg,bx bo,bx br,bx bp]] OT (0,0))
 r:w.heap[br]?=some (.cells #[.func (.func RF) #[] #[]] RT (0,0))
 p:w.heap[bp]?=some (.cells #[.map (some bb)] MT (0,0))
theorem TW.ck{GF OF RF GT OT RT MT:Nat}{w w':World}{bm bg bo br bp bb:Nat}{c f:Bool}(h:TW GF OF RF GT OT RT MT w bm bg bo br bp bb c f)(hc:CK w w'):TW GF OF RF GT OT RT MT w' bm bg bo br bp bb c f:=
 ⟨hc.same _ _ _ _ (aB h.m) h.m,hc.same _ _ _ _ (aB h.g) h.g,hc.same _ _ _ _ (aB h.o) h.o,hc.same _ _ _ _ (aB h.r) h.r,hc.same _ _ _ _ (aB h.p) h.p⟩
def cX(f:Fl)(c o:Bool)(v:Value)(g:Value):Array Value:=#[.I f.k,.I f.n,.I f.mn,.I f.mx,.slice f.rq f.rs.length f.rc,.slice f.kq f.kl f.kc,.bool c,.bool o,v,g]
def Wr2(b s:Nat):Nat->Prop:=fun k=>k=b\/k=s
theorem fD{w W wr:World}{b s:Nat}(h:∃ es clock,W.heap[b]?=some (.map es clock))(hs:w.heap.size<=s)(hB:wBl w W)(hf:Fr (Wr2 b s) W wr):CK w wr:=
 ⟨m8 hB.size hf.size,fun k cur t fr hk hc=>by
  have h1:=(hB.block k hk).trans hc;refine(hf.block k (aB h1) ?_).trans h1;rintro (e | e)
  ·obtain⟨es,clock,hb⟩:=h;rw [e,hb] at h1;cases h1
  ·omega⟩
theorem tD{w W wr:World}{b s:Nat}(hs:w.heap.size<=s)(hB:wBl w W)(hf:Fr (Wr2 b s) W wr):Fr (fun k=>k=b) w wr:=
 ⟨hf.os.trans hB.os,hf.tape.trans hB.tape,hf.output.trans hB.output,m8 hB.size hf.size,fun k hk hn=>(hf.block k (n9 hk hB.size) (fun z=>by
  rcases z with e | e
  ·exact hn e
  ·omega)).trans (hB.block k hk)⟩
theorem rW{T:Type}(en:T->Value)(g:Int->T)(k:Int)(x:T):nY (fun i=>en (g i)) k (en x)=fun i=>en (nY g k x i):=by
 funext i
 unfold nY
 split <;> rfl
def bF(W:World)(b:Nat):Nat->List Value->World
 | _,[]=>W
 | o,v :: vs=>bF (W.setCell ⟨b,o,none⟩ v) b (o+1) vs
theorem aY(b:Nat):∀ (vs:List Value) (o:Nat) (W:World),Fr (fun k=>k=b) W (bF W b o vs)
 | [],_,W=>Fr.refl _ W
 | v :: vs,o,W=>((Fr.refl (fun k=>k=b) W).setCell (p:=⟨b,o,none⟩) rfl v).trans (aY b vs (o+1) _)
theorem vC(b:Nat)(t:TypeId):∀ (vs pre:List Value) (W:World) (cs:List Value),W.heap[b]?=some (.cells (pre ++ cs).toArray t (0,0))->cs.length=vs.length->(bF W b pre.length vs).heap[b]?=some (.cells (pre ++ vs).toArray t (0,0))
 | [],pre,W,cs,h,hl=>by
  have:cs=[]:=aAK hl;subst this;exact h
 | v :: vs,pre,W,[],h,hl=>by simp at hl
 | v :: vs,pre,W,c :: cs,h,hl=>by
  have h1:=aN h pre.length v;have h2:=vC b t vs (pre ++ [v]) (W.setCell ⟨b,pre.length,none⟩ v) cs (by rw [h1];simp) (by simpa using hl);rw [o4,aCD] at h2;simpa [bF] using h2
theorem bA{W:World}{b:Nat}{t:TypeId}{cs:Array Value}(h:W.heap[b]?=some (.cells cs t (0,0)))(vs:List Value)(hl:cs.size=vs.length):(bF W b 0 vs).heap[b]?=some (.cells vs.toArray t (0,0)):=
 vC b t vs [] W cs.toList (by simpa using h) (by simpa using hl)
theorem lO{S:Nat->Prop}{a b c:World}{x:Nat}(h:Fr S a b)(k:Fr (fun z=>z=x) b c)(hx:a.heap.size<=x):Fr S a c:=
 ⟨k.os.trans h.os,k.tape.trans h.tape,k.output.trans h.output,m8 h.size k.size,fun i hi hs=>(k.block i (n9 hi h.size) (by omega)).trans (h.block i hi hs)⟩
theorem Fr.grownNew{S:Nat->Prop}{a w w':World}{row:Option Nat}(h:Fr S a w)(hg:w.grownBy w' row)(hr:∀ k,row=some k->a.heap.size<=k):Fr S a w':=
 ⟨hg.os.trans h.os,hg.tape.trans h.tape,hg.output.trans h.output,m8 h.size hg.size,fun k hk hs=>(hg.block k (n9 hk h.size) (fun e=>by have:=hr k e.symm;omega)).trans (h.block k hk hs)⟩
theorem bI(W:World)(cs:List Value)(t:TypeId):∀ (j:Nat) (u:Value),cs[j]?=some u->(W.alloc (.cells cs.toArray t)).cell? ((⟨W.heap.size,0,none⟩:Addr).add j)=some u:=by
 intro j u h;have hadd:(⟨W.heap.size,0,none⟩:Addr).add j=⟨W.heap.size,j,none⟩:=by unfold Addr.add;split <;> simp_all
 rw [hadd];exact aA (aE W (.cells cs.toArray t)) (i:=j) (by simpa using h)
theorem bJ{w:World}{base:Nat}{e:TypeId}{size n b:Nat}{v:Value}{xs:List Value}(h:w.ownsRow base e size v n xs)(hb:∃ es cl,w.heap[b]?=some (.map es cl)):v.ownBlock≠some b:=fun q=>by
 obtain⟨_,_,cur,hc⟩:=aF h q;obtain⟨es,cl,hm⟩:=hb;rw [hm] at hc;cases hc
theorem aK{w:World}{k:Nat}(o:Obj)(h:k=w.heap.size):(w.alloc o).heap[k]?=some o:=by rw [h];exact aE w o
theorem kK{α:Type}(f:α->List Value)(N:Nat)(hf:∀ x,(f x).length=N):∀ (xs:List α) (i:Nat) (x:α),xs[i]?=some x->∀ j,j < N->(xs.flatMap f)[i * N+j]?=(f x)[j]?
 | [],i,x,h,_,_=>by simp at h
 | y :: ys,0,x,h,j,hj=>by
  simp at h;subst h;rw [aAZ,aBJ,m9,aAC (by rw [hf];exact hj)]
 | y :: ys,i+1,x,h,j,hj=>by
  rw [aAZ,aAD (by rw [hf,Nat.add_mul];omega),hf,show (i+1) * N+j - N=i * N+j by rw [Nat.add_mul];omega];exact kK f N hf ys i x (by simpa using h) j hj
def top(m:Bool):Int:=if m then 1114111 else 255
def bP(m:Bool)(c:Int):Prop:=0<=c/\c<=top m/\(m=true->c < 55296\/57343 < c)
def dL(m:Bool):lIi:=if m then [(0,55295),(57344,1114111)] else [(0,255)]
theorem jW(m:Bool):IsC (dL m) (bP m):=by
 cases m with
 | true=>
  refine⟨⟨by simp [dL],by simp [dL]⟩,fun r hr=>?_,fun c=>?_⟩
  ·simp [dL] at hr;rcases hr with rfl | rfl <;> simp
  ·simp [dL,In,bP,top];omega
 | false=>
  refine⟨⟨by simp [dL],by simp [dL]⟩,fun r hr=>?_,fun c=>?_⟩
  ·simp [dL] at hr;subst hr;simp
  ·simp [dL,In,bP,top]
theorem jD(m:Bool):(dL m).length<=2:=by cases m <;> simp [dL]
theorem bO9(m:Bool)(w:World):Calls Tryz.prog 181 #[.bool m] w fun e w'=>e=.returned (.I (top m))/\w'=w:=by
 cases m with
 | true=>
  go_enter Tryz.func181,Tryz.ntmps181;go_wp2;go_ret;exact⟨rfl,rfl⟩
 | false=>
  go_enter Tryz.func181,Tryz.ntmps181;go_wp2;go_ret;exact⟨rfl,rfl⟩
theorem bN7(m:Bool)(w:World):Calls Tryz.prog 176 #[.bool m] w fun e w'=>∃ v,e=.returned v/\RR w.heap.size w' v (dL m)/\wBl w w':=by
 cases m with
 | true=>
  go_enter Tryz.func176,Tryz.ntmps176;go_wp2_with (go_at_call 181;refine(bO9 _ _).mono ?_;rintro e w5 ⟨rfl,h5⟩;subst w5)
  go_ret;exact⟨_,rfl,World.ownsRow_lit w #[.I 0,.I 55295,.I 57344,.I 1114111] 2 lz9 (by unfold maxLen;omega) rfl,bz9⟩
 | false=>
  go_enter Tryz.func176,Tryz.ntmps176;go_wp2_with (go_at_call 181;refine(bO9 _ _).mono ?_;rintro e w5 ⟨rfl,h5⟩;subst w5)
  go_ret;exact⟨_,rfl,World.ownsRow_lit w #[.I 0,.I 255] 1 lz9 (by unfold maxLen;omega) rfl,bz9⟩
end Go.Proofs.YtdgfpiekjigfnaaGreatDoor

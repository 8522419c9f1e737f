/-
  Parts of the proof.
-/
import Derived.Test.YtlamifbjklpdbaaGreatLessProofA0
import Derived.Test.YtlamifbjklpdbaaGreatProg
import Derived.WalkKit
import Derived.WalkSpells
import Derived.WalkLawsBesides
import Derived.Below
import Derived.Laws.AppendOwn
import Derived.Laws.MakeOwn
import Derived.Laws.CopyOwn
import Derived.BigQuiet
import Derived.ProofKit
import Derived.OpenShut
import Derived.Stop.Joined
import Derived.ChangeOld
import Derived.ChangeSlices
import Derived.Carry
import Derived.Maps.AppendAt
import Derived.OwnWalk
import Derived.Deep.RegionLaw
import Derived.Deep.RegionWith
import Derived.Deep.DeepCutAuto
import Derived.Laws.OwnMore
import Derived.RangeFuncNested
import Derived.RangeFuncBound
import Derived.RangeFuncCalls
import Derived.RangeFuncLeaves
import Derived.RangeFuncBox
import Derived.Shelf.Abstract
import Derived.Shelf.RegionOpen
import Derived.OwnWalkIn
import Derived.TacticsInMore
import Derived.LoopNIn
import Derived.LoopIn
import Derived.Laws.AppendOwnNone
set_option linter.unusedSimpArgs false
set_option maxRecDepth 100000
set_option maxHeartbeats 8000000
namespace Go.Proofs.YtlamifbjklpdbaaGreat
open Go Go.RowKit
theorem lz9{n:Nat}:n<=n:=o5 n
theorem bz9{w:World}{o:Obj}:Below w.heap.size w (w.alloc o):=(Below.refl w.heap.size w).alloc (o5 w.heap.size) o
def fB(l:List Int):List Value:=l.map (Value.int .i64)
theorem aB4{l:List Int}{i:Nat}{x:Int}(h:l[i]?=some x):(fB l)[i]?=some (.int .i64 x):=by simp [fB,h]
theorem rM(a b:List Int):fB (a++b)=fB a++fB b:=by simp [fB]
structure Fr(S:Nat->Prop)(w w':World):Prop where
 os:w'.os=w.os
 tape:w'.tape=w.tape
 output:w'.output=w.output
 size:w.heap.size<=w'.heap.size
 block:∀ k,k<w.heap.size->¬ S k->w'.heap[k]?=w.heap[k]?
theorem Fr.refl(S:Nat->Prop)(w:World):Fr S w w:=⟨rfl,rfl,rfl,o5 _,fun _ _ _=>rfl⟩
theorem Fr.trans{S:Nat->Prop}{a b c:World}(h:Fr S a b)(k:Fr S b c):Fr S a c:=
 ⟨k.os.trans h.os,k.tape.trans h.tape,k.output.trans h.output,j4 h.size k.size,fun i hi hs=>(k.block i (j2 hi h.size) hs).trans (h.block i hi hs)⟩
theorem Fr.mono{S T:Nat->Prop}{a b:World}(h:Fr S a b)(hst:∀ k,S k->T k):Fr T a b:=⟨h.os,h.tape,h.output,h.size,fun i hi hs=>h.block i hi (fun q=>hs (hst i q))⟩
theorem Fr.below{S:Nat->Prop}{a b:World}{n:Nat}(h:Fr S a b)(hn:n<=a.heap.size)(hs:∀ k,S k->n<=k):Below n a b:=
 ⟨h.os,h.tape,h.output,h.size,fun i hi=>h.block i (j2 hi hn) (fun q=>by have:=hs i q;omega)⟩
theorem Fr.of_below{S:Nat->Prop}{a b:World}(h:Below a.heap.size a b):Fr S a b:=⟨h.os,h.tape,h.output,h.size,fun i hi _=>h.block i hi⟩
theorem Fr.alloc{S:Nat->Prop}{a w:World}(h:Fr S a w)(o:Obj):Fr S a (w.alloc o):=h.trans (Fr.of_below ((Below.refl _ _).alloc lz9 o))
theorem Fr.drew{S:Nat->Prop}{a w:World}(h:Fr S a w):Fr S a w.drew:=h.trans (Fr.of_below (Below.refl _ _).drew)
theorem Fr.setCell{S:Nat->Prop}{a w:World}(h:Fr S a w){p:Addr}(hp:S p.block)(u:Value):Fr S a (w.setCell p u):=
 h.trans ⟨rfl,rfl,rfl,by simp [World.setCell],fun k _ hk=>Below.heap_setCell _ _ _ _ (fun e=>hk (e ▸ hp))⟩
theorem Fr.then{S:Nat->Prop}{a b c:World}(h:Fr S a b)(k:Below b.heap.size b c):Fr S a c:=h.trans (Fr.of_below k)
theorem Fr.grown{S:Nat->Prop}{a w w':World}{row:Option Nat}(h:Fr S a w)(hg:w.grownBy w' row)(hr:∀ k,row=some k->S k):Fr S a w':=
 h.trans ⟨hg.os,hg.tape,hg.output,hg.size,fun k hk hs=>hg.block k hk (fun e=>hs (hr k e.symm))⟩
theorem aC{w:World}{k:Nat}{o:Obj}(h:w.heap[k]?=some o):k<w.heap.size:=(Array.getElem?_eq_some_iff.1 h).1
theorem aM{w:World}{k:Nat}{cur:Array Value}{t:TypeId}{fr:Nat×Nat}(h:w.heap[k]?=some (.cells cur t fr))(j:Nat)(v:Value):(w.setCell ⟨k,j,none⟩ v).heap[k]?=some (.cells (cur.setIfInBounds j v) t fr):=by
 simp [World.setCell,Array.getElem?_modify,h]
theorem pU{W:World}{x y:Nat}{c c':Array Value}{t t':TypeId}{f f':Nat×Nat}(h:W.heap[x]?=some (.cells c t f))(h':W.heap[y]?=some (.cells c' t' f'))(ht:t≠t'):x≠y:=fun e=>by
 rw [e,h'] at h
 injection h with h
 injection h with _ h _
 exact ht h.symm
theorem aA{W:World}{wb:Nat}{c:Array Value}{t:TypeId}(h:W.heap[wb]?=some (.cells c t (0,0))){i:Nat}{v:Value}(hi:c[i]?=some v):W.cell? ⟨wb,i,none⟩=some v:=by simp [World.cell?,h,hi]
theorem aJ{W:World}{wb:Nat}{c:Array Value}{t:TypeId}(h:W.heap[wb]?=some (.cells c t (0,0)))(i:Nat):W.frozen? ⟨wb,i,none⟩=false:=by simp [World.frozen?,h]
theorem aF{n:Nat}{a b c:World}(h:Below n a b)(k:Below b.heap.size b c)(hn:n<=a.heap.size):Below n a c:=h.trans (k.mono (j4 hn h.size))
theorem aX{n:Nat}{a b c:World}{S:Nat->Prop}(h:Below n a b)(k:Fr S b c)(hn:n<=a.heap.size)(hs:∀ k,S k->n<=k):Below n a c:=h.trans (k.below (j4 hn h.size) hs)
theorem dI{α:Type}(l:List α)(k:Nat)(h:k<l.length):l.take (k+1)=l.take k++[l[k]]:=by simp
def Ext(W:World):Type:={ w:World // Below W.heap.size W w }
theorem nU{P:Program}{id:Nat}{Q:Exit->Act->World->Prop}{a:Act}{w:World}{l:List Oper}(hm:P.follows .mixedOrders=true)(hB:Region.lexB .any l.toArray=true)
  (h:wpQuiet P l.toArray (fun w'=>∃ x:Ext w,w'=x.val) (fun a'=>∀ w',(∃ x:Ext w,w'=x.val)->Q .normal a' w') l a):(Code.region id l.toArray true).wp P Q a w:=
 wp_region_quiet (C:=fun w'=>∃ x:Ext w,w'=x.val) hm hB ⟨⟨w.drew,(Below.refl _ _).drew⟩,rfl⟩ (by simpa using h)
theorem wx9{P:Program}{id:Nat}{Q:Exit->Act->World->Prop}{a:Act}{w:World}{l:List Oper}(h:wpQuiet P l.toArray (fun w'=>∃ x:Ext w,w'=x.val) (fun a'=>∀ w',(∃ x:Ext w,w'=x.val)->Q .normal a' w') l a)(hm:P.follows .mixedOrders=true:=by kernel_rfl)(hB:Region.lexB .any l.toArray=true:=by kernel_rfl):(Code.region id l.toArray true).wp P Q a w:=nU hm hB h
theorem dH{P:Program}{f:FuncId}{args:Array Value}{W:World}{x:Ext W}{v:Value}
  (h:Calls P f args x.val fun e w'=>e=.returned v/\Below x.val.heap.size x.val w'):Calls P f args x.val fun e w''=>e=.returned v/\∃ y:Ext W,w''=y.val:=
 h.mono fun _ w' ⟨he,hb⟩=>⟨he,⟨w',x.2.trans (hb.mono x.2.size)⟩,rfl⟩
theorem bU{W:World}(x:Ext W)(b o:Nat)(h:b<W.heap.size):x.val.cell? ⟨b,o,none⟩=W.cell? ⟨b,o,none⟩:=x.2.cell (p:=⟨b,o,none⟩) h
theorem cP{W:World}(x:Ext W):Below W.heap.size W x.val:=x.2
theorem aS{W w1:World}(h:∃ x:Ext W,w1=x.val):Below W.heap.size W w1:=by
 obtain⟨x,rfl⟩:=h
 exact x.2
section
open Go Go.ChangeShapes Go.WideShapes Go.ChangeAt Go.RowKit
theorem own:ownKnob Tryz.prog.godebug=none:=by kernel_rfl
theorem uX:laidOutB Tryz.prog=true:=by kernel_rfl
theorem lU:Tryz.prog.cellsOf 3=1:=by kernel_rfl
end
theorem qP:(Tryz.prog.info? 3).map (fun i=>(i.zero,i.size,i.bytes))=some (some (.int .i64 0),1,8):=by kernel_rfl
theorem qM:Tryz.prog.underlying 35=some (.slice 3):=by kernel_rfl
theorem aW{P:Program}{t:TypeId}{z:Value}{s b:Nat}(h:(P.info? t).map (fun i=>(i.zero,i.size,i.bytes))=some (some z,s,b)):∃ i,P.info? t=some i/\i.zero=some z/\i.size=s/\i.bytes=b:=by
 cases hi:P.info? t with
 | none=>rw [hi] at h;cases h
 | some i=>
  rw [hi] at h
  simp at h
  exact⟨i,rfl,h.1,h.2.1,h.2.2⟩
theorem aK{S:Nat->Prop}{w w':World}{base:Nat}{t:TypeId}{size n:Nat}{v:Value}{xs:List Value}(h:w.ownsRow base t size v n xs)(hf:Fr S w w')(hs:∀ k,v.ownBlock=some k->¬ S k):w'.ownsRow base t size v n xs:=by
 obtain⟨h1,h2 | ⟨g,cap,cur,q1,q2,q3,q4⟩⟩:=h
 ·exact⟨h1,.inl h2⟩
 ·exact⟨h1,.inr ⟨g,cap,cur,q1,q2,(hf.block _ (aC q3) (hs g (by rw [q1];rfl))).trans q3,q4⟩⟩
theorem pN{w:World}{base base':Nat}{t:TypeId}{size n:Nat}{v:Value}{xs:List Value}(h:w.ownsRow base t size v n xs)(hb:base'<=base):w.ownsRow base' t size v n xs:=by
 obtain⟨h1,h2 | ⟨g',cap',cur,q1,q2,q4⟩⟩:=h
 ·exact⟨h1,.inl h2⟩
 ·exact⟨h1,.inr ⟨g',cap',cur,q1,j4 hb q2,q4⟩⟩
theorem aR{w:World}{base:Nat}{e:TypeId}{size n:Nat}{v:Value}{xs:List Value}(h:w.ownsRow base e size v n xs):∃ q c,v=.slice q n c:=by
 rcases h.2 with⟨rfl,rfl⟩ | ⟨g,cap,cur,rfl,_⟩
 ·exact⟨_,_,rfl⟩
 ·exact⟨_,_,rfl⟩
theorem aG{w:World}{base:Nat}{e:TypeId}{size n:Nat}{v:Value}{xs:List Value}(h:w.ownsRow base e size v n xs){g:Nat}(hg:v.ownBlock=some g):base<=g/\g<w.heap.size/\∃ cur,w.heap[g]?=some (.cells cur e (0,0)):=by
 rcases h.2 with⟨rfl,rfl⟩ | ⟨g',cap,cur,rfl,h1,h2,_⟩
 ·cases hg
 ·cases hg;exact⟨h1,aC h2,cur,h2⟩
theorem dF{w:World}{base:Nat}{e t:TypeId}{size n:Nat}{v:Value}{xs:List Value}(h:w.ownsRow base e size v n xs){b:Nat}{cs:Array Value}(hb:w.heap[b]?=some (.cells cs t (0,0)))(ht:t≠e):v.ownBlock≠some b:=fun q=>by
 obtain⟨_,_,cur,hc⟩:=aG h q
 exact pU hb hc ht rfl
theorem bM{w:World}{base:Nat}{e:TypeId}{size n g c:Nat}{xs:List Value}(h:w.ownsRow base e size (.slice (some ⟨g,0,none⟩) n c) n xs){j:Nat}{u:Value}(hj:xs[j]?=some u):w.cell? ⟨g,j,none⟩=some u:=by
 rcases h.2 with⟨q,_⟩ | ⟨g',cap,cur,q1,_,q3,_,_,q6,q7⟩
 ·cases q
 ·cases q1
  have:cur[j]?=some u:=by
   rw [<- q7,List.getElem?_take] at hj
   split at hj
   ·simpa using hj
   ·cases hj
  simp [World.cell?,q3,this]
theorem qZ{w:World}{base:Nat}{e:TypeId}{size n:Nat}{v:Value}{xs:List Value}(h:w.ownsRow base e size v n xs):n<=maxLen:=by
 rcases h.2 with⟨_,q⟩ | ⟨g,cap,cur,q,_,_,hc,hm,_⟩
 ·omega
 ·omega
theorem aN{w:World}{base:Nat}{e:TypeId}{size n:Nat}{v:Value}{xs:List Value}(h:w.ownsRow base e size v n xs)(hn:0<n):∃ g c,v=.slice (some ⟨g,0,none⟩) n c:=by
 rcases h.2 with⟨_,q⟩ | ⟨g,cap,cur,rfl,_⟩
 ·omega
 ·exact⟨_,_,rfl⟩
def moved(v v':Value)(n:Nat):Prop:=v'.ownBlock=v.ownBlock\/v'.ownBlock=none\/∃ g,n<=g/\v'.ownBlock=some g
theorem moved.refl(v:Value)(n:Nat):moved v v n:=.inl rfl
theorem moved.trans{v v' v'':Value}{n m:Nat}(h:moved v v' n)(k:moved v' v'' m)(hm:n<=m):moved v v'' n:=by
 rcases k with k | k | ⟨g,k1,k2⟩
 ·rcases h with h | h | ⟨g,h1,h2⟩
  ·exact .inl (k.trans h)
  ·exact .inr (.inl (k.trans h))
  ·exact .inr (.inr ⟨g,h1,k.trans h2⟩)
 ·exact .inr (.inl k)
 ·exact .inr (.inr ⟨g,by omega,k2⟩)
theorem kS{v v':Value}{n k:Nat}(h:moved v v' n)(hk:k<n)(hv:v'.ownBlock=some k):v.ownBlock=some k:=by
 rcases h with h | h | ⟨g,h1,h2⟩
 ·exact h ▸ hv
 ·rw [h] at hv;cases hv
 ·rw [h2] at hv;cases hv;omega
def foot(b:Nat)(v:Value)(k:Nat):Prop:=k=b\/v.ownBlock=some k
theorem fH{P:Program}{ops:Array Oper}{o:Oper}{a:Act}{w:World}{K:Act->World->Prop}{Q:Exit->Act->World->Prop}{E:Prop}(hgd:o.guard=none)(s x:Operand)(t:TypeId)
  (ho:o.op=.call { callee:=.builtin .append,args:=#[s,x],argTypes:=#[t,t] })
  (base:Nat) (e:TypeId) (i:TypeInfo) (z:Value) (size bytes:Nat) (ht:P.underlying t=some (.slice e)) (hi:P.info? e=some i) (hz:i.zero=some z)
  (hsize:i.size=size) (hby:i.bytes=bytes) (hzs:z.cells.size=size) (hsz:0<size)
  (v:Value) (n:Nat) (xs:List Value) (hs:a.eval s=v) (hown:w.ownsRow base e size v n xs)
  (ad:Addr) (m c:Nat) (news:List Value) (hx:a.eval x=.slice (some ad) m c) (hl:news.length=m*size) (hnews:∀ j u,news[j]?=some u->w.cell? (ad.add j)=some u) (h1:∀ u∈news,u.oneCell'=true)
  (h63:n+m<=maxLen) (hbytes:(n+m)*bytes<=140737488355328) (hbase:base<=w.heap.size)
  (h:∀ v' w',w'.ownsRow base e size v' (n+m) (xs++news)->w.grownBy w' v.ownBlock->(v'.ownBlock=v.ownBlock\/v'.ownBlock=some w.heap.size)->K (a.put o.dst v') w') :
  if Region.wanted o (yielded ops a.tmps)=true then Oper.wp P o a w K Q else E:=by
 have hw:Region.wanted o (yielded ops a.tmps)=true:=by simp [Region.wanted,hgd]
 rw [if_pos hw]
 obtain⟨v',w',hrun,h2,h3,_,h5⟩:=run_append_own_at (P:=P) w base t o.type e i z size bytes ht hi hz hsize hby hzs hsz v n xs hown ad m c news hl hnews h1 h63 hbytes hbase
 unfold Oper.wp
 simp [execOp,ho,resolve,invoke,builtin,hs,hx,hrun,Result.andThen]
 exact h v' w' h2 h3 h5
theorem iF(W:World)(a b:Value)(t:TypeId):∀ (j:Nat) (u:Value),[a,b][j]?=some u->(W.alloc (.cells #[a,b] t)).cell? ((⟨W.heap.size,0,none⟩:Addr).add j)=some u:=by
 intro j u h
 match j,h with
 | 0,h=>simp at h;subst h;simp [Addr.add]
 | 1,h=>simp at h;subst h;simp [Addr.add]
theorem aD(w:World)(o:Obj):(w.alloc o).heap[w.heap.size]?=some o:=by unfold World.alloc;simp
def In(L:List (Int×Int))(c:Int):Prop:=∃ r∈L,r.1<=c/\c<=r.2
structure Cls(L:List (Int×Int)):Prop where
 some:∀ r∈L,r.1<=r.2
 apart:L.Pairwise (fun a b=>a.2+1<b.1)
theorem eX(c:Int):¬ In [] c:=fun⟨_,h,_⟩=>by cases h
theorem bF(r:Int×Int)(L:List (Int×Int))(c:Int):In (r :: L) c↔(r.1<=c/\c<=r.2)\/In L c:=by
 simp [In]
theorem bZ(A B:List (Int×Int))(c:Int):In (A++B) c↔In A c\/In B c:=by
 constructor
 ·rintro ⟨r,h,q⟩
  rcases j6.1 h with h | h
  ·exact .inl ⟨r,h,q⟩
  ·exact .inr ⟨r,h,q⟩
 ·rintro (⟨r,h,q⟩ | ⟨r,h,q⟩)
  ·exact⟨r,j6.2 (.inl h),q⟩
  ·exact⟨r,j6.2 (.inr h),q⟩
theorem dN(r:Int×Int)(c:Int):In [r] c↔r.1<=c/\c<=r.2:=by simp [In]
theorem mJ:Cls []:=⟨fun _ h=>(by cases h),List.Pairwise.nil⟩
theorem iR{r:Int×Int}{L:List (Int×Int)}(h:Cls (r :: L)):Cls L:=⟨fun x hx=>h.some x (b6 _ hx),(aAA.1 h.apart).2⟩
theorem eH{r:Int×Int}{L:List (Int×Int)}(h:Cls (r :: L)):r.1<=r.2:=h.some r g7
theorem iS{r x:Int×Int}{L:List (Int×Int)}(h:Cls (r :: L))(hx:x∈L):r.2+1<x.1:=(aAA.1 h.apart).1 x hx
theorem dB{r:Int×Int}{L:List (Int×Int)}(h:Cls (r :: L)){c:Int}(hc:In L c):r.2+1<c:=by
 obtain⟨x,hx,h1,h2⟩:=hc
 have:=iS h hx
 omega
theorem jY:∀ (A B:List (Int×Int)),Cls A->Cls B->(∀ c,In A c↔In B c)->A=B
 | [],[],_,_,_=>rfl
 | [],b :: B,_,hB,h=>absurd ((h b.1).2 ⟨b,g7,s6 _,eH hB⟩) (eX _)
 | a :: A,[],hA,_,h=>absurd ((h a.1).1 ⟨a,g7,s6 _,eH hA⟩) (eX _)
 | a :: A,b :: B,hA,hB,h=>by
  have ha:=eH hA
  have hb:=eH hB
  have h1:a.1=b.1:=by
   have p:=(h a.1).1 ((bF ..).2 (.inl ⟨s6 _,ha⟩))
   have q:=(h b.1).2 ((bF ..).2 (.inl ⟨s6 _,hb⟩))
   rcases (bF ..).1 p with p | p
   ·rcases (bF ..).1 q with q | q
    ·omega
    ·have:=dB hA q;omega
   ·have:=dB hB p
    rcases (bF ..).1 q with q | q
    ·omega
    ·have:=dB hA q;omega
  have h2:a.2=b.2:=by
   rcases Int.lt_trichotomy a.2 b.2 with q | q | q
   ·have p:=(h (a.2+1)).2 ((bF ..).2 (.inl ⟨by omega,by omega⟩))
    rcases (bF ..).1 p with p | p
    ·omega
    ·have:=dB hA p;omega
   ·exact q
   ·have p:=(h (b.2+1)).1 ((bF ..).2 (.inl ⟨by omega,by omega⟩))
    rcases (bF ..).1 p with p | p
    ·omega
    ·have:=dB hB p;omega
  have e:a=b:=Prod.ext h1 h2
  subst e
  rw [jY A B (iR hA) (iR hB) fun c=>?_]
  constructor
  ·intro p
   have:=dB hA p
   rcases (bF ..).1 ((h c).1 ((bF ..).2 (.inr p))) with q | q
   ·omega
   ·exact q
  ·intro p
   have:=dB hB p
   rcases (bF ..).1 ((h c).2 ((bF ..).2 (.inr p))) with q | q
   ·omega
   ·exact q
def bC(C:List (Int×Int))(r:Int×Int):List (Int×Int):=
 if r.2<r.1 then C else
  match C.getLast? with
  | none=>[r]
  | some x=>if x.2+1<r.1 then C++[r] else C.dropLast++[(x.1,max x.2 r.2)]
theorem fM{C:List (Int×Int)}{r:Int×Int}(h:r.2<r.1):bC C r=C:=if_pos h
theorem gS{r:Int×Int}(h:¬ r.2<r.1):bC [] r=[r]:=by unfold bC;rw [if_neg h];rfl
theorem gT{C:List (Int×Int)}{x r:Int×Int}(h:¬ r.2<r.1)(hf:x.2+1<r.1):bC (C++[x]) r=C++[x]++[r]:=by
 unfold bC
 rw [if_neg h]
 simp [hf]
theorem fF{C:List (Int×Int)}{x r:Int×Int}(h:¬ r.2<r.1)(hf:¬ x.2+1<r.1):bC (C++[x]) r=C++[(x.1,max x.2 r.2)]:=by
 unfold bC
 rw [if_neg h]
 simp [hf]
theorem eO{α:Type}(C:List α):C=[]\/∃ D x,C=D++[x]:=by
 rcases List.eq_nil_or_concat C with h | ⟨D,x,h⟩
 ·exact .inl h
 ·exact .inr ⟨D,x,by rw [h,List.concat_eq_append]⟩
theorem nP{A:List (Int×Int)}{r:Int×Int}(hA:Cls A)(hr:r.1<=r.2)(h:∀ x∈A,x.2+1<r.1):Cls (A++[r]):=
 ⟨fun x hx=>by
  rcases j6.1 hx with q | q
  ·exact hA.some x q
  ·simp at q;subst q;exact hr,
  List.pairwise_append.2 ⟨hA.apart,List.pairwise_singleton _ _,fun x hx y hy=>by simp at hy;subst hy;exact h x hx⟩⟩
theorem aD2{A:List (Int×Int)}{x:Int×Int}(h:Cls (A++[x])):Cls A/\x.1<=x.2/\∀ y∈A,y.2+1<x.1:=
 ⟨⟨fun y hy=>h.some y (j6.2 (.inl hy)),(List.pairwise_append.1 h.apart).1⟩,h.some x (by simp),fun y hy=>(List.pairwise_append.1 h.apart).2.2 y hy x (by simp)⟩
theorem lV{C:List (Int×Int)}{r:Int×Int}(hC:Cls C)(hl:r.1<=r.2->∀ x∈C,x.1<=r.1) :
  Cls (bC C r)/\(∀ c,In (bC C r) c↔In C c\/(r.1<=c/\c<=r.2))/\(∀ m,(r.1<=r.2->r.1<=m)->(∀ x∈C,x.1<=m)->∀ x∈bC C r,x.1<=m):=by
 by_cases h:r.2<r.1
 ·rw [fM h]
  exact⟨hC,fun c=>⟨.inl,fun q=>q.elim id fun q=>by omega⟩,fun m _ q=>q⟩
 ·have hr:r.1<=r.2:=by omega
  have hl:=hl hr
  rcases eO C with rfl | ⟨D,x,rfl⟩
  ·rw [gS h]
   refine⟨⟨fun y hy=>by simp at hy;subst hy;exact hr,List.pairwise_singleton _ _⟩,fun c=>?_,fun m hm _ y hy=>by simp at hy;subst hy;exact hm hr⟩
   rw [dN]
   exact⟨.inr,fun q=>q.elim (fun q=>absurd q (eX _)) id⟩
  ·obtain⟨hD,hx,hDx⟩:=aD2 hC
   have hxr:=hl x (by simp)
   by_cases hf:x.2+1<r.1
   ·rw [gT h hf]
    refine⟨nP hC hr fun y hy=>?_,fun c=>by rw [bZ,dN],fun m hm q y hy=>?_⟩
    ·rcases j6.1 hy with q | q
     ·have:=hDx y q;omega
     ·simp at q;subst q;exact hf
    ·rcases j6.1 hy with p | p
     ·exact q y p
     ·simp at p;subst p;exact hm hr
   ·rw [fF h hf]
    refine⟨nP hD (by simp only;omega) hDx,fun c=>?_,fun m hm q y hy=>?_⟩
    ·rw [bZ,bZ,dN,dN]
     constructor
     ·rintro (p | ⟨p1,p2⟩)
      ·exact .inl (.inl p)
      ·simp only at p1 p2
       by_cases hc:c<=x.2
       ·exact .inl (.inr ⟨p1,hc⟩)
       ·exact .inr ⟨by omega,by omega⟩
     ·rintro ((p | ⟨p1,p2⟩) | ⟨p1,p2⟩)
      ·exact .inl p
      ·exact .inr ⟨p1,by simp only;omega⟩
      ·exact .inr ⟨by simp only;omega,by simp only;omega⟩
    ·rcases j6.1 hy with p | p
     ·exact q y (j6.2 (.inl p))
     ·simp at p;subst p;exact q x (by simp)
def Fit(L:List (Int×Int)):Prop:=∀ r∈L,(-9223372036854775808<=r.1/\r.1<=9223372036854775807)/\(-9223372036854775808<=r.2/\r.2<=9223372036854775807)
theorem eE:Fit []:=fun _ h=>by cases h
theorem cM{A B:List (Int×Int)}(hA:Fit A)(hB:Fit B):Fit (A++B):=fun r hr=>(j6.1 hr).elim (hA r) (hB r)
theorem fS{a b:Int}(h:(-9223372036854775808<=a/\a<=9223372036854775807)/\(-9223372036854775808<=b/\b<=9223372036854775807)):Fit [(a,b)]:=fun r hr=>by simp at hr;subst hr;exact h
theorem dE{A B:List (Int×Int)}(hA:Fit A)(h:∀ x∈B,x∈A):Fit B:=fun r hr=>hA r (h r hr)
theorem nM{C:List (Int×Int)}{r:Int×Int}(hC:Fit C)(hr:Fit [r]):Fit (bC C r):=by
 have q:=hr r (by simp)
 by_cases h:r.2<r.1
 ·rw [fM h];exact hC
 ·rcases eO C with rfl | ⟨D,x,rfl⟩
  ·rw [gS h];exact hr
  ·have hx:=hC x (by simp)
   by_cases hf:x.2+1<r.1
   ·rw [gT h hf];exact cM hC hr
   ·rw [fF h hf]
    exact cM (dE hC fun y hy=>j6.2 (.inl hy)) (fS ⟨hx.1,by omega,by omega⟩)
theorem iU(C:List (Int×Int))(r:Int×Int):(bC C r).length<=C.length+1:=by
 by_cases h:r.2<r.1
 ·rw [fM h];omega
 ·rcases eO C with rfl | ⟨D,x,rfl⟩
  ·rw [gS h];simp
  ·by_cases hf:x.2+1<r.1
   ·rw [gT h hf];simp
   ·rw [fF h hf];simp
theorem vA{A B:List (Int×Int)}(h:A.Perm B)(c:Int):In A c↔In B c:=
 ⟨fun⟨r,q,p⟩=>⟨r,h.mem_iff.1 q,p⟩,fun⟨r,q,p⟩=>⟨r,h.mem_iff.2 q,p⟩⟩
theorem xP{a b:Int×Int}{A B:List (Int×Int)}(hb:Cls (b :: B))(h:a.2<b.2)(c:Int) :
  (In (a :: A) c/\In (b :: B) c)↔(max a.1 b.1<=c/\c<=min a.2 b.2)\/(In A c/\In (b :: B) c):=by
 rw [bF,bF]
 constructor
 ·rintro ⟨p | p,q | q⟩
  ·exact .inl ⟨by omega,by omega⟩
  ·have:=dB hb q;omega
  ·exact .inr ⟨p,.inl q⟩
  ·exact .inr ⟨p,.inr q⟩
 ·rintro (⟨p,q⟩ | ⟨p,q⟩)
  ·exact⟨.inl ⟨by omega,by omega⟩,.inl ⟨by omega,by omega⟩⟩
  ·exact⟨.inr p,q⟩
theorem tY{a b:Int×Int}{A B:List (Int×Int)}(ha:Cls (a :: A))(h:b.2<=a.2)(c:Int) :
  (In (a :: A) c/\In (b :: B) c)↔(max a.1 b.1<=c/\c<=min a.2 b.2)\/(In (a :: A) c/\In B c):=by
 rw [bF,bF]
 constructor
 ·rintro ⟨p | p,q | q⟩
  ·exact .inl ⟨by omega,by omega⟩
  ·exact .inr ⟨.inl p,q⟩
  ·have:=dB ha p;omega
  ·exact .inr ⟨.inr p,q⟩
 ·rintro (⟨p,q⟩ | ⟨p,q⟩)
  ·exact⟨.inl ⟨by omega,by omega⟩,.inl ⟨by omega,by omega⟩⟩
  ·exact⟨p,.inr q⟩
def aH(L:List (Int×Int)):List Go.Value:=L.flatMap fun r=>[.int .i64 r.1,.int .i64 r.2]
theorem bV(L:List (Int×Int)):(aH L).length=L.length*2:=by
 induction L with
 | nil=>rfl
 | cons r L ih=>simp [aH] at ih ⊢;omega
theorem fY(A B:List (Int×Int)):aH (A++B)=aH A++aH B:=by simp [aH]
theorem eR(L:List (Int×Int)):∀ v∈aH L,v.oneCell'=true:=fun v hv=>by
 simp [aH] at hv
 obtain⟨a,b,_,rfl | rfl⟩:=hv <;> rfl
theorem fL:∀ (L:List (Int×Int)) (i:Nat) (r:Int×Int),L[i]?=some r->(aH L)[2*i]?=some (.int .i64 r.1)/\(aH L)[2*i+1]?=some (.int .i64 r.2)
 | [],i,r,h=>by cases h
 | x :: L,0,r,h=>by
  simp at h
  subst h
  simp [aH]
 | x :: L,i+1,r,h=>by
  have:=fL L i r (by simpa using h)
  simp only [aH,s4] at this ⊢
  rw [show 2*(i+1)=2*i+2 from by omega]
  simpa using this
theorem nR:∀ (L:List (Int×Int)) (i:Nat) (a b:Int),((aH L).set (i*2) (.int .i64 a)).set (i*2+1) (.int .i64 b)=aH (L.set i (a,b))
 | [],i,a,b=>by simp [aH]
 | x :: L,0,a,b=>by simp [aH]
 | x :: L,i+1,a,b=>by
  have:=nR L i a b
  simp only [aH,s4,i8] at this ⊢
  rw [show (i+1)*2=i*2+2 from by omega]
  simpa using this
theorem lC:∀ (L:List (Int×Int)) (i:Nat) (r:Int×Int) (b:Int),L[i]?=some r->(aH L).set (i*2+1) (.int .i64 b)=aH (L.set i (r.1,b))
 | [],i,r,b,h=>by cases h
 | x :: L,0,r,b,h=>by simp at h;subst h;simp [aH]
 | x :: L,i+1,r,b,h=>by
  have:=lC L i r b (by simpa using h)
  simp only [aH,s4,i8] at this ⊢
  rw [show (i+1)*2=i*2+2 from by omega]
  simpa using this
theorem aB{p:Prop}(h:p):Hid p:=h
theorem qL{x:Int}(h:(Lit.int .i64 x).wf=true):-9223372036854775808<=x/\x<=9223372036854775807:=by
 simp [Lit.wf,IntKind.min,IntKind.max,IntKind.signed,IntKind.bits] at h
 omega
theorem cA:(Tryz.prog.info? 53).map (fun i=>(i.zero,i.size,i.bytes))=some (some (.agg #[.int .i64 0,.int .i64 0]),2,16):=by kernel_rfl
theorem aU:Tryz.prog.underlying 22=some (.slice 53):=by kernel_rfl
theorem kT(P:Program)(t:Array TypeId)(ty:TypeId)(w:World)(x y:Int):(Builtin.max_ t ty #[.int .i64 x,.int .i64 y]).run P w=.ok (.int .i64 (max x y)) w:=by
 have e:max x y=if y>x then y else x:=by split <;> omega
 rw [e]
 rfl
theorem uV(P:Program)(t:Array TypeId)(ty:TypeId)(w:World)(x y:Int):(Builtin.min_ t ty #[.int .i64 x,.int .i64 y]).run P w=.ok (.int .i64 (min x y)) w:=by
 have e:min x y=if y<x then y else x:=by split <;> omega
 rw [e]
 rfl
def ArgR(W:World)(v:Value)(L:List (Int×Int)):Prop:=
 (∃ p cap,v=.slice p 0 cap/\L=[]/\(p=none->cap=0))\/∃ g off cap,v=.slice (some ⟨g,off,none⟩) L.length cap/\g<W.heap.size/\L.length<=cap/\cap<=maxLen/\∀ (i:Nat) (r:Int×Int),L[i]?=some r->W.cell? ⟨g,off+2*i,none⟩=some (.int .i64 r.1)/\W.cell? ⟨g,off+2*i+1,none⟩=some (.int .i64 r.2)
theorem ArgR.kept{W W':World}{v:Value}{L:List (Int×Int)}(h:ArgR W v L)(hb:Below W.heap.size W W'):ArgR W' v L:=by
 rcases h with h | ⟨g,off,cap,h1,h2,h3,h4,h5⟩
 ·exact .inl h
 ·exact .inr ⟨g,off,cap,h1,j2 h2 hb.size,h3,h4,fun i x hx=>⟨(hb.cell (p:=⟨g,off+2*i,none⟩) h2).trans (h5 i x hx).1,(hb.cell (p:=⟨g,off+2*i+1,none⟩) h2).trans (h5 i x hx).2⟩⟩
theorem ArgR.slice{W:World}{v:Value}{L:List (Int×Int)}(h:ArgR W v L):∃ q cap,v=.slice q L.length cap/\L.length<=maxLen/\L.length<=cap /\
  (∀ (i:Nat) (r:Int×Int),L[i]?=some r->∃ g off,q=some ⟨g,off,none⟩/\g<W.heap.size/\W.cell? ⟨g,off+2*i,none⟩=some (.int .i64 r.1)/\W.cell? ⟨g,off+2*i+1,none⟩=some (.int .i64 r.2)):=by
 rcases h with⟨p,cap,rfl,rfl,-⟩ | ⟨g,off,cap,rfl,h2,h3,h4,h5⟩
 ·exact⟨p,cap,rfl,m7 _,m7 _,fun i x hx=>by simp at hx⟩
 ·exact⟨_,cap,rfl,j4 h3 h4,h3,fun i x hx=>⟨g,off,rfl,h2,h5 i x hx⟩⟩
theorem ArgR.news{W:World}{ad:Addr}{n c:Nat}{L:List (Int×Int)}(h:ArgR W (.slice (some ad) n c) L):∀ j u,(aH L)[j]?=some u->W.cell? (ad.add j)=some u:=by
 intro j u hj
 have hjl:j<L.length*2:=by have:=(i7.1 hj).1;rwa [bV] at this
 rcases h with⟨p,cap,e,rfl,-⟩ | ⟨g,off,cap,e,h2,h3,h4,h5⟩
 ·simp at hjl
 ·cases e
  obtain⟨q1,q2⟩:=h5 (j/2) _ (b7 (by omega))
  obtain⟨r1,r2⟩:=fL L (j/2) _ (b7 (by omega))
  have hadd:(⟨g,off,none⟩:Addr).add j=⟨g,off+j,none⟩:=by unfold Addr.add;split <;> simp_all
  rw [hadd]
  rcases Nat.mod_two_eq_zero_or_one j with e | e
  ·rw [show 2*(j/2)=j by omega] at q1 r1
   rw [q1,<- r1,hj]
  ·rw [show off+2*(j/2)+1=off+j by omega] at q2
   rw [show 2*(j/2)+1=j by omega] at r2
   rw [q2,<- r2,hj]
def RR(base:Nat)(w:World)(v:Value)(L:List (Int×Int)):Prop:=w.ownsRow base 53 2 v L.length (aH L)
theorem RR.arg{base:Nat}{w:World}{v:Value}{L:List (Int×Int)}(h:RR base w v L):ArgR w v L:=by
 have h':=h
 rcases h.2 with⟨rfl,hn⟩ | ⟨g,cap,cur,rfl,hg,hc,h1,h2,h3,h4⟩
 ·exact .inl ⟨none,0,rfl,n8 hn,fun _=>rfl⟩
 ·exact .inr ⟨g,0,cap,rfl,aC hc,h1,h2,fun i x hx=>by
   obtain⟨p1,p2⟩:=fL L i x hx
   rw [a7]
   exact⟨bM h' p1,bM h' p2⟩⟩
theorem RR.nil(base:Nat)(w:World):RR base w (.slice none 0 0) []:=⟨rfl,.inl ⟨rfl,rfl⟩⟩
theorem RR.fr{base:Nat}{w w':World}{v:Value}{L:List (Int×Int)}{S:Nat->Prop}(h:RR base w v L)(hf:Fr S w w')(hs:∀ k,v.ownBlock=some k->¬ S k):RR base w' v L:=aK h hf hs
theorem RR.kept{base:Nat}{w w':World}{v:Value}{L:List (Int×Int)}(h:RR base w v L)(hb:Below w.heap.size w w'):RR base w' v L:=h.fr (S:=fun _=>False) (Fr.of_below hb) (fun _ _ q=>q)
theorem RR.mono{base base':Nat}{w:World}{v:Value}{L:List (Int×Int)}(h:RR base w v L)(hb:base'<=base):RR base' w v L:=pN h hb
theorem RR.shape{base:Nat}{w:World}{v:Value}{L:List (Int×Int)}(h:RR base w v L):∃ q c,v=.slice q L.length c:=aR h
structure IsC(C:List (Int×Int))(p:Int->Prop):Prop where
 cls:Cls C
 fit:Fit C
 mem:∀ c,In C c↔p c
theorem IsC.one{C D:List (Int×Int)}{p q:Int->Prop}(h:IsC C p)(k:IsC D q)(e:∀ c,p c↔q c):C=D:=
 jY C D h.cls k.cls fun c=>(h.mem c).trans ((e c).trans (k.mem c).symm)
theorem IsC.to{C:List (Int×Int)}{p q:Int->Prop}(h:IsC C p)(e:∀ c,p c↔q c):IsC C q:=⟨h.cls,h.fit,fun c=>(h.mem c).trans (e c)⟩
def oD(w:World)(p:Int->Prop)(n:Nat)(e:Ending)(w':World):Prop:=∃ v C,e=.returned v/\RR w.heap.size w' v C/\IsC C p/\C.length<=n/\Below w.heap.size w w'
structure Fl where
 k:Int
 n:Int
 mn:Int
 mx:Int
 rs:List (Int×Int)
 rq:Option Addr
 rc:Nat
 kq:Option Addr
 kl:Nat
 kc:Nat
inductive Tr where
 | mk (f:Fl) (ks:List Tr)
def Tr.f:Tr->Fl | .mk f _=>f
def Tr.ks:Tr->List Tr | .mk _ ks=>ks
abbrev Way:=List (Tr×Nat)
abbrev El:=Way×Tr
mutual
def pp:Way->Tr->List El
 | p,.mk f ks=>(p,.mk f ks) :: pps (.mk f ks) p 0 ks
def pps(par:Tr)(p:Way):Nat->List Tr->List El
 | _,[]=>[]
 | i,t :: ts=>pp ((par,i) :: p) t++pps par p (i+1) ts
end
theorem cD(p:Way)(t:Tr):pp p t=(p,t) :: pps t p 0 t.ks:=by
 cases t
 rw [pp]
 rfl
theorem aZ(par:Tr)(p:Way)(i:Nat)(t:Tr)(ts:List Tr):pps par p i (t :: ts)=pp ((par,i) :: p) t++pps par p (i+1) ts:=by rw [pps]
theorem aY(par:Tr)(p:Way)(i:Nat):pps par p i []=[]:=by rw [pps]
mutual
def Tr.sz:Tr->Nat | .mk _ ks=>szs ks+1
def szs:List Tr->Nat | []=>0 | t :: ts=>t.sz+szs ts
end
theorem dY(t:Tr):t.sz=szs t.ks+1:=by cases t;rw [Tr.sz];rfl
theorem bK(t:Tr)(ts:List Tr):szs (t :: ts)=t.sz+szs ts:=by rw [szs]
theorem dJ:szs []=0:=by rw [szs]
theorem dM(t:Tr):1<=t.sz:=by rw [dY];omega
theorem aO3{t:Tr}{ks:List Tr}(h:t∈ks):t.sz<=szs ks:=by
 induction ks with
 | nil=>cases h
 | cons x r ih=>
  rw [bK]
  rcases n7.1 h with e | e
  ·subst e;omega
  ·have:=ih e;omega
theorem bW{t u:Tr}(h:u∈t.ks):u.sz<t.sz:=by rw [dY t];have:=aO3 h;omega
theorem Tr.ind{P:Tr->Prop}(h:∀ t,(∀ u∈t.ks,P u)->P t)(t:Tr):P t:=by
 have:∀ (m:Nat) (t:Tr),t.sz<=m->P t:=by
  intro m
  induction m with
  | zero=>intro t ht;have:=dM t;omega
  | succ m ih=>intro t ht;exact h t fun u hu=>ih u (by have:=bW hu;omega)
 exact this t.sz t lz9
theorem tH{ks:List Tr}(h:∀ t∈ks,∀ p,(pp p t).length=t.sz)(par:Tr)(p:Way)(i:Nat):(pps par p i ks).length=szs ks:=by
 induction ks generalizing i with
 | nil=>rw [aY,dJ];rfl
 | cons t ts ih=>
  rw [aZ,bK,j3,h t (g7 ..),ih (fun u hu=>h u (b6 _ hu))]
theorem cL(t:Tr):∀ p,(pp p t).length=t.sz:=by
 refine Tr.ind (P:=fun t=>∀ p,(pp p t).length=t.sz) (fun t ih p=>?_) t
 rw [cD,dY,i9,tH ih]
def Nx(x y:El):Prop:=∃ (par:Tr) (j:Nat) (rest:Way),y.1=(par,j) :: rest/\((par=x.2/\j=0/\rest=x.1)\/∃ s i,x.1=s++(par,i) :: rest/\j=i+1)
def Ch:List El->Prop
 | []=>True
 | [_]=>True
 | x :: y :: r=>Nx x y/\Ch (y :: r)
theorem lB{a b:List El}(ha:Ch a)(hb:Ch b)(h:∀ x∈a.getLast?,∀ y∈b.head?,Nx x y):Ch (a++b):=by
 induction a with
 | nil=>exact hb
 | cons x a ih=>
  cases a with
  | nil=>
   cases b with
   | nil=>trivial
   | cons y b=>exact⟨h x (by simp) y (by simp),hb⟩
  | cons z a=>exact⟨ha.1,ih ha.2 fun u hu=>h u (by rw [List.getLast?_cons_cons];exact hu)⟩
theorem aD4{a b:List El}{x y:El}(h:Ch (a++x :: y :: b)):Nx x y:=by
 induction a with
 | nil=>exact h.1
 | cons z a ih=>
  cases a with
  | nil=>exact h.2.1
  | cons u a=>exact ih h.2
theorem pL{ks:List Tr}(h:∀ t∈ks,∀ p,Ch (pp p t)/\∀ z∈pp p t,∃ s,z.1=s++p)(par:Tr)(p:Way)(i:Nat) :
  Ch (pps par p i ks)/\(∀ z∈pps par p i ks,∃ s j,z.1=s++(par,j) :: p)/\∀ z∈(pps par p i ks).head?,z.1=(par,i) :: p:=by
 induction ks generalizing i with
 | nil=>rw [aY];exact⟨trivial,fun z hz=>(by cases hz),fun z hz=>(by cases hz)⟩
 | cons t ts ih=>
  obtain⟨c1,c2⟩:=h t (g7 ..) ((par,i) :: p)
  obtain⟨d1,d2,d3⟩:=ih (fun u hu=>h u (b6 _ hu)) (i+1)
  rw [aZ]
  refine⟨lB c1 d1 fun x hx y hy=>?_,fun z hz=>?_,fun z hz=>?_⟩
  ·obtain⟨s,hs⟩:=c2 x (List.mem_of_getLast? hx)
   exact⟨par,i+1,p,d3 y hy,.inr ⟨s,i,hs,rfl⟩⟩
  ·rcases j6.1 hz with q | q
   ·obtain⟨s,hs⟩:=c2 z q
    exact⟨s,i,hs⟩
   ·exact d2 z q
  ·rw [cD] at hz
   simp at hz
   subst hz
   rfl
theorem zW(t:Tr):∀ p,Ch (pp p t)/\∀ z∈pp p t,∃ s,z.1=s++p:=by
 refine Tr.ind (P:=fun t=>∀ p,Ch (pp p t)/\∀ z∈pp p t,∃ s,z.1=s++p) (fun t ih p=>?_) t
 obtain⟨d1,d2,d3⟩:=pL ih t p 0
 rw [cD]
 refine⟨lB (a:=[(p,t)]) trivial d1 fun x hx y hy=>?_,fun z hz=>?_⟩
 ·simp at hx
  subst hx
  exact⟨t,0,p,d3 y hy,.inl ⟨rfl,rfl,rfl⟩⟩
 ·rcases n7.1 hz with q | q
  ·subst q
   exact⟨[],rfl⟩
  ·obtain⟨s,j,hs⟩:=d2 z q
   exact⟨s++[(t,j)],by simp [hs]⟩
theorem oF{t:Tr}{pre:List El}{x y:El}(h:pre++[x]++[y] <+: pp [] t):Nx x y:=by
 obtain⟨r,hr⟩:=h
 have:=(zW t []).1
 rw [<- hr,show pre++[x]++[y]++r=pre++x :: y :: r by simp] at this
 exact aD4 this
theorem mQ{t:Tr}{x:El}(h:[x] <+: pp [] t):x=([],t):=by
 rw [cD] at h
 obtain⟨r,hr⟩:=h
 simp at hr
 exact hr.1
mutual
def bG(P:Tr->Prop):Tr->Prop | .mk f ks=>P (.mk f ks)/\lW P ks
def lW(P:Tr->Prop):List Tr->Prop | []=>True | t :: ts=>bG P t/\lW P ts
end
theorem aL{P:Tr->Prop}(t:Tr):bG P t↔P t/\lW P t.ks:=by cases t;rw [bG];rfl
theorem aO{P:Tr->Prop}(ks:List Tr):lW P ks ↔ ∀ t∈ks,bG P t:=by
 induction ks with
 | nil=>rw [lW];simp
 | cons t ts ih=>rw [lW,ih];simp
theorem cH{P:Tr->Prop}{t u:Tr}(h:bG P t)(hu:u∈t.ks):bG P u:=(aO _).1 ((aL t).1 h).2 u hu
theorem gO{P:Tr->Prop}(t:Tr):∀ p,bG P t->∀ z∈pp p t,bG P z.2:=by
 refine Tr.ind (P:=fun t=>∀ p,bG P t->∀ z∈pp p t,bG P z.2) (fun t ih p he z hz=>?_) t
 rw [cD] at hz
 rcases n7.1 hz with q | q
 ·subst q;exact he
 ·have:∀ (ks:List Tr) (i:Nat),(∀ u∈ks,u∈t.ks)->z∈pps t p i ks->bG P z.2:=by
   intro ks
   induction ks with
   | nil=>intro i _ h;rw [aY] at h;cases h
   | cons u us ih2=>
    intro i hs h
    rw [aZ] at h
    rcases j6.1 h with g | g
    ·exact ih u (hs u (g7 ..)) _ (cH he (hs u (g7 ..))) z g
    ·exact ih2 (i+1) (fun v hv=>hs v (b6 _ hv)) g
  exact this t.ks 0 (fun _ h=>h) q
section
open Go Go.RowKit Go.Shelf
theorem qF{W W':World}(hb:Below W.heap.size W W'):W.grownBy W' none:=⟨hb.os,hb.tape,hb.output,hb.size,fun k hk _=>hb.block k hk⟩
structure CKeep(N:Nat->Prop)(W W':World):Prop where
 size:W.heap.size<=W'.heap.size
 same:∀ (k:Nat) (cur:Array Value) (t:TypeId) (fr:Nat×Nat),N k->W.heap[k]?=some (.cells cur t fr)->W'.heap[k]?=some (.cells cur t fr)
theorem CKeep.trans{N:Nat->Prop}{A B C:World}(h:CKeep N A B)(k:CKeep N B C):CKeep N A C:=⟨j4 h.size k.size,fun i cur t fr hi hc=>k.same i cur t fr hi (h.same i cur t fr hi hc)⟩
theorem CKeep.put{N:Nat->Prop}{W:World}{l:Nat}{o:Obj}(o':Obj)(h:W.heap[l]?=some o)(hc:o.isCells=false):CKeep N W (W.putObj l o'):=
 ⟨(grownBy_putObj' W l o').size,fun k cur t fr _ hk=>by
  have hne:k≠l:=fun e=>by subst e;rw [hk] at h;cases h;cases hc
  exact(World.putObj_heap_other hne).trans hk⟩
theorem Fr.ckeep{S N:Nat->Prop}{W W':World}(h:Fr S W W')(hs:∀ k,S k->¬ N k):CKeep N W W':=
 ⟨h.size,fun k _ _ _ hk hc=>(h.block k (aC hc) (fun q=>hs k q hk)).trans hc⟩
theorem Fr.keepsFrom{S:Nat->Prop}{N:Nat}{W W':World}(h:Fr S W W')(hs:∀ k,S k->k<N):KeepsFrom N W W':=
 ⟨h.size,fun k o hk hc _=>(h.block k (aC hc) (fun q=>by have:=hs k q;omega)).trans hc⟩
def aN2{α:Type}(n:Nat)(P:Program)(gf:Nat)(lb:Array Value)(encs:α->Array Value)(N:Nat->Prop)(Told:List α->α->World->Prop)(S Sp:List α->Prop)(w:World):Prop:=
 ∀ (l:Nat) (J Jx:List α->World->Prop) (W:World),Below w.heap.size w W->OwnFrom W.heap.size J->OwnFrom W.heap.size Jx->(∀ pre V,J pre V->pre.length<=1000000) ->
  (∀ pre x V,J pre V->Told pre x V->YieldAt Fence.wide (n-1) P l (encs x) V fun e V'=>KeepsFrom W.heap.size V V'/\((e=.returned (.bool true)/\J (pre++[x]) V'/\CKeep N V V')\/(e=.returned (.bool false)/\Jx (pre++[x]) V'))) ->
  J [] W->CallsIn Fence.wide n P gf (#[.func (.yield l) #[] #[]]++lb) W fun e V=>(∃ v,e=.returned v)/\((∃ xs,S xs/\J xs V)\/(∃ pre,Sp pre/\Jx pre V))
theorem jN{β:Type}{B:Nat}{J:β->World->Prop}(h:OwnFrom B J){s:β}{A A':World}(hj:J s A)(hb:Below A.heap.size A A'):J s A':=h s A A' none hj (qF hb) (fun _ e=>by cases e)
theorem nG{β:Type}{B B':Nat}{J:β->World->Prop}(h:OwnFrom B J)(hB:B<=B'):OwnFrom B' J:=fun s W W' row hs hg hr=>h s W W' row hs hg (fun r e=>⟨j4 hB (hr r e).1,(hr r e).2⟩)
theorem rH{B B':Nat}{W W':World}(h:KeepsFrom B W W')(hB:B<=B'):KeepsFrom B' W W':=⟨h.size,fun k o hk hc ho=>h.same k o (j4 hB hk) hc ho⟩
theorem lT{B:Nat}(W:World){l:Nat}(o:Obj)(hl:l<B):KeepsFrom B W (W.putObj l o):=
 ⟨(grownBy_putObj' W l o).size,fun k _ hk hc _=>(World.putObj_heap_other (by omega)).trans hc⟩
theorem mA{N:Nat->Prop}{W W':World}(hb:Below W.heap.size W W'):CKeep N W W':=⟨hb.size,fun k _ _ _ _ hc=>(hb.block k (aC hc)).trans hc⟩
theorem lZ{B:Nat}{W W':World}(hb:Below W.heap.size W W'):KeepsFrom B W W':=⟨hb.size,fun k _ _ hc _=>(hb.block k (aC hc)).trans hc⟩
section
variable {α:Type} {P:Program}
def Rc(D:Nat)(r:Loop)(W:World):Prop:=W.heap[D+1]?=some (.loop r)/\W.heap[D]?=some (.deferred (some []))
theorem Rc.below{D:Nat}{r:Loop}{W W':World}(h:Rc D r W)(hb:Below W.heap.size W W'):Rc D r W':=
 ⟨(hb.block _ (aC h.1)).trans h.1,(hb.block _ (aC h.2)).trans h.2⟩
theorem Rc.from{D:Nat}{r:Loop}{W W':World}(h:Rc D r W)(hk:KeepsFrom D W W'):Rc D r W':=⟨hk.same _ _ (by omega) h.1 rfl,hk.same _ _ lz9 h.2 rfl⟩
theorem Rc.put{D:Nat}{r:Loop}{W:World}(h:Rc D r W)(r':Loop):Rc D r' (W.putObj (D+1) (.loop r')):=
 ⟨World.putObj_heap_same (aC h.1),(World.putObj_heap_other (by omega)).trans h.2⟩
theorem zO{β:Type}{D:Nat}(r:Loop):OwnFrom (D+2) (fun (_:β) W=>Rc D r W):=fun _ A B row h hg hrow=>
 ⟨(hg.block _ (aC h.1) (fun e=>by have:=(hrow _ e.symm).1;omega)).trans h.1,(hg.block _ (aC h.2) (fun e=>by have:=(hrow _ e.symm).1;omega)).trans h.2⟩
theorem sZ{D:Nat}{N:Nat->Prop}{r:Loop}{I:List α->World->Prop}{Ix:Code->List α->World->Prop}{xs:List α}{V W W3:World}{e:Exit}{a3:Act}
  (hI:OwnFrom D I) (hIx:∀ c,OwnFrom D (Ix c)) (hc:CKeep N V W) (hr:Rc D { r with state:=.busy } W)
  (hv:KeepsFrom (D+2) V W) (hp:ownPostG D (CKeep N) I Ix xs W e a3 W3):roundPost P (D+1) (fun e V'=>KeepsFrom (D+2) V V'/\((e=.returned (.bool true)/\(I xs V'/\Rc D { r with state:=.ready,pending:=none } V')/\CKeep N V V')\/(e=.returned (.bool false)/\∃ c,Ix c xs V'/\Rc D { r with state:=.done,pending:=some c } V'))) e a3 W3:=by
 have out:∀ c:Code,KeepsFrom D W W3->Ix c xs W3->∃ v V',(Instr.endRound (D+1) (some c)).run P W3=.ok v V'/\(KeepsFrom (D+2) V V'/\((Ending.returned v=.returned (.bool true)/\(I xs V'/\Rc D { r with state:=.ready,pending:=none } V')/\CKeep N V V')\/(Ending.returned v=.returned (.bool false)/\∃ c,Ix c xs V'/\Rc D { r with state:=.done,pending:=some c } V'))):=fun c hk hi=>by
  have h3:=hr.from hk
  exact⟨_,_,run_endRound (some c) h3.1,(hv.trans (rH hk (by omega))).trans (lT _ _ (by omega)),.inr ⟨rfl,c,(hIx c).putObj _ hi (by omega) h3.1 rfl,h3.put _⟩⟩
 cases e with
 | normal=>
  obtain⟨hk,hkp,hi⟩:=hp
  have h3:=hr.from hk
  exact⟨_,_,run_endRound none h3.1,(hv.trans (rH hk (by omega))).trans (lT _ _ (by omega)),.inl ⟨rfl,⟨hI.putObj _ hi (by omega) h3.1 rfl,h3.put _⟩,(hc.trans hkp).trans (CKeep.put _ h3.1 rfl)⟩⟩
 | ret=>exact out .ret hp.1 hp.2
 | exit id=>exact out (.exit id) hp.1 hp.2
 | goto t=>exact out (.goto t) hp.1 hp.2
 | panic ch=>exact hp.elim
 | outgrown=>exact hp.elim
theorem tA{g:Operand}{ps:Array Tmp}{assign body:Code}{Q:Exit->Act->World->Prop}{a:Act}{w:World}{n:Nat}(h1:1<=n){gf:Nat}{lb:Array Value}
  (hg:a.eval g=.func (.func gf) #[] lb) (eg:∀ args w,(callFunc gf args).run P w=.ok (.enter gf args) w) {encs:α->Array Value} (hps:∀ x,(encs x).size=ps.size)
  {N:Nat->Prop} {Told:List α->α->World->Prop} {S Sp:List α->Prop} (hseq:aN2 (n-1) P gf lb encs N Told S Sp w)
  (I:List α->World->Prop) (Ix:Code->List α->World->Prop) (hI:OwnFrom w.heap.size I) (hIx:∀ c,OwnFrom w.heap.size (Ix c)) (hT:∀ pre x,OwnFrom w.heap.size (fun (_:Unit) W=>Told pre x W)) (hbd:∀ pre W,I pre W->pre.length<=1000000) (h0:I [] w) (Ax:α->Act->World->Prop) (hAx:∀ x a',OwnFrom w.heap.size (fun (_:Unit) W=>Ax x a' W))
  (hassign:∀ (l:Nat) (pre:List α) (x:α) (W:World) (K:Act->World->Prop),I pre W->Told pre x W->(∀ a' W',Below W.heap.size W W'->Ax x a' W'->K a' W') ->
   assign.wpIn (Fence.wide.inRound l) (n-1-1) P (Exit.then K (fun _ _ _=>False)) { tmps:=(ps.zip (encs x)).foldl (fun t (p,v)=>t.setIfInBounds p v) a.tmps,defers:=[] } W)
  (hbody:∀ (l:Nat) (pre:List α) (x:α) (a':Act) (W:World),I pre W->Told pre x W->Ax x a' W->body.wpIn (Fence.wide.inRound l) (n-1-1) P (ownPostG w.heap.size (CKeep N) I Ix (pre++[x]) W) a' W)
  (hdone:∀ (D:Nat) (xs:List α) (W:World),w.heap.size<=D->S xs->I xs W->W.heap[D]?=some (.deferred (some []))->Q .normal { a with defers:={ target:=.collected D,args:=#[] } :: a.defers } W)
  (hstop:∀ (D:Nat) (c:Code) (pre:List α) (W:World),w.heap.size<=D->Sp pre->Ix c pre W->W.heap[D]?=some (.deferred (some []))->c.wpIn Fence.wide n P Q { a with defers:={ target:=.collected D,args:=#[] } :: a.defers } W) :
  (Code.rangeFunc g ps assign body).wpIn Fence.wide n P Q a w:=by
 refine wpIn_rangeFunc fun fn hfn=>?_
 let r:Loop:={ state:=.ready,pending:=none,fn:=fn,tmps:=a.tmps,params:=ps,assign:=assign,body:=body,defers:=w.heap.size }
 have hB:Below w.heap.size w ((w.alloc (.deferred (some []))).alloc (.loop r)):=(bz9).alloc (by simp) _
 have hz:((w.alloc (.deferred (some []))).alloc (.loop r)).heap.size=w.heap.size+2:=by simp
 have hR:Rc w.heap.size r ((w.alloc (.deferred (some []))).alloc (.loop r)):=by
  refine⟨?_,(Below.heap_alloc _ _ _ (by simp)).trans (World.alloc_heap_new w _)⟩
  have:=World.alloc_heap_new (w.alloc (.deferred (some []))) (.loop r)
  rwa [m8] at this
 refine⟨w.heap.size+1,[{ target:=.collected w.heap.size,args:=#[] }],((w.alloc (.deferred (some []))).alloc (.loop r)),{ target:=.fn (.func gf) lb,args:=#[.func (.yield (w.heap.size+1)) #[] #[]] },((w.alloc (.deferred (some []))).alloc (.loop r)),gf,#[.func (.yield (w.heap.size+1)) #[] #[]]++lb,((w.alloc (.deferred (some []))).alloc (.loop r)),
  run_enterLoop_outer _ _ _ _ _,?_,fun _ _=>trivial,?_,fun _=>h1,?_⟩
 ·simp only [resolve,hg]
  simp [go_sem]
 ·simp [invoke,go_sem,eg]
 ·refine(hseq (w.heap.size+1) (fun pre W=>I pre W/\Rc w.heap.size r W) (fun pre W=>∃ c,Ix c pre W/\Rc w.heap.size { r with state:=.done,pending:=some c } W) _ hB
   ?_ ?_ (fun pre V h=>hbd pre V h.1) ?_ ⟨hI.alloc _ (hI.alloc _ h0),hR⟩).mono ?_
  ·rw [hz]
   exact(nG hI (by omega)).and (zO _)
  ·rw [hz]
   rintro pre A B row ⟨c,hi,hr⟩ hg hrow
   exact⟨c,nG (hIx c) (by omega) pre A B row hi hg hrow,zO (β:=Unit) _ () A B row hr hg hrow⟩
  ·rw [hz]
   rintro pre x V ⟨hi,hr⟩ ht
   refine⟨fn,_,assign,body,run_yield hr.1 (hps x),roundIn_of_wpIn hfn (hassign _ pre x V _ hi ht ?_)⟩
   intro a' W' hb hax
   have hr':=hr.below hb
   refine⟨_,run_beginRound hr'.1 rfl,?_⟩
   have hr2:Rc w.heap.size { r with state:=.busy } (W'.putObj (w.heap.size+1) (.loop { r with state:=.busy })):=hr'.put _
   exact wpIn_mono (hbody _ pre x a' _ (hI.putObj _ (jN hI hi hb) (by omega) hr'.1 rfl) ((hT pre x).putObj (s:=()) _ (jN (hT pre x) (s:=()) ht hb) (by omega) hr'.1 rfl) ((hAx x a').putObj (s:=()) _ hax (by omega) hr'.1 rfl)) fun e a3 W3 hp=>
    sZ (r:=r) hI hIx ((mA hb).trans (CKeep.put _ hr'.1 rfl)) hr2 ((lZ hb).trans (lT _ _ (by omega))) hp
  ·rintro e V ⟨⟨v,rfl⟩,(⟨xs,hS,hi,hr⟩ | ⟨pre,hSp,c,hi,hr⟩)⟩
   ·exact⟨none,_,run_endLoop hr.1 (by simp [r]),hdone _ xs _ lz9 hS (hI.putObj _ hi (by omega) hr.1 rfl) ((World.putObj_heap_other (by omega)).trans hr.2)⟩
   ·exact⟨some c,_,run_endLoop hr.1 (by simp),hstop _ c pre _ lz9 hSp ((hIx c).putObj _ hi (by omega) hr.1 rfl) ((World.putObj_heap_other (by omega)).trans hr.2)⟩
end
theorem dS{W W':World}{row:Option Nat}{B:Nat}(hg:W.grownBy W' row)(hr:∀ r,row=some r->B<=r/\∃ o:Obj,W.heap[r]?=some o/\o.isCells=false){k:Nat}{cur:Array Value}{t:TypeId}{fr:Nat×Nat}(hc:W.heap[k]?=some (.cells cur t fr)) :
  W'.heap[k]?=some (.cells cur t fr):=by
 refine(hg.block k (aC hc) (fun e=>?_)).trans hc
 obtain⟨_,o,ho,hq⟩:=hr k e.symm
 rw [hc] at ho
 cases ho
 cases hq
theorem cF{N:Nat->Prop}{W W':World}{p:Addr}{v:Value}(h:CKeep N W W')(hp:N p.block)(hc:W.cell? p=some v):W'.cell? p=some v:=by
 unfold World.cell? at hc ⊢
 cases ho:W.heap[p.block]? with
 | none=>simp [ho] at hc
 | some o=>
  cases o with
  | cells cur t fr=>rw [h.same _ _ _ _ hp ho];rw [ho] at hc;exact hc
  | _=>simp [ho] at hc
end
theorem bY:Tryz.prog.underlying 23=some (.slice 25):=by kernel_rfl
theorem fD:(Tryz.prog.info? 25).map (fun i=>(i.zero,i.size,i.bytes))=some (some (.agg #[.int .i64 0,.int .i64 0,.int .i64 0,.int .i64 0,.slice none 0 0,.slice none 0 0]),6,80):=by kernel_rfl
def Six(W:World)(g o:Nat)(f:Fl):Prop:=
 W.cell? ⟨g,o,none⟩=some (.int .i64 f.k)/\W.cell? ⟨g,o+1,none⟩=some (.int .i64 f.n)/\W.cell? ⟨g,o+2,none⟩=some (.int .i64 f.mn)/\W.cell? ⟨g,o+3,none⟩=some (.int .i64 f.mx)/\W.cell? ⟨g,o+4,none⟩=some (.slice f.rq f.rs.length f.rc)/\W.cell? ⟨g,o+5,none⟩=some (.slice f.kq f.kl f.kc)
theorem Six.ck{N:Nat->Prop}{W W':World}{g o:Nat}{f:Fl}(h:Six W g o f)(hc:CKeep N W W')(hg:N g):Six W' g o f:=
 ⟨cF hc (p:=⟨g,o,none⟩) hg h.1,cF hc (p:=⟨g,o+1,none⟩) hg h.2.1,cF hc (p:=⟨g,o+2,none⟩) hg h.2.2.1,cF hc (p:=⟨g,o+3,none⟩) hg h.2.2.2.1,cF hc (p:=⟨g,o+4,none⟩) hg h.2.2.2.2.1,cF hc (p:=⟨g,o+5,none⟩) hg h.2.2.2.2.2⟩
def ArgK(W:World)(v:Value)(ks:List Tr):Prop:=
 (∃ p cap,v=.slice p 0 cap/\ks=[]/\(p=none->cap=0))\/∃ g off cap,v=.slice (some ⟨g,off,none⟩) ks.length cap/\g<W.heap.size/\ks.length<=cap/\cap<=maxLen/\∀ (i:Nat) (t:Tr),ks[i]?=some t->Six W g (off+i*6) t.f
theorem ArgK.slice{W:World}{v:Value}{ks:List Tr}(h:ArgK W v ks):∃ q cap,v=.slice q ks.length cap/\ks.length<=maxLen/\ks.length<=cap /\
  (∀ (i:Nat) (t:Tr),ks[i]?=some t->∃ g off,q=some ⟨g,off,none⟩/\g<W.heap.size/\Six W g (off+i*6) t.f):=by
 rcases h with⟨p,cap,rfl,rfl,-⟩ | ⟨g,off,cap,rfl,h2,h3,h4,h5⟩
 ·exact⟨p,cap,rfl,m7 _,m7 _,fun i x hx=>by simp at hx⟩
 ·exact⟨_,cap,rfl,j4 h3 h4,h3,fun i x hx=>⟨g,off,rfl,h2,h5 i x hx⟩⟩
def CK(W W':World):Prop:=CKeep (fun k=>k<W.heap.size) W W'
theorem CK.of_below{W W':World}(h:Below W.heap.size W W'):CK W W':=⟨h.size,fun k _ _ _ _ hc=>(h.block k (aC hc)).trans hc⟩
theorem CK.trans{A B C:World}(h:CK A B)(k:CK B C):CK A C:=⟨j4 h.size k.size,fun i cur t fr hi hc=>k.same i cur t fr (j2 hi h.size) (h.same i cur t fr hi hc)⟩
theorem CK.step{A B C:World}(h:CK A B)(k:CKeep (fun i=>i<A.heap.size) B C):CK A C:=⟨j4 h.size k.size,fun i cur t fr hi hc=>k.same i cur t fr hi (h.same i cur t fr hi hc)⟩
theorem ArgK.ck{W W':World}{v:Value}{ks:List Tr}(h:ArgK W v ks)(hc:CK W W'):ArgK W' v ks:=by
 rcases h with h | ⟨g,off,cap,h1,h2,h3,h4,h5⟩
 ·exact .inl h
 ·exact .inr ⟨g,off,cap,h1,j2 h2 hc.size,h3,h4,fun i x hx=>(h5 i x hx).ck hc h2⟩
theorem ArgR.ck{W W':World}{v:Value}{L:List (Int×Int)}(h:ArgR W v L)(hc:CK W W'):ArgR W' v L:=by
 rcases h with h | ⟨g,off,cap,h1,h2,h3,h4,h5⟩
 ·exact .inl h
 ·exact .inr ⟨g,off,cap,h1,j2 h2 hc.size,h3,h4,fun i x hx=>⟨cF hc (p:=⟨g,off+2*i,none⟩) h2 (h5 i x hx).1,cF hc (p:=⟨g,off+2*i+1,none⟩) h2 (h5 i x hx).2⟩⟩
def NO(W:World)(t:Tr):Prop:=(∀ a,t.f.rq=some a->t.f.rs≠[]->∃ cur,W.heap[a.block]?=some (.cells cur 53 (0,0)))/\(∀ a,t.f.kq=some a->t.ks≠[]->∃ cur,W.heap[a.block]?=some (.cells cur 25 (0,0)))
theorem NO.ck{W W':World}{t:Tr}(h:NO W t)(hc:CK W W'):NO W' t:=
 ⟨fun a e z=>by obtain⟨cur,q⟩:=h.1 a e z;exact⟨cur,hc.same _ _ _ _ (aC q) q⟩,fun a e z=>by obtain⟨cur,q⟩:=h.2 a e z;exact⟨cur,hc.same _ _ _ _ (aC q) q⟩⟩
theorem NO.rows{base:Nat}{W:World}{f:Fl}{ks:List Tr}(hr:W.ownsRow base 53 2 (.slice f.rq f.rs.length f.rc) f.rs.length (aH f.rs))(hk:∀ a,f.kq=some a->ks≠[]->∃ cur,W.heap[a.block]?=some (.cells cur 25 (0,0))):NO W (.mk f ks):=
 ⟨fun a e _=>(aG hr (g:=a.block) (by rw [show f.rq=some a from e];rfl)).2.2,hk⟩
structure NA(W:World)(t:Tr):Prop where
 r:ArgR W (.slice t.f.rq t.f.rs.length t.f.rc) t.f.rs
 k:ArgK W (.slice t.f.kq t.f.kl t.f.kc) t.ks
 fit:Fit t.f.rs
 len:t.f.rs.length+3<=8796093022208
 own:NO W t
theorem NA.ck{W W':World}{t:Tr}(h:NA W t)(hc:CK W W'):NA W' t:=⟨h.r.ck hc,h.k.ck hc,h.fit,h.len,h.own.ck hc⟩
theorem NA.kl{W:World}{t:Tr}(h:NA W t):t.f.kl=t.ks.length:=by
 obtain⟨q,cap,e,-⟩:=h.k.slice
 injection e
def TA(W:World)(t:Tr):Prop:=bG (NA W) t
theorem dA{P Q:Tr->Prop}(h:∀ t,P t->Q t)(t:Tr):bG P t->bG Q t:=by
 refine Tr.ind (P:=fun t=>bG P t->bG Q t) (fun t ih he=>?_) t
 exact(aL t).2 ⟨h t ((aL t).1 he).1,(aO _).2 fun u hu=>ih u hu (cH he hu)⟩
theorem TA.ck{W W':World}{t:Tr}(h:TA W t)(hc:CK W W'):TA W' t:=dA (fun _ q=>NA.ck q hc) t h
theorem TA.kept{W W':World}{t:Tr}(h:TA W t)(hb:Below W.heap.size W W'):TA W' t:=h.ck (CK.of_below hb)
theorem TA.node{W:World}{t:Tr}(h:TA W t):NA W t:=((aL t).1 h).1
theorem TA.kid{W:World}{t u:Tr}(h:TA W t)(hu:u∈t.ks):TA W u:=cH h hu
structure NB(W:World)(t:Tr):Prop where
 r:ArgR W (.slice t.f.rq t.f.rs.length t.f.rc) t.f.rs
 k:ArgK W (.slice t.f.kq t.f.kl t.f.kc) t.ks
 fit:Fit t.f.rs
 len:t.f.rs.length+3<=8796093022208
theorem NB.ck{W W':World}{t:Tr}(h:NB W t)(hc:CK W W'):NB W' t:=⟨h.r.ck hc,h.k.ck hc,h.fit,h.len⟩
theorem NB.kl{W:World}{t:Tr}(h:NB W t):t.f.kl=t.ks.length:=by
 obtain⟨q,cap,e,-⟩:=h.k.slice
 injection e
def TB(W:World)(t:Tr):Prop:=bG (NB W) t
theorem TB.ck{W W':World}{t:Tr}(h:TB W t)(hc:CK W W'):TB W' t:=dA (fun _ q=>NB.ck q hc) t h
theorem TB.kept{W W':World}{t:Tr}(h:TB W t)(hb:Below W.heap.size W W'):TB W' t:=h.ck (CK.of_below hb)
theorem TB.node{W:World}{t:Tr}(h:TB W t):NB W t:=((aL t).1 h).1
theorem TB.kid{W:World}{t u:Tr}(h:TB W t)(hu:u∈t.ks):TB W u:=cH h hu
theorem TB.at{W:World}{t:Tr}(h:TB W t){p:Way}{z:El}(hz:z∈pp p t):TB W z.2:=gO t p h z hz
theorem TA.tb{W:World}{t:Tr}(h:TA W t):TB W t:=dA (fun _ q=>⟨q.r,q.k,q.fit,q.len⟩) t h
instance {W:World} {t:Tr}:Coe (TA W t) (TB W t):=⟨TA.tb⟩
def BoxN(W:World)(b:Nat)(f:Fl):Prop:=W.heap[b]?=some (.cells #[.int .i64 f.k,.int .i64 f.n,.int .i64 f.mn,.int .i64 f.mx,.slice f.rq f.rs.length f.rc,.slice f.kq f.kl f.kc] 25 (0,0))
theorem BoxN.six{W:World}{b:Nat}{f:Fl}(h:BoxN W b f):Six W b 0 f:=
 ⟨aA h (i:=0) rfl,aA h (i:=1) rfl,aA h (i:=2) rfl,aA h (i:=3) rfl,aA h (i:=4) rfl,aA h (i:=5) rfl⟩
section
inductive Er where
 | mk (k n mn mx:Int) (rs:List (Int×Int)) (ks:List Er)
mutual
def er:Tr->Er | .mk f ks=>.mk f.k f.n f.mn f.mx f.rs (ers ks)
def ers:List Tr->List Er | []=>[] | t :: ts=>er t :: ers ts
end
theorem aK0(l:List Tr):ers l=l.map er:=by
 induction l with
 | nil=>rw [ers];rfl
 | cons t ts ih=>rw [ers,ih];rfl
theorem bQ(t:Tr):er t=.mk t.f.k t.f.n t.f.mn t.f.mx t.f.rs (t.ks.map er):=by
 cases t
 rw [er,aK0]
 rfl
theorem nO(a b:Tr):er a=er b↔a.f.k=b.f.k/\a.f.n=b.f.n/\a.f.mn=b.f.mn/\a.f.mx=b.f.mx/\a.f.rs=b.f.rs/\a.ks.map er=b.ks.map er:=by
 rw [bQ a,bQ b]
 constructor
 ·intro h
  injection h with h1 h2 h3 h4 h5 h6
  exact⟨h1,h2,h3,h4,h5,h6⟩
 ·rintro ⟨h1,h2,h3,h4,h5,h6⟩
  rw [h1,h2,h3,h4,h5,h6]
open Classical in
noncomputable def eA (a b:Er):Bool:=decide (a=b)
theorem dU(a b:Er):eA a b=true↔a=b:=by unfold eA;simp
theorem sY(a:Er):eA a a=true:=(dU a a).2 rfl
open Classical in
noncomputable def jS (a b:List Er):Bool:=decide (a=b)
theorem gX(a b:List Er):jS a b=true↔a=b:=by unfold jS;simp
end
def cG(k:Int):Bool:=decide (1<=k)&&decide (k<=9)
def bA(k:Int):Bool:=k==2||k==7||k==8||k==9
def eW(a b:Int):Bool:=decide (0<=a)&&decide (a<=255)&&(b==-1 ||(decide (a<=b)&&decide (b<=255)))
def dL(k:Int)(n:Nat):Bool:=if k=5\/k=6 then decide (2<=n) else if k=7\/k=9 then n==1 else n==0
theorem rK(k:Int)(w:World):Calls Tryz.prog 83 #[.int .i64 k] w fun e w'=>e=.returned (.bool (cG k))/\w'=w:=by
 have hid:∀ b,cG k=b->Calls Tryz.prog 83 #[.int .i64 k] w fun e w'=>e=.returned (.bool b)/\w'=w:=by
  intro b hb
  by_cases h1:(1:Int)<=k
  ·by_cases h2:k<=9
   ·have e:b=true:=by rw [<- hb];simp [cG,h1,h2]
    subst e
    clear hb
    go_enter Tryz.func83,Tryz.ntmps83
    go_wp2
    go_ret
    exact⟨rfl,rfl⟩
   ·have e:b=false:=by rw [<- hb];simp [cG,h2]
    subst e
    clear hb
    go_enter Tryz.func83,Tryz.ntmps83
    go_wp2
    go_ret
    exact⟨rfl,rfl⟩
  ·have e:b=false:=by rw [<- hb];simp [cG,h1]
   subst e
   clear hb
   go_enter Tryz.func83,Tryz.ntmps83
   go_wp2
   go_ret
   exact⟨rfl,rfl⟩
 exact hid _ rfl
theorem lY(k:Int)(w:World):Calls Tryz.prog 82 #[.int .i64 k] w fun e w'=>e=.returned (.bool (bA k))/\w'=w:=by
 have hid:∀ b,bA k=b->Calls Tryz.prog 82 #[.int .i64 k] w fun e w'=>e=.returned (.bool b)/\w'=w:=by
  intro b hb
  unfold bA at hb
  cases h1:(k==2) <;> cases h2:(k==7) <;> cases h3:(k==8) <;> cases h4:(k==9) <;> rw [h1,h2,h3,h4] at hb <;> simp at hb <;> subst hb
  all_goals
   go_enter Tryz.func82,Tryz.ntmps82
   go_wp2
   go_ret
   exact⟨rfl,rfl⟩
 exact hid _ rfl
theorem nX(a b:Int)(w:World):Calls Tryz.prog 85 #[.int .i64 a,.int .i64 b] w fun e w'=>e=.returned (.bool (eW a b))/\w'=w:=by
 have hid:∀ r,eW a b=r->Calls Tryz.prog 85 #[.int .i64 a,.int .i64 b] w fun e w'=>e=.returned (.bool r)/\w'=w:=by
  intro r hb
  unfold eW at hb
  by_cases h1:(0:Int)<=a
  ·by_cases h2:a<=255
   ·cases h3:(b==-1) with
    | true=>
     simp [h1,h2,h3] at hb
     subst hb
     go_enter Tryz.func85,Tryz.ntmps85
     go_wp2
     go_ret
     exact⟨rfl,rfl⟩
    | false=>
     by_cases h4:a<=b
     ·by_cases h5:b<=255
      ·simp [h1,h2,h3,h4,h5] at hb
       subst hb
       go_enter Tryz.func85,Tryz.ntmps85
       go_wp2
       go_ret
       exact⟨rfl,rfl⟩
      ·simp [h1,h2,h3,h4,h5] at hb
       subst hb
       go_enter Tryz.func85,Tryz.ntmps85
       go_wp2
       go_ret
       exact⟨rfl,rfl⟩
     ·simp [h1,h2,h3,h4] at hb
      subst hb
      go_enter Tryz.func85,Tryz.ntmps85
      go_wp2
      go_ret
      exact⟨rfl,rfl⟩
   ·simp [h1,h2] at hb
    subst hb
    go_enter Tryz.func85,Tryz.ntmps85
    go_wp2
    go_ret
    exact⟨rfl,rfl⟩
  ·simp [h1] at hb
   subst hb
   go_enter Tryz.func85,Tryz.ntmps85
   go_wp2
   go_ret
   exact⟨rfl,rfl⟩
 exact hid _ rfl
theorem aD8(n:Nat):((n:Int)==0)=(n==0):=by cases n <;> rfl
theorem aK7(n:Nat):((n:Int)==1)=(n==1):=by rw [Bool.eq_iff_iff];simp;omega
theorem qV(f:Fl)(w:World):Calls Tryz.prog 64 #[.agg #[.int .i64 f.k,.int .i64 f.n,.int .i64 f.mn,.int .i64 f.mx,.slice f.rq f.rs.length f.rc,.slice f.kq f.kl f.kc]] w fun e w'=>e=.returned (.bool (dL f.k f.kl))/\Below w.heap.size w w':=by
 obtain⟨r,hr⟩:∃ r,dL f.k f.kl=r:=⟨_,rfl⟩
 rw [hr]
 have HR:=aB hr
 have B1:Hid (Below w.heap.size w (w.alloc (.cells #[.int .i64 f.k,.int .i64 f.n,.int .i64 f.mn,.int .i64 f.mx,.slice f.rq f.rs.length f.rc,.slice f.kq f.kl f.kc] 25))):=bz9
 have N1:Hid (BoxN (w.alloc (.cells #[.int .i64 f.k,.int .i64 f.n,.int .i64 f.mn,.int .i64 f.mx,.slice f.rq f.rs.length f.rc,.slice f.kq f.kl f.kc] 25)) w.heap.size f):=aD w _
 obtain⟨c0,-,-,-,-,c5⟩:=N1.out.six
 simp only [a7] at c5
 clear hr
 cases h5:(f.k==5) <;> cases h6:(f.k==6) <;> cases h7:(f.k==7) <;> cases h9:(f.k==9)
 all_goals
  go_enter Tryz.func64,Tryz.ntmps64
  go_wp2
  go_ret
  refine⟨?_,B1.out⟩
  rw [<- HR.out]
  unfold dL
  simp at h5 h6 h7 h9
  simp [h5,h6,h7,h9]
  try first | exact aD8 _ | exact aK7 _ | omega
section
open Go Go.RowKit Go.Shelf
def aC8(x:El):Array Value:=#[.int .i64 ((x.1.length:Int)+1),.agg #[.int .i64 x.2.f.k,.int .i64 x.2.f.n,.int .i64 x.2.f.mn,.int .i64 x.2.f.mx,.slice x.2.f.rq x.2.f.rs.length x.2.f.rc,.slice x.2.f.kq x.2.f.kl x.2.f.kc]]
theorem nE(par:Tr)(p:Way)(a b:List Tr):∀ i,pps par p i (a++b)=pps par p i a++pps par p (i+a.length) b:=by
 induction a with
 | nil=>intro i;rw [aY];rfl
 | cons x a ih=>intro i;rw [l7,aZ,aZ,ih (i+1),j7,i9,show i+1+a.length=i+(a.length+1) by omega]
theorem nD{par:Tr}{p:Way}{ks:List Tr}{j:Nat}{u:Tr}(h:ks[j]?=some u):pps par p 0 (ks.take (j+1))=pps par p 0 (ks.take j)++pp ((par,j) :: p) u:=by
 have hj:=(i7.1 h).1
 rw [o7,h,Option.toList_some,nE,aZ,aY,l9,o9,a7,Nat.min_eq_left (by omega)]
theorem uQ{par:Tr}{p:Way}{ks:List Tr}(j:Nat):pps par p 0 (ks.take j) <+: pps par p 0 ks:=by
 have:=nE par p (ks.take j) (ks.drop j) 0
 rw [u9] at this
 rw [this]
 exact List.prefix_append _ _
def Nn(b0 b1:Nat):Nat->Prop:=fun k=>k<b0\/b1<=k
theorem nC{L pre:List El}{p:Way}{t:Tr}{r:List El}(h:pre++pp p t <+: L)(hr:r <+: pps t p 0 t.ks):pre++(p,t) :: r <+: L:=by
 refine List.IsPrefix.trans ?_ h
 rw [cD]
 exact(List.prefix_append_right_inj _).2 (List.cons_prefix_cons.2 ⟨rfl,hr⟩)
def aE5(w0:World)(b1:Nat)(L:List El)(J Jx:List El->World->Prop)(xs:List El)(e:Ending)(V':World):Prop:=
 ∃ r:Bool,e=.returned (.bool r)/\((r=true/\J xs V'/\CK w0 V'/\b1<=V'.heap.size)\/(r=false/\∃ pre',pre' <+: L/\Jx pre' V'))
theorem aS9{w0:World}{L:List El}{l b1:Nat}{J Jx:List El->World->Prop}{B:Nat}(hJ:OwnFrom B J)(n:Nat)(hL:∀ pre V,J pre V->pre.length<=1000000)
  (hY:∀ pre x V,J pre V->pre++[x] <+: L->YieldAt Fence.wide (n-1) Tryz.prog l (aC8 x) V fun e V'=>KeepsFrom B V V'/\((e=.returned (.bool true)/\J (pre++[x]) V'/\CKeep (Nn w0.heap.size b1) V V')\/(e=.returned (.bool false)/\Jx (pre++[x]) V'))) :
  ∀ (m:Nat) (t:Tr) (p:Way) (pre:List El) (V:World),t.sz<=m->pre++pp p t <+: L->TB w0 t->CK w0 V->J pre V->p.length<=pre.length->b1<=V.heap.size ->
   CallsIn Fence.wide n Tryz.prog 61 #[.agg #[.int .i64 t.f.k,.int .i64 t.f.n,.int .i64 t.f.mn,.int .i64 t.f.mx,.slice t.f.rq t.f.rs.length t.f.rc,.slice t.f.kq t.f.kl t.f.kc],.int .i64 ((p.length:Int)+1),.func (.yield l) #[] #[]] V (aE5 w0 b1 L J Jx (pre++pp p t)):=by
 intro m
 induction m with
 | zero=>intro t p pre V hm;exact absurd (dM t) (by omega)
 | succ m ih=>
  intro t p pre V hm hpre hta hck hj hpl hb1
  have hfn:∀ f,Fence.wide.fn f:=fun _=>trivial
  have IH:=aB ih
  have HL:=aB hL
  have HPRE:=aB hpre
  have HTA:=aB hta
  have HM:=aB hm
  have hlen:=hL pre V hj
  obtain⟨q,cap,hkv,hk1,hk2,hk3⟩:=hta.node.k.slice
  injection hkv with hkq hkl hkc
  subst hkq
  have HKL:=aB hkl
  have HK3:=aB hk3
  have hkm:t.ks.length<=9223372036854775807:=hk1
  clear hkl hkc hk3 hk1
  have B1:Hid (Below V.heap.size V (V.alloc (.cells #[.int .i64 t.f.k,.int .i64 t.f.n,.int .i64 t.f.mn,.int .i64 t.f.mx,.slice t.f.rq t.f.rs.length t.f.rc,.slice t.f.kq t.f.kl t.f.kc] 25))):=bz9
  have N1:Hid (BoxN (V.alloc (.cells #[.int .i64 t.f.k,.int .i64 t.f.n,.int .i64 t.f.mn,.int .i64 t.f.mx,.slice t.f.rq t.f.rs.length t.f.rc,.slice t.f.kq t.f.kl t.f.kc] 25)) V.heap.size t.f):=aD V _
  have J1:Hid (J pre (V.alloc (.cells #[.int .i64 t.f.k,.int .i64 t.f.n,.int .i64 t.f.mn,.int .i64 t.f.mx,.slice t.f.rq t.f.rs.length t.f.rc,.slice t.f.kq t.f.kl t.f.kc] 25))):=hJ.alloc _ hj
  have C1:Hid (CK w0 (V.alloc (.cells #[.int .i64 t.f.k,.int .i64 t.f.n,.int .i64 t.f.mn,.int .i64 t.f.mx,.slice t.f.rq t.f.rs.length t.f.rc,.slice t.f.kq t.f.kl t.f.kc] 25))):=hck.trans (CK.of_below B1.out)
  have Hb1:=aB hb1
  clear ih hL hpre hta hm hj hck hb1
  refine callsIn_of_wp Tryz.func61 rfl trivial ?_ rfl
  simp only [Tryz.ntmps61,aAH,i9,List.length_nil,Nat.reduceAdd,Nat.reduceSub,Array.replicate_succ,Array.replicate_zero,List.push_toArray,List.append_toArray,n9,l7]
  have cs:=N1.out.six
  obtain⟨fn,tmps,assign,body,hy,hR⟩:=hY pre (p,t) _ J1.out (nC HPRE.out List.nil_prefix)
  simp only [aC8] at hy
  obtain⟨c0,c1,c2,c3,c4,c5⟩:=cs
  simp only [a7] at c1 c2 c3 c4 c5
  gi_wp2
  refine⟨(fun z=>by cases z),hR.mono ?_⟩
  rintro e W3 ⟨-,(⟨rfl,hJ3,hk3⟩ | ⟨rfl,hJx3⟩)⟩
  ·have cc5:W3.cell? ⟨V.heap.size,5,none⟩=some (.slice t.f.kq t.f.kl t.f.kc):=cF hk3 (p:=⟨V.heap.size,5,none⟩) (.inr Hb1.out) c5
   have J3:=aB hJ3
   have C3:Hid (CK w0 W3):=C1.out.step ⟨hk3.size,fun i cur ty fr hi hc=>hk3.same i cur ty fr (.inl hi) hc⟩
   have S3:Hid (b1<=W3.heap.size):=j4 Hb1.out (j4 B1.out.size hk3.size)
   rw [HKL.out] at cc5
   clear hJ3 hk3 hy hR c0 c1 c2 c3 c4 c5 J1 C1 N1 B1
   gi_wp2
   gi_loopw [17] (fun i wr=>∃ j:Nat,j<=t.ks.length/\i=.int .i64 (j:Int)/\J (pre++(p,t) :: pps t p 0 (t.ks.take j)) wr/\CK w0 wr/\b1<=wr.heap.size) (fun i _=>t.ks.length-(intOf i).toNat)
   case atStart=>exact⟨0,m7 _,rfl,by rw [List.take_zero,aY];exact J3.out,C3.out,S3.out⟩
   case round=>
    clear J3 C3 S3 cc5
    obtain⟨j,hj,rfl,hj1,hj2,hj3⟩:=hrel
    have HJ:=aB hj1
    have HC:=aB hj2
    have HS:=aB hj3
    clear hj1 hj2 hj3
    by_cases hjl:j<t.ks.length
    ·have e0:(j:Int)<(t.ks.length:Int):=by omega
     obtain⟨u,hu⟩:∃ u,t.ks[j]?=some u:=⟨_,b7 hjl⟩
     obtain⟨g,off,hq,hg,hsix⟩:=HK3.out j u hu
     rw [hq]
     have HU:=aB hu
     have hin:u∈t.ks:=i5 hu
     obtain⟨c0,c1,c2,c3,c4,c5⟩:=hsix.ck HC.out hg
     have B4:Hid (Below wr.heap.size wr (wr.alloc (.cells #[.int .i64 u.f.k,.int .i64 u.f.n,.int .i64 u.f.mn,.int .i64 u.f.mx,.slice u.f.rq u.f.rs.length u.f.rc,.slice u.f.kq u.f.kl u.f.kc] 25))):=bz9
     have N4:Hid (BoxN (wr.alloc (.cells #[.int .i64 u.f.k,.int .i64 u.f.n,.int .i64 u.f.mn,.int .i64 u.f.mx,.slice u.f.rq u.f.rs.length u.f.rc,.slice u.f.kq u.f.kl u.f.kc] 25)) wr.heap.size u.f):=aD wr _
     obtain⟨d0,d1,d2,d3,d4,d5⟩:=N4.out.six
     simp only [a7] at d1 d2 d3 d4 d5
     have hj1:=HL.out _ _ HJ.out
     have IHU:=aB (IH.out u ((t,j) :: p) (pre++(p,t) :: pps t p 0 (t.ks.take j)) (wr.alloc (.cells #[.int .i64 u.f.k,.int .i64 u.f.n,.int .i64 u.f.mn,.int .i64 u.f.mx,.slice u.f.rq u.f.rs.length u.f.rc,.slice u.f.kq u.f.kl u.f.kc] 25)) (by have:=bW hin;have:=HM.out;omega)
      (by rw [j7,l7,<- nD hu];exact nC HPRE.out (uQ _)) (HTA.out.kid hin) (HC.out.trans (CK.of_below B4.out)) (hJ.alloc _ HJ.out) (by simp;omega) (j4 HS.out B4.out.size))
     have e1:((((t,j) :: p).length:Nat):Int)+1=((p.length:Int)+1)+1:=by simp
     rw [e1] at IHU
     clear hsix hu
     gi_wp2
     refine⟨(fun z=>by cases z),(callsIn_wide.2 (callsIn_wide.1 IHU.out)).mono ?_⟩
     rintro e W5 ⟨r5,rfl,h5⟩
     have H5:=aB h5
     clear h5 c0 c1 c2 c3 c4 c5 d0 d1 d2 d3 d4 d5 IHU N4 B4
     cases r5 with
     | true=>
      rcases H5.out with⟨-,h51,h52,h53⟩ | ⟨z,-⟩
      ·have HN:Hid (J (pre++(p,t) :: pps t p 0 (t.ks.take (j+1))) W5):=(by rw [nD HU.out,<- l7,<- j7];exact h51)
       have H52:=aB h52
       have H53:=aB h53
       clear h51 h52 h53 H5
       gi_wp2
       go_roundw
       case rel=>exact⟨j+1,by omega,by go_num,HN.out,H52.out,H53.out⟩
       case measure=>simp only [intOf];omega
      ·cases z
     | false=>
      rcases H5.out with⟨z,-⟩ | ⟨-,pre',h51,h52⟩
      ·cases z
      ·have HN:=aB (⟨pre',h51,h52⟩:∃ pre',pre' <+: L/\Jx pre' W5)
       clear H5 h51 h52
       gi_wp2
       go_ret
       exact⟨false,rfl,.inr ⟨rfl,HN.out⟩⟩
    ·have e0:¬ (j:Int)<(t.ks.length:Int):=by omega
     have HN:Hid (J (pre++pp p t) wr):=(by rw [cD,show t.ks=t.ks.take j by rw [j5 (by omega)]];exact HJ.out)
     gi_wp2
     go_ret
     exact⟨true,rfl,.inl ⟨rfl,HN.out,HC.out,HS.out⟩⟩
  ·have HN:=aB hJx3
   clear hJx3
   gi_wp2
   go_ret
   exact⟨false,rfl,.inr ⟨rfl,_,nC HPRE.out List.nil_prefix,HN.out⟩⟩
theorem pQ(f:Fl)(w:World) :
  Calls Tryz.prog 38 #[.agg #[.int .i64 f.k,.int .i64 f.n,.int .i64 f.mn,.int .i64 f.mx,.slice f.rq f.rs.length f.rc,.slice f.kq f.kl f.kc]] w fun e w'=>e=.returned (.func (.func 60) #[] #[.pointer (some ⟨w.heap.size,0,none⟩)])/\w'=w.alloc (.cells #[.int .i64 f.k,.int .i64 f.n,.int .i64 f.mn,.int .i64 f.mx,.slice f.rq f.rs.length f.rc,.slice f.kq f.kl f.kc] 25):=by
 go_enter Tryz.func38,Tryz.ntmps38
 go_wp2
 go_ret
 exact⟨rfl,rfl⟩
def aE1(t:Tr)(pre:List El)(x:El)(_:World):Prop:=pre++[x] <+: pp [] t
theorem rB(n:Nat){w0 w:World}{b:Nat}{t:Tr}(hB:BoxN w b t.f)(hta:TB w0 t)(hck:CK w0 w) :
  aN2 n Tryz.prog 60 #[.pointer (some ⟨b,0,none⟩)] aC8 (Nn w0.heap.size w.heap.size) (aE1 t) (fun xs=>xs=pp [] t) (fun pre=>pre <+: pp [] t) w:=by
 intro l J Jx V hV hJ hJx hb hY h0
 have hfn:∀ f,Fence.wide.fn f:=fun _=>trivial
 have D:=aB (aS9 (w0:=w0) (L:=pp [] t) (b1:=w.heap.size) (Jx:=Jx) hJ n hb (fun pre x V=>hY pre x V) t.sz t [] [] V lz9 (by rw [n9];exact List.prefix_refl _) hta (hck.step ⟨hV.size,fun k _ _ _ _ hc=>(hV.block k (aC hc)).trans hc⟩) h0 lz9 hV.size)
 have HB:Hid (BoxN V b t.f):=(hV.block _ (aC hB)).trans hB
 obtain⟨c0,c1,c2,c3,c4,c5⟩:=HB.out.six
 simp only [a7] at c1 c2 c3 c4 c5
 clear hJ hJx hb hY h0 hB hta hck hV
 refine callsIn_of_wp Tryz.func60 rfl trivial ?_ rfl
 simp only [Tryz.ntmps60,aAH,i9,List.length_nil,Nat.reduceAdd,Nat.reduceSub,Array.replicate_succ,Array.replicate_zero,List.push_toArray,List.append_toArray,n9,l7]
 gi_wp2
 refine⟨(fun z=>by cases z),(callsIn_wide.2 (callsIn_wide.1 D.out)).mono ?_⟩
 rintro e W5 ⟨r5,rfl,h5⟩
 have H5:=aB h5
 clear h5 D
 gi_wp2
 go_end0
 refine⟨⟨_,rfl⟩,?_⟩
 rcases H5.out with⟨-,h51,-,-⟩ | ⟨-,pre',h51,h52⟩
 ·exact .inl ⟨_,rfl,by rw [n9] at h51;exact h51⟩
 ·exact .inr ⟨pre',h51,h52⟩
theorem aT2{w0 W W':World}{B:Nat}{row:Option Nat}(h:CK w0 W)(hg:W.grownBy W' row)(hr:∀ r,row=some r->B<=r/\∃ o:Obj,W.heap[r]?=some o/\o.isCells=false):CK w0 W':=
 ⟨j4 h.size hg.size,fun k cur t fr hk hc=>dS hg hr (h.same k cur t fr hk hc)⟩
def fI(a:Act)(q d:Nat)(x:El):Act:={ tmps:=(a.tmps.setIfInBounds q (.int .i64 ((x.1.length:Int)+1))).setIfInBounds d (.agg #[.int .i64 x.2.f.k,.int .i64 x.2.f.n,.int .i64 x.2.f.mn,.int .i64 x.2.f.mx,.slice x.2.f.rq x.2.f.rs.length x.2.f.rc,.slice x.2.f.kq x.2.f.kl x.2.f.kc]),defers:=[] }
def iE(a:Act)(D:Nat):Act:={ a with defers:={ target:=.collected D,args:=#[] } :: a.defers }
theorem tB{g:Operand}{ps:Array Tmp}{assign body:Code}{Q:Exit->Act->World->Prop}{a:Act}{w:World}{n:Nat}(hn:1<=n)(q d:Nat)(b:Nat){w0:World}{t:Tr}
  (hg:a.eval g=.func (.func 60) #[] #[.pointer (some ⟨b,0,none⟩)]) (hps:ps=#[q,d]) (hB:BoxN w b t.f) (hta:TB w0 t) (hck:CK w0 w)
  (I:List El->World->Prop) (Ix:Code->List El->World->Prop) (hI:OwnFrom w.heap.size I) (hIx:∀ c,OwnFrom w.heap.size (Ix c)) (hbd:∀ pre W,I pre W->pre.length<=1000000) (h0:I [] w)
  (Ax:Act->El->Act->World->Prop) (hAx:∀ y x a',OwnFrom w.heap.size (fun (_:Unit) W=>Ax y x a' W))
  (hassign:∀ (l:Nat) (pre:List El) (x:El) (W:World) (K:Act->World->Prop),I pre W->CK w0 W->w.heap.size<=W.heap.size->aE1 t pre x W->(∀ a' W',Below W.heap.size W W'->Ax (fI a q d x) x a' W'->K a' W') ->
   assign.wpIn (Fence.wide.inRound l) (n-1-1) Tryz.prog (Exit.then K (fun _ _ _=>False)) (fI a q d x) W)
  (hbody:∀ (l:Nat) (pre:List El) (x:El) (a':Act) (V:World),I pre V->CK w0 V->w.heap.size<=V.heap.size->aE1 t pre x V->Ax (fI a q d x) x a' V->body.wpIn (Fence.wide.inRound l) (n-1-1) Tryz.prog (ownPostG w.heap.size (CKeep (Nn w0.heap.size w.heap.size)) I Ix (pre++[x]) V) a' V)
  (hdone:∀ (D:Nat) (V:World),w.heap.size<=D->I (pp [] t) V->CK w0 V->V.heap[D]?=some (.deferred (some []))->Q .normal (iE a D) V)
  (hstop:∀ (D:Nat) (c:Code) (pre:List El) (V:World),w.heap.size<=D->pre <+: pp [] t->Ix c pre V->V.heap[D]?=some (.deferred (some []))->c.wpIn Fence.wide n Tryz.prog Q (iE a D) V) :
  (Code.rangeFunc g ps assign body).wpIn Fence.wide n Tryz.prog Q a w:=by
 subst hps
 refine tA (α:=El) hn (gf:=60) hg (enters_of Tryz.func60 (by kernel_rfl) rfl) (encs:=aC8) (fun _=>rfl)
  (rB (n-1) hB hta hck) (fun pre V=>I pre V/\CK w0 V/\w.heap.size<=V.heap.size) Ix ?_ hIx (fun pre x _ _ _ _ h _ _=>h) (fun pre W h=>hbd pre W h.1) ⟨h0,hck,o5 _⟩ (fun x=>Ax (fI a q d x) x) (fun x=>hAx _ x) ?_ ?_ ?_ hstop
 ·intro pre A A' row hi hg hr
  exact⟨hI pre A A' row hi.1 hg hr,aT2 hi.2.1 hg hr,j4 hi.2.2 hg.size⟩
 ·intro l pre x V K hi ht hK
  have:=hassign l pre x V K hi.1 hi.2.1 hi.2.2 ht hK
  simpa [aC8,fI] using this
 ·intro l pre x a' V hi ht hax
  refine wpIn_mono (hbody l pre x a' V hi.1 hi.2.1 hi.2.2 ht hax) fun e a3 W3 hp=>?_
  cases e with
  | normal=>exact⟨hp.1,hp.2.1,hp.2.2,hi.2.1.step ⟨hp.2.1.size,fun k cur ty fr hk hc=>hp.2.1.same k cur ty fr (.inl hk) hc⟩,j4 hi.2.2 hp.1.size⟩
  | ret=>exact hp
  | exit id=>exact hp
  | goto t=>exact hp
  | panic ch=>exact hp
  | outgrown=>exact hp
 ·rintro D xs V hD rfl hi hK
  exact hdone D V hD hi.1 hi.2.1 hK
def Ax0(y:Act)(_:El)(a':Act)(_:World):Prop:=a'=y
theorem aL2(B:Nat)(y:Act)(x:El)(a':Act):OwnFrom B (fun (_:Unit) W=>Ax0 y x a' W):=fun _ _ _ _ h _ _=>h
end
section
open Go Go.RowKit Go.Shelf
attribute [local go_sem] Oper.semAt_some
def BoxI(W:World)(b:Nat)(x:Int):Prop:=W.heap[b]?=some (.cells #[.int .i64 x] 3 (0,0))
theorem BoxI.cell{W:World}{b:Nat}{x:Int}(h:BoxI W b x):W.cell? ⟨b,0,none⟩=some (.int .i64 x):=aA h (i:=0) rfl
theorem BoxI.row{W W':World}{b B:Nat}{x:Int}{row:Option Nat}(h:BoxI W b x)(hg:W.grownBy W' row)(hr:∀ r,row=some r->B<=r/\∃ o:Obj,W.heap[r]?=some o/\o.isCells=false):BoxI W' b x:=dS hg hr h
theorem BoxI.set{W:World}{b:Nat}{x:Int}(h:BoxI W b x)(y:Int):BoxI (W.setCell ⟨b,0,none⟩ (.int .i64 y)) b y:=aM h 0 _
theorem BoxI.fr{W:World}{b:Nat}(v:Value):Fr (fun z=>z=b) W (W.setCell ⟨b,0,none⟩ v):=(Fr.refl (fun z=>z=b) W).setCell (p:=⟨b,0,none⟩) rfl _
def eK(t:Tr):Nat:=min (pp [] t).length 2001
theorem gR{n B:Nat}{w W W':World}{row:Option Nat}(h:Below n w W)(hn:n<=w.heap.size)(hB:n<=B)(hg:W.grownBy W' row)(hr:∀ r,row=some r->B<=r/\∃ o:Obj,W.heap[r]?=some o/\o.isCells=false):Below n w W':=
 h.trans ⟨hg.os,hg.tape,hg.output,hg.size,fun k hk=>hg.block k (by have:=h.size;omega) (fun e=>by have:=(hr k e.symm).1;omega)⟩
theorem lF{n:Nat}{w W:World}{D:Nat}(o:Obj)(h:Below n w W)(hD:n<=D):Below n w (W.putObj D o):=
 h.trans ⟨rfl,rfl,rfl,(grownBy_putObj' W D o).size,fun k hk=>World.putObj_heap_other (by omega)⟩
theorem aT0(n:Nat)(hn:3<=n){w:World}{t:Tr}(hta:TB w t) :
  CallsIn Fence.wide n Tryz.prog 98 #[.agg #[.int .i64 t.f.k,.int .i64 t.f.n,.int .i64 t.f.mn,.int .i64 t.f.mx,.slice t.f.rq t.f.rs.length t.f.rc,.slice t.f.kq t.f.kl t.f.kc]] w fun e w'=>e=.returned (.int .i64 (eK t:Int))/\Below w.heap.size w w':=by
 have hfn:∀ f,Fence.wide.fn f:=fun _=>trivial
 refine callsIn_of_wp_marks Tryz.func98 rfl trivial ?_ rfl
 simp only [Tryz.ntmps98,aAH,i9,List.length_nil,Nat.reduceAdd,Nat.reduceSub,Array.replicate_succ,Array.replicate_zero,List.push_toArray,List.append_toArray,n9,l7]
 refine wpIn_wide.2 ?_
 have HTA:=aB hta
 have B1:Hid (Below w.heap.size w ((w.alloc (.cells #[.int .i64 t.f.k,.int .i64 t.f.n,.int .i64 t.f.mn,.int .i64 t.f.mx,.slice t.f.rq t.f.rs.length t.f.rc,.slice t.f.kq t.f.kl t.f.kc] 25)).alloc (.cells #[.int .i64 0] 3))):=(bz9).alloc (by simp) _
 have N1:Hid (BoxN ((w.alloc (.cells #[.int .i64 t.f.k,.int .i64 t.f.n,.int .i64 t.f.mn,.int .i64 t.f.mx,.slice t.f.rq t.f.rs.length t.f.rc,.slice t.f.kq t.f.kl t.f.kc] 25)).alloc (.cells #[.int .i64 0] 3)) w.heap.size t.f):=(Below.heap_alloc _ _ _ (by simp)).trans (aD w _)
 have N2:Hid (BoxI ((w.alloc (.cells #[.int .i64 t.f.k,.int .i64 t.f.n,.int .i64 t.f.mn,.int .i64 t.f.mx,.slice t.f.rq t.f.rs.length t.f.rc,.slice t.f.kq t.f.kl t.f.kc] 25)).alloc (.cells #[.int .i64 0] 3)) (w.heap.size+1) 0):=(by
  have:=aD (w.alloc (.cells #[.int .i64 t.f.k,.int .i64 t.f.n,.int .i64 t.f.mn,.int .i64 t.f.mx,.slice t.f.rq t.f.rs.length t.f.rc,.slice t.f.kq t.f.kl t.f.kc] 25)) (.cells #[.int .i64 0] 3)
  rwa [m8] at this)
 obtain⟨c0,c1,c2,c3,c4,c5⟩:=N1.out.six
 simp only [a7] at c1 c2 c3 c4 c5
 go_wp2_with (go_at_call 38;(with_reducible refine(pQ _ _).mono ?_);rintro e w3 ⟨rfl,rfl⟩)
 have N3:BoxN (((w.alloc (.cells #[.int .i64 t.f.k,.int .i64 t.f.n,.int .i64 t.f.mn,.int .i64 t.f.mx,.slice t.f.rq t.f.rs.length t.f.rc,.slice t.f.kq t.f.kl t.f.kc] 25)).alloc (.cells #[.int .i64 0] 3)).alloc (.cells #[.int .i64 t.f.k,.int .i64 t.f.n,.int .i64 t.f.mn,.int .i64 t.f.mx,.slice t.f.rq t.f.rs.length t.f.rc,.slice t.f.kq t.f.kl t.f.kc] 25)) (w.heap.size+1+1) t.f:=(by
  have:=aD ((w.alloc (.cells #[.int .i64 t.f.k,.int .i64 t.f.n,.int .i64 t.f.mn,.int .i64 t.f.mx,.slice t.f.rq t.f.rs.length t.f.rc,.slice t.f.kq t.f.kl t.f.kc] 25)).alloc (.cells #[.int .i64 0] 3)) (.cells #[.int .i64 t.f.k,.int .i64 t.f.n,.int .i64 t.f.mn,.int .i64 t.f.mx,.slice t.f.rq t.f.rs.length t.f.rc,.slice t.f.kq t.f.kl t.f.kc] 25)
  rwa [m8,m8] at this)
 have I3:BoxI (((w.alloc (.cells #[.int .i64 t.f.k,.int .i64 t.f.n,.int .i64 t.f.mn,.int .i64 t.f.mx,.slice t.f.rq t.f.rs.length t.f.rc,.slice t.f.kq t.f.kl t.f.kc] 25)).alloc (.cells #[.int .i64 0] 3)).alloc (.cells #[.int .i64 t.f.k,.int .i64 t.f.n,.int .i64 t.f.mn,.int .i64 t.f.mx,.slice t.f.rq t.f.rs.length t.f.rc,.slice t.f.kq t.f.kl t.f.kc] 25)) (w.heap.size+1) 0:=(Below.heap_alloc _ _ _ (by simp)).trans N2.out
 have B3:Below w.heap.size w (((w.alloc (.cells #[.int .i64 t.f.k,.int .i64 t.f.n,.int .i64 t.f.mn,.int .i64 t.f.mx,.slice t.f.rq t.f.rs.length t.f.rc,.slice t.f.kq t.f.kl t.f.kc] 25)).alloc (.cells #[.int .i64 0] 3)).alloc (.cells #[.int .i64 t.f.k,.int .i64 t.f.n,.int .i64 t.f.mn,.int .i64 t.f.mx,.slice t.f.rq t.f.rs.length t.f.rc,.slice t.f.kq t.f.kl t.f.kc] 25)):=B1.out.alloc (by simp;omega) _
 generalize (((w.alloc (.cells #[.int .i64 t.f.k,.int .i64 t.f.n,.int .i64 t.f.mn,.int .i64 t.f.mx,.slice t.f.rq t.f.rs.length t.f.rc,.slice t.f.kq t.f.kl t.f.kc] 25)).alloc (.cells #[.int .i64 0] 3)).alloc (.cells #[.int .i64 t.f.k,.int .i64 t.f.n,.int .i64 t.f.mn,.int .i64 t.f.mx,.slice t.f.rq t.f.rs.length t.f.rc,.slice t.f.kq t.f.kl t.f.kc] 25))=w4 at N3 I3 B3 ⊢
 have L3:=aC N3
 have L4:=aC I3
 obtain⟨bi,hbi⟩:∃ bi,w.heap.size+1=bi:=⟨_,rfl⟩
 rw [hbi] at I3 N3 L3 L4 ⊢
 obtain⟨bn,hbn⟩:∃ bn,bi+1=bn:=⟨_,rfl⟩
 rw [hbn] at N3 L3 ⊢
 have hwi:w.heap.size<=bi:=by omega
 clear N1 N2 B1 c0 c1 c2 c3 c4 c5 hbi hbn
 refine(wpIn_wide (n:=n)).1 ?_
 refine tB (by omega) 6 7 bn rfl rfl N3 HTA.out (CK.of_below B3) (fun pre V=>BoxI V bi (pre.length:Int)/\pre.length<=2000/\Below w.heap.size w V) (fun c pre V=>c=.exit 0/\BoxI V bi 2001/\pre.length=2001/\Below w.heap.size w V)
  ?_ ?_ (fun pre W h=>by omega) ⟨I3,by simp,B3⟩ Ax0 (aL2 _) ?_ ?_ ?_ ?_
 ·rintro pre A A' row ⟨h1,h2,h3⟩ hg hr
  exact⟨h1.row hg hr,h2,gR h3 lz9 B3.size hg hr⟩
 ·rintro c pre A A' row ⟨h0,h1,h2,h3⟩ hg hr
  exact⟨h0,h1.row hg hr,h2,gR h3 lz9 B3.size hg hr⟩
 ·intro l pre x V K _ _ _ _ hK
  gi_wp2
  exact hK _ _ (Below.refl _ _) rfl
 ·rintro l pre x a' V ⟨h1,h2,h3⟩ hck hsz ht rfl
  have H1:=aB h1
  have H3:=aB h3
  have k0:=h1.cell
  have fz:=aJ h1 0
  have HS:=aB hsz
  clear h1 h3 hck ht hsz
  have F1:Hid (Fr (fun z=>z=bi) V (V.setCell ⟨bi,0,none⟩ (.int .i64 ((pre.length:Int)+1)))):=BoxI.fr _
  have X1:Hid (BoxI (V.setCell ⟨bi,0,none⟩ (.int .i64 ((pre.length:Int)+1))) bi ((pre.length:Int)+1)):=H1.out.set _
  have HP:Hid (KeepsFrom w4.heap.size V (V.setCell ⟨bi,0,none⟩ (.int .i64 ((pre.length:Int)+1)))/\CKeep (Nn w.heap.size w4.heap.size) V (V.setCell ⟨bi,0,none⟩ (.int .i64 ((pre.length:Int)+1)))/\Below w.heap.size w (V.setCell ⟨bi,0,none⟩ (.int .i64 ((pre.length:Int)+1)))):=
   ⟨F1.out.keepsFrom (fun k hk=>by omega),F1.out.ckeep (fun k hk=>by rintro (z | z) <;> omega),aX H3.out F1.out lz9 (fun k e=>by omega)⟩
  have k1:=X1.out.cell
  simp only [fI]
  by_cases hlt:2000<=pre.length
  ·have e1:(2000:Int)<(pre.length:Int)+1:=by omega
   gi_wp2
   refine⟨HP.out.1,rfl,by have:=X1.out;rwa [show (pre.length:Int)+1=2001 by omega] at this ⊢,by simp;omega,HP.out.2.2⟩
  ·have e1:¬ (2000:Int)<(pre.length:Int)+1:=by omega
   gi_wp2
   refine⟨HP.out.1,HP.out.2.1,by simpa using X1.out,by simp;omega,HP.out.2.2⟩
 ·rintro D V hD ⟨h1,h2,h3⟩ hck hK
  have k0:=h1.cell
  have e1:eK t=(pp [] t).length:=by unfold eK;omega
  have H3:=aB h3
  have HK:=aB hK
  have HD:=aB hD
  simp only [iE]
  go_wp2
  refine⟨by simp,.inl ⟨_,_,rfl,run_takeDeferred HK.out,?_⟩⟩
  refine⟨.int .i64 (eK t:Int),by simp [results,Tryz.results98,go_sem,e1],rfl,lF _ H3.out (j4 B3.size HD.out)⟩
 ·rintro D c pre V hD hpre ⟨rfl,h1,h2,h3⟩ hK
  have k0:=h1.cell
  have e1:eK t=2001:=by unfold eK;have:=hpre.length_le;omega
  have H3:=aB h3
  have HK:=aB hK
  have HD:=aB hD
  refine(wpIn_wide (n:=n)).2 ?_
  simp only [iE]
  go_wp2
  refine⟨by simp,.inl ⟨_,_,rfl,run_takeDeferred HK.out,?_⟩⟩
  refine⟨.int .i64 (eK t:Int),by simp [results,Tryz.results98,go_sem,e1],rfl,lF _ H3.out (j4 B3.size HD.out)⟩
theorem aV1{w:World}{t:Tr}(hta:TB w t):Calls Tryz.prog 98 #[.agg #[.int .i64 t.f.k,.int .i64 t.f.n,.int .i64 t.f.mn,.int .i64 t.f.mx,.slice t.f.rq t.f.rs.length t.f.rc,.slice t.f.kq t.f.kl t.f.kc]] w fun e w'=>e=.returned (.int .i64 (eK t:Int))/\Below w.heap.size w w':=callsIn_wide.1 (aT0 3 (by decide) hta)
theorem lJ{w:World}{t:Tr}(hta:TB w t):Calls Tryz.prog 86 #[.agg #[.int .i64 t.f.k,.int .i64 t.f.n,.int .i64 t.f.mn,.int .i64 t.f.mx,.slice t.f.rq t.f.rs.length t.f.rc,.slice t.f.kq t.f.kl t.f.kc]] w fun e w'=>e=.returned (.bool (decide (2000<(pp [] t).length)))/\Below w.heap.size w w':=by
 have HTA:=aB hta
 have B1:Hid (Below w.heap.size w (w.alloc (.cells #[.int .i64 t.f.k,.int .i64 t.f.n,.int .i64 t.f.mn,.int .i64 t.f.mx,.slice t.f.rq t.f.rs.length t.f.rc,.slice t.f.kq t.f.kl t.f.kc] 25))):=bz9
 have N1:Hid (BoxN (w.alloc (.cells #[.int .i64 t.f.k,.int .i64 t.f.n,.int .i64 t.f.mn,.int .i64 t.f.mx,.slice t.f.rq t.f.rs.length t.f.rc,.slice t.f.kq t.f.kl t.f.kc] 25)) w.heap.size t.f):=aD w _
 obtain⟨c0,c1,c2,c3,c4,c5⟩:=N1.out.six
 simp only [a7] at c1 c2 c3 c4 c5
 have e1:(decide ((2000:Int)<(eK t:Int)))=decide (2000<(pp [] t).length):=by
  rw [decide_eq_decide]
  unfold eK
  omega
 clear hta
 go_enter Tryz.func86,Tryz.ntmps86
 go_wp2_with (go_at_call 98;(with_reducible refine(aV1 (HTA.out.kept B1.out)).mono ?_);rintro e w3 ⟨rfl,h3⟩;have B3:Hid (Below w.heap.size w w3):=aF B1.out h3 lz9;clear h3)
 go_ret
 exact⟨by rw [<- e1];rfl,B3.out⟩
end
structure cW where
 f:Fl
 s:Int
def Seven(W:World)(g o:Nat)(x:cW):Prop:=Six W g o x.f/\W.cell? ⟨g,o+6,none⟩=some (.int .i64 x.s)
structure CB(W:World)(b:Nat)(c f:Bool)(ah gr:Int)(A:Nat->cW):Prop where
 blk:∃ cur,W.heap[b]?=some (.cells cur 83 (0,0))
 c0:W.cell? ⟨b,0,none⟩=some (.bool c)
 c1:W.cell? ⟨b,1,none⟩=some (.bool f)
 c2:W.cell? ⟨b,2,none⟩=some (.int .i64 ah)
 c3:W.cell? ⟨b,3,none⟩=some (.int .i64 gr)
 sp:∀ d,d<41->Seven W b (4+d*7) (A d)
theorem CB.lt{W:World}{b:Nat}{c f:Bool}{ah gr:Int}{A:Nat->cW}(h:CB W b c f ah gr A):b<W.heap.size:=by
 obtain⟨cur,h⟩:=h.blk
 exact aC h
theorem CB.ck{N:Nat->Prop}{W W':World}{b:Nat}{c f:Bool}{ah gr:Int}{A:Nat->cW}(h:CB W b c f ah gr A)(hk:CKeep N W W')(hb:N b):CB W' b c f ah gr A:=by
 obtain⟨cur,hc⟩:=h.blk
 exact⟨⟨cur,hk.same _ _ _ _ hb hc⟩,cF hk (p:=⟨b,0,none⟩) hb h.c0,cF hk (p:=⟨b,1,none⟩) hb h.c1,cF hk (p:=⟨b,2,none⟩) hb h.c2,cF hk (p:=⟨b,3,none⟩) hb h.c3,fun d hd=>⟨(h.sp d hd).1.ck hk hb,cF hk (p:=⟨b,4+d*7+6,none⟩) hb (h.sp d hd).2⟩⟩
theorem CB.kept{W W':World}{b:Nat}{c f:Bool}{ah gr:Int}{A:Nat->cW}(h:CB W b c f ah gr A)(hb:Below W.heap.size W W'):CB W' b c f ah gr A:=h.ck (CK.of_below hb) h.lt
theorem CB.row{W W':World}{b B:Nat}{c f:Bool}{ah gr:Int}{A:Nat->cW}{row:Option Nat}(h:CB W b c f ah gr A)(hg:W.grownBy W' row)(hr:∀ r,row=some r->B<=r/\∃ o:Obj,W.heap[r]?=some o/\o.isCells=false):CB W' b c f ah gr A:=
 h.ck (N:=fun _=>True) ⟨hg.size,fun _ _ _ _ _ hc=>dS hg hr hc⟩ trivial
theorem aQ7{b i j:Nat}(h:i≠j):(⟨b,i,none⟩:Addr)≠⟨b,j,none⟩:=fun e=>h (by injection e)
theorem aE{W:World}{b i j:Nat}{u v:Value}(h:W.cell? ⟨b,i,none⟩=some v)(hij:i≠j):(W.setCell ⟨b,j,none⟩ u).cell? ⟨b,i,none⟩=some v:=by
 rw [World.cell?_setCell_other]
 ·exact h
 ·exact aQ7 hij.symm
theorem Six.off{W:World}{b o j:Nat}{u:Value}{f:Fl}(h:Six W b o f)(hj:j<o\/o+6<=j):Six (W.setCell ⟨b,j,none⟩ u) b o f:=
 ⟨aE h.1 (by omega),aE h.2.1 (by omega),aE h.2.2.1 (by omega),aE h.2.2.2.1 (by omega),aE h.2.2.2.2.1 (by omega),aE h.2.2.2.2.2 (by omega)⟩
theorem bO{W:World}{b:Nat}{t:TypeId}(h:∃ cur,W.heap[b]?=some (.cells cur t (0,0)))(j:Nat)(u:Value):∃ cur,(W.setCell ⟨b,j,none⟩ u).heap[b]?=some (.cells cur t (0,0)):=by
 obtain⟨cur,hc⟩:=h
 exact⟨_,aM hc j u⟩
theorem Seven.off{W:World}{b o j:Nat}{u:Value}{x:cW}(h:Seven W b o x)(hj:j<o\/o+7<=j):Seven (W.setCell ⟨b,j,none⟩ u) b o x:=
 ⟨h.1.off (by omega),aE h.2 (by omega)⟩
theorem CB.setAh{W:World}{b:Nat}{c f:Bool}{ah gr:Int}{A:Nat->cW}(h:CB W b c f ah gr A)(x:Int):CB (W.setCell ⟨b,2,none⟩ (.int .i64 x)) b c f x gr A:=
 ⟨bO h.blk _ _,aE h.c0 (by omega),aE h.c1 (by omega),j9 _ _ _ h.c2,aE h.c3 (by omega),fun d hd=>(h.sp d hd).off (by omega)⟩
theorem CB.setGr{W:World}{b:Nat}{c f:Bool}{ah gr:Int}{A:Nat->cW}(h:CB W b c f ah gr A)(x:Int):CB (W.setCell ⟨b,3,none⟩ (.int .i64 x)) b c f ah x A:=
 ⟨bO h.blk _ _,aE h.c0 (by omega),aE h.c1 (by omega),aE h.c2 (by omega),j9 _ _ _ h.c3,fun d hd=>(h.sp d hd).off (by omega)⟩
def lM(A:Nat->cW)(d:Nat)(x:cW):Nat->cW:=fun i=>if i=d then x else A i
theorem CB.setSeen{W:World}{b:Nat}{c f:Bool}{ah gr:Int}{A:Nat->cW}(h:CB W b c f ah gr A){d:Nat}(hd:d<41)(x:Int):CB (W.setCell ⟨b,4+d*7+6,none⟩ (.int .i64 x)) b c f ah gr (lM A d ⟨(A d).f,x⟩):=
 ⟨bO h.blk _ _,aE h.c0 (by omega),aE h.c1 (by omega),aE h.c2 (by omega),aE h.c3 (by omega),fun i hi=>by
  unfold lM
  by_cases e:i=d
  ·subst e
   rw [if_pos rfl]
   exact⟨(h.sp i hi).1.off (by omega),j9 _ _ _ (h.sp i hi).2⟩
  ·rw [if_neg e]
   exact(h.sp i hi).off (by omega)⟩
def iO(W:World)(b o:Nat)(x:cW):World:=
 ((((((W.setCell ⟨b,o,none⟩ (.int .i64 x.f.k)).setCell ⟨b,o+1,none⟩ (.int .i64 x.f.n)).setCell ⟨b,o+2,none⟩ (.int .i64 x.f.mn)).setCell ⟨b,o+3,none⟩ (.int .i64 x.f.mx)).setCell ⟨b,o+4,none⟩ (.slice x.f.rq x.f.rs.length x.f.rc)).setCell ⟨b,o+5,none⟩ (.slice x.f.kq x.f.kl x.f.kc)).setCell ⟨b,o+6,none⟩ (.int .i64 x.s)
theorem CB.setSpot{W:World}{b:Nat}{c f:Bool}{ah gr:Int}{A:Nat->cW}(h:CB W b c f ah gr A){d:Nat}(hd:d<41)(x:cW):CB (iO W b (4+d*7) x) b c f ah gr (lM A d x):=by
 have off:∀ {i:Nat} {v:Value},W.cell? ⟨b,i,none⟩=some v->(i<4+d*7\/4+d*7+7<=i)->(iO W b (4+d*7) x).cell? ⟨b,i,none⟩=some v:=by
  intro i v hv hi
  unfold iO
  exact aE (aE (aE (aE (aE (aE (aE hv (by omega)) (by omega)) (by omega)) (by omega)) (by omega)) (by omega)) (by omega)
 refine⟨?_,off h.c0 (by omega),off h.c1 (by omega),off h.c2 (by omega),off h.c3 (by omega),fun i hi=>?_⟩
 ·unfold iO
  exact bO (bO (bO (bO (bO (bO (bO h.blk _ _) _ _) _ _) _ _) _ _) _ _) _ _
 ·unfold lM
  by_cases e:i=d
  ·subst e
   rw [if_pos rfl]
   obtain⟨⟨k0,k1,k2,k3,k4,k5⟩,k6⟩:=h.sp i hi
   unfold iO
   refine⟨⟨?_,?_,?_,?_,?_,?_⟩,?_⟩
   ·exact aE (aE (aE (aE (aE (aE (j9 _ _ _ k0) (by omega)) (by omega)) (by omega)) (by omega)) (by omega)) (by omega)
   ·exact aE (aE (aE (aE (aE (j9 _ _ _ (aE k1 (by omega))) (by omega)) (by omega)) (by omega)) (by omega)) (by omega)
   ·exact aE (aE (aE (aE (j9 _ _ _ (aE (aE k2 (by omega)) (by omega))) (by omega)) (by omega)) (by omega)) (by omega)
   ·exact aE (aE (aE (j9 _ _ _ (aE (aE (aE k3 (by omega)) (by omega)) (by omega))) (by omega)) (by omega)) (by omega)
   ·exact aE (aE (j9 _ _ _ (aE (aE (aE (aE k4 (by omega)) (by omega)) (by omega)) (by omega))) (by omega)) (by omega)
   ·exact aE (j9 _ _ _ (aE (aE (aE (aE (aE k5 (by omega)) (by omega)) (by omega)) (by omega)) (by omega))) (by omega)
   ·exact j9 _ _ _ (aE (aE (aE (aE (aE (aE k6 (by omega)) (by omega)) (by omega)) (by omega)) (by omega)) (by omega))
  ·rw [if_neg e]
   obtain⟨⟨k0,k1,k2,k3,k4,k5⟩,k6⟩:=h.sp i hi
   exact⟨⟨off k0 (by omega),off k1 (by omega),off k2 (by omega),off k3 (by omega),off k4 (by omega),off k5 (by omega)⟩,off k6 (by omega)⟩
theorem uN(W:World)(b o:Nat)(x:cW):Fr (fun z=>z=b) W (iO W b o x):=by
 unfold iO
 exact(((((((Fr.refl (fun z=>z=b) W).setCell (p:=⟨b,o,none⟩) rfl _).setCell (p:=⟨b,o+1,none⟩) rfl _).setCell (p:=⟨b,o+2,none⟩) rfl _).setCell (p:=⟨b,o+3,none⟩) rfl _).setCell (p:=⟨b,o+4,none⟩) rfl _).setCell (p:=⟨b,o+5,none⟩) rfl _).setCell (p:=⟨b,o+6,none⟩) rfl _
def Fl.cells(f:Fl):List Value:=[.int .i64 f.k,.int .i64 f.n,.int .i64 f.mn,.int .i64 f.mx,.slice f.rq f.rs.length f.rc,.slice f.kq f.kl f.kc]
def aQ(ks:List Tr):List Value:=ks.flatMap fun t=>t.f.cells
theorem iT(t:Tr)(ks:List Tr):aQ (t :: ks)=t.f.cells++aQ ks:=by simp [aQ]
theorem cO(a b:List Tr):aQ (a++b)=aQ a++aQ b:=by simp [aQ]
theorem eS(ks:List Tr):(aQ ks).length=ks.length*6:=by
 induction ks with
 | nil=>rfl
 | cons t ks ih=>rw [iT,j3,ih,i9];simp [Fl.cells];omega
theorem kA(ks:List Tr):∀ u∈aQ ks,u.oneCell'=true:=by
 intro u hu
 unfold aQ at hu
 rw [aAF] at hu
 obtain⟨t,-,ht⟩:=hu
 simp [Fl.cells] at ht
 rcases ht with rfl | rfl | rfl | rfl | rfl | rfl <;> rfl
theorem iC:∀ (ks:List Tr) (i j:Nat) (t:Tr),ks[i]?=some t->j<6->(aQ ks)[i*6+j]?=t.f.cells[j]?
 | t :: ks,0,j,u,h,hj=>by
  simp at h
  subst h
  rw [iT,Nat.zero_mul,a7,r6 (by simpa [Fl.cells] using hj)]
 | t :: ks,i+1,j,u,h,hj=>by
  rw [iT,o0 (by simp [Fl.cells];omega),show (i+1)*6+j-t.f.cells.length=i*6+j by simp [Fl.cells];omega]
  exact iC ks i j u (by simpa using h) hj
theorem qK(b o j:Nat):(⟨b,o,none⟩:Addr).add j=⟨b,o+j,none⟩:=by unfold Addr.add;split <;> simp_all
theorem Six.at{W:World}{g o:Nat}{f:Fl}(h:Six W g o f){j:Nat}{u:Value}(hj:f.cells[j]?=some u):W.cell? ⟨g,o+j,none⟩=some u:=by
 obtain⟨h0,h1,h2,h3,h4,h5⟩:=h
 match j,hj with
 | 0,hj=>simp [Fl.cells] at hj;subst hj;exact h0
 | 1,hj=>simp [Fl.cells] at hj;subst hj;exact h1
 | 2,hj=>simp [Fl.cells] at hj;subst hj;exact h2
 | 3,hj=>simp [Fl.cells] at hj;subst hj;exact h3
 | 4,hj=>simp [Fl.cells] at hj;subst hj;exact h4
 | 5,hj=>simp [Fl.cells] at hj;subst hj;exact h5
 | j+6,hj=>simp [Fl.cells] at hj
theorem ArgK.news{W:World}{ad:Addr}{n c:Nat}{ks:List Tr}(h:ArgK W (.slice (some ad) n c) ks):∀ j u,(aQ ks)[j]?=some u->W.cell? (ad.add j)=some u:=by
 intro j u hj
 have hjl:j<ks.length*6:=by have:=(i7.1 hj).1;rwa [eS] at this
 rcases h with⟨p,cap,e,rfl,-⟩ | ⟨g,off,cap,e,h2,h3,h4,h5⟩
 ·simp at hjl
 ·cases e
  obtain⟨t,ht⟩:∃ t,ks[j/6]?=some t:=⟨_,b7 (by omega)⟩
  have hg:=iC ks (j/6) (j%6) t ht (by omega)
  rw [show j/6*6+j%6=j by omega,hj] at hg
  have:=(h5 (j/6) t ht).at hg.symm
  rw [qK,<- this]
  congr 2
  omega
theorem oS(W:World)(a:Option Addr)(l c:Nat):(binOp .eql 22 (.slice a l c) (.slice none 0 0)).run Tryz.prog W=.ok (.bool a.isNone) W:=by
 unfold binOp
 simp [run_equal_slice_nil W _ _ a l c aU]
theorem oT(W:World)(a:Option Addr)(l c:Nat):(binOp .eql 23 (.slice a l c) (.slice none 0 0)).run Tryz.prog W=.ok (.bool a.isNone) W:=by
 unfold binOp
 simp [run_equal_slice_nil W _ _ a l c bY]
theorem rV{w:World}{q:Option Addr}{k:Nat}{L:List (Int×Int)}(h:ArgR w (.slice q L.length k) L)(hl:L.length+3<=8796093022208) :
  Calls Tryz.prog 40 #[.slice q L.length k] w fun e w'=>∃ q' k',e=.returned (.slice q' L.length k')/\RR w.heap.size w' (.slice q' L.length k') L/\Below w.heap.size w w':=by
 obtain⟨t0,hi,hz0,hz1,hz2⟩:=aW cA
 cases q with
 | none=>
  have hLn:L=[]/\k=0:=by
   rcases h with⟨p,cap,e,rfl,hp⟩ | ⟨g,off,cap,e,-⟩
   ·cases e;exact⟨rfl,hp rfl⟩
   ·cases e
  obtain⟨rfl,rfl⟩:=hLn
  have hq:=fun W=>oS W none 0 0
  clear h
  go_enter Tryz.func40,Tryz.ntmps40
  go_wp2
  go_ret
  exact⟨none,0,rfl,RR.nil _ _,Below.refl _ _⟩
 | some ad=>
  have hq:=fun W=>oS W (some ad) L.length k
  have B0:Below w.heap.size w (w.alloc (.cells #[] 53)):=bz9
  have OW:Hid ((w.alloc (.cells #[] 53)).ownsRow w.heap.size 53 2 (.slice (some ⟨w.heap.size,0,none⟩) 0 0) 0 []):=⟨rfl,.inr ⟨w.heap.size,0,#[],rfl,o5 _,aD w _,o5 _,m7 _,rfl,rfl⟩⟩
  have HG:=aB (h.kept B0).news
  clear h B0
  go_enter Tryz.func40,Tryz.ntmps40
  go_wp2_with (at_builtin;refine wpList_append_own_at _ rfl _ _ 22 rfl w.heap.size 53 t0 (.agg #[.int .i64 0,.int .i64 0]) 2 16 aU hi hz0 hz1 hz2 rfl (by decide) (.slice (some ⟨w.heap.size,0,none⟩) 0 0) 0 [] rfl OW.out ad L.length k (aH L) rfl (by rw [bV]) HG.out (eR L) (by unfold maxLen;omega) (by omega) (by simp) ?_;intro v' w6 hown' hgrow _ hblk;obtain⟨q6,cap6,rfl⟩:=aR hown';have O6:Hid (w6.ownsRow w.heap.size 53 2 (.slice q6 (0+L.length) cap6) (0+L.length) ([]++aH L)):=hown';have B6:Hid (Below w.heap.size w w6):=((((Fr.refl (fun k=>k=w.heap.size) w).alloc _).grown hgrow (fun k hk=>by(simp [Value.ownBlock] at hk;exact hk.symm))).below lz9 (fun k hk=>by omega));clear hown' hgrow hblk)
  go_ret
  have:=O6.out
  rw [a7,n9] at this
  exact⟨q6,cap6,by simp,this,B6.out⟩
theorem rW{w:World}{q:Option Addr}{k:Nat}{ks:List Tr}(h:ArgK w (.slice q ks.length k) ks)(hl:ks.length<=1000000) :
  Calls Tryz.prog 41 #[.slice q ks.length k] w fun e w'=>∃ q' k',e=.returned (.slice q' ks.length k')/\w'.ownsRow w.heap.size 25 6 (.slice q' ks.length k') ks.length (aQ ks)/\Below w.heap.size w w':=by
 obtain⟨t0,hi,hz0,hz1,hz2⟩:=aW fD
 cases q with
 | none=>
  have hLn:ks=[]/\k=0:=by
   rcases h with⟨p,cap,e,rfl,hp⟩ | ⟨g,off,cap,e,-⟩
   ·cases e;exact⟨rfl,hp rfl⟩
   ·cases e
  obtain⟨rfl,rfl⟩:=hLn
  have hq:=fun W=>oT W none 0 0
  clear h
  go_enter Tryz.func41,Tryz.ntmps41
  go_wp2
  go_ret
  exact⟨none,0,rfl,t4 _ _ _ _,Below.refl _ _⟩
 | some ad=>
  have hq:=fun W=>oT W (some ad) ks.length k
  have B0:Below w.heap.size w (w.alloc (.cells #[] 25)):=bz9
  have OW:Hid ((w.alloc (.cells #[] 25)).ownsRow w.heap.size 25 6 (.slice (some ⟨w.heap.size,0,none⟩) 0 0) 0 []):=⟨rfl,.inr ⟨w.heap.size,0,#[],rfl,o5 _,aD w _,o5 _,m7 _,rfl,rfl⟩⟩
  have HG:=aB (h.ck (CK.of_below B0)).news
  clear h B0
  go_enter Tryz.func41,Tryz.ntmps41
  go_wp2_with (at_builtin;refine wpList_append_own_at _ rfl _ _ 23 rfl w.heap.size 25 t0 (.agg #[.int .i64 0,.int .i64 0,.int .i64 0,.int .i64 0,.slice none 0 0,.slice none 0 0]) 6 80 bY hi hz0 hz1 hz2 rfl (by decide) (.slice (some ⟨w.heap.size,0,none⟩) 0 0) 0 [] rfl OW.out ad ks.length k (aQ ks) rfl (by rw [eS]) HG.out (kA ks) (by unfold maxLen;omega) (by omega) (by simp) ?_;intro v' w6 hown' hgrow _ hblk;obtain⟨q6,cap6,rfl⟩:=aR hown';have O6:Hid (w6.ownsRow w.heap.size 25 6 (.slice q6 (0+ks.length) cap6) (0+ks.length) ([]++aQ ks)):=hown';have B6:Hid (Below w.heap.size w w6):=((((Fr.refl (fun k=>k=w.heap.size) w).alloc _).grown hgrow (fun k hk=>by(simp [Value.ownBlock] at hk;exact hk.symm))).below lz9 (fun k hk=>by omega));clear hown' hgrow hblk)
  go_ret
  have:=O6.out
  rw [a7,n9] at this
  exact⟨q6,cap6,by simp,this,B6.out⟩
def oQ(N:Nat->Prop)(t:Tr):Prop:=(∀ a,t.f.rq=some a->t.f.rs≠[]->N a.block)/\(∀ a,t.f.kq=some a->t.ks≠[]->N a.block)
def Foot(N:Nat->Prop)(t:Tr):Prop:=bG (oQ N) t
theorem Foot.mono{N M:Nat->Prop}{t:Tr}(h:Foot N t)(hm:∀ k,N k->M k):Foot M t:=dA (fun _ q=>⟨fun a e z=>hm _ (q.1 a e z),fun a e z=>hm _ (q.2 a e z)⟩) t h
theorem NA.foot{W:World}{t:Tr}(h:NA W t):oQ (fun k=>k<W.heap.size) t:=by
 refine⟨fun a e hz=>?_,fun a e hz=>?_⟩
 ·rcases h.r with⟨p,cap,-,e2,-⟩ | ⟨g,off,cap,e2,hg,-⟩
  ·exact absurd e2 hz
  ·injection e2 with e3
   rw [e] at e3
   cases e3
   exact hg
 ·rcases h.k with⟨p,cap,-,e2,-⟩ | ⟨g,off,cap,e2,hg,-⟩
  ·exact absurd e2 hz
  ·injection e2 with e3
   rw [e] at e3
   cases e3
   exact hg
theorem TA.foot{W:World}{t:Tr}(h:TA W t):Foot (fun k=>k<W.heap.size) t:=dA (fun _=>NA.foot) t h
theorem NA.ckN{N:Nat->Prop}{W W':World}{t:Tr}(h:NA W t)(hf:oQ N t)(hc:CKeep N W W'):NA W' t:=by
 refine⟨?_,?_,h.fit,h.len,fun a e z=>?_,fun a e z=>?_⟩
 rotate_left 2
 ·obtain⟨cur,q⟩:=h.own.1 a e z
  exact⟨cur,hc.same _ _ _ _ (hf.1 a e z) q⟩
 ·obtain⟨cur,q⟩:=h.own.2 a e z
  exact⟨cur,hc.same _ _ _ _ (hf.2 a e z) q⟩
 ·rcases h.r with q | ⟨g,off,cap,e,hg,h1,h2,h3⟩
  ·exact .inl q
  ·injection e with e1 e2 e3
   refine .inr ⟨g,off,cap,by rw [e1,e3],j2 hg hc.size,h1,h2,fun i x hx=>?_⟩
   have hN:N g:=hf.1 _ e1 (fun z=>by rw [z] at hx;simp at hx)
   exact⟨cF hc (p:=⟨g,off+2*i,none⟩) hN (h3 i x hx).1,cF hc (p:=⟨g,off+2*i+1,none⟩) hN (h3 i x hx).2⟩
 ·rcases h.k with q | ⟨g,off,cap,e,hg,h1,h2,h3⟩
  ·exact .inl q
  ·injection e with e1 e2 e3
   refine .inr ⟨g,off,cap,by rw [e1,e2,e3],j2 hg hc.size,h1,h2,fun i x hx=>(h3 i x hx).ck hc (hf.2 _ e1 (fun z=>by rw [z] at hx;simp at hx))⟩
theorem fE{P Q R:Tr->Prop}(h:∀ t,P t->Q t->R t)(t:Tr):bG P t->bG Q t->bG R t:=by
 refine Tr.ind (P:=fun t=>bG P t->bG Q t->bG R t) (fun t ih hp hq=>?_) t
 exact(aL t).2 ⟨h t ((aL t).1 hp).1 ((aL t).1 hq).1,(aO _).2 fun u hu=>ih u hu (cH hp hu) (cH hq hu)⟩
theorem TA.ckN{N:Nat->Prop}{W W':World}{t:Tr}(h:TA W t)(hf:Foot N t)(hc:CKeep N W W'):TA W' t:=fE (fun _ a b=>NA.ckN a b hc) t h hf
structure KR(W:World)(g:Nat)(ks:List Tr):Prop where
 blk:∃ cur,W.heap[g]?=some (.cells cur 25 (0,0))
 six:∀ (i:Nat) (t:Tr),ks[i]?=some t->Six W g (i*6) t.f
theorem KR.of_row{W:World}{base g n c:Nat}{ks:List Tr}(h:W.ownsRow base 25 6 (.slice (some ⟨g,0,none⟩) n c) n (aQ ks)):KR W g ks:=by
 obtain⟨-,-,cur,hc⟩:=aG h (g:=g) rfl
 have at':∀ (i j:Nat) (t:Tr) (u:Value),ks[i]?=some t->t.f.cells[j]?=some u->W.cell? ⟨g,i*6+j,none⟩=some u:=fun i j t u hi hj=>
  bM h ((iC ks i j t hi (by have:=(i7.1 hj).1;simpa [Fl.cells] using this)).trans hj)
 exact⟨⟨cur,hc⟩,fun i t hi=>⟨at' i 0 t _ hi rfl,at' i 1 t _ hi rfl,at' i 2 t _ hi rfl,at' i 3 t _ hi rfl,at' i 4 t _ hi rfl,at' i 5 t _ hi rfl⟩⟩
theorem KR.arg{W:World}{g c:Nat}{ks:List Tr}(h:KR W g ks)(h1:ks.length<=c)(h2:c<=maxLen):ArgK W (.slice (some ⟨g,0,none⟩) ks.length c) ks:=by
 obtain⟨cur,hc⟩:=h.blk
 exact .inr ⟨g,0,c,rfl,aC hc,h1,h2,fun i t hi=>by rw [a7];exact h.six i t hi⟩
theorem KR.ck{N:Nat->Prop}{W W':World}{g:Nat}{ks:List Tr}(h:KR W g ks)(hc:CKeep N W W')(hg:N g):KR W' g ks:=by
 obtain⟨cur,hb⟩:=h.blk
 exact⟨⟨cur,hc.same _ _ _ _ hg hb⟩,fun i t hi=>(h.six i t hi).ck hc hg⟩
theorem KR.kept{W W':World}{g:Nat}{ks:List Tr}(h:KR W g ks)(hb:Below W.heap.size W W'):KR W' g ks:=by
 obtain⟨cur,hc⟩:=h.blk
 exact h.ck (CK.of_below hb) (aC hc)
theorem KR.frz{W:World}{g:Nat}{ks:List Tr}(h:KR W g ks)(j:Nat):W.frozen? ⟨g,j,none⟩=false:=by
 obtain⟨cur,hc⟩:=h.blk
 exact aJ hc j
theorem KR.lt{W:World}{g:Nat}{ks:List Tr}(h:KR W g ks):g<W.heap.size:=by
 obtain⟨cur,hc⟩:=h.blk
 exact aC hc
def bH(W:World)(b o:Nat)(f:Fl):World:=
 (((((W.setCell ⟨b,o,none⟩ (.int .i64 f.k)).setCell ⟨b,o+1,none⟩ (.int .i64 f.n)).setCell ⟨b,o+2,none⟩ (.int .i64 f.mn)).setCell ⟨b,o+3,none⟩ (.int .i64 f.mx)).setCell ⟨b,o+4,none⟩ (.slice f.rq f.rs.length f.rc)).setCell ⟨b,o+5,none⟩ (.slice f.kq f.kl f.kc)
theorem cE(W:World)(b o:Nat)(f:Fl):Fr (fun z=>z=b) W (bH W b o f):=by
 unfold bH
 exact((((((Fr.refl (fun z=>z=b) W).setCell (p:=⟨b,o,none⟩) rfl _).setCell (p:=⟨b,o+1,none⟩) rfl _).setCell (p:=⟨b,o+2,none⟩) rfl _).setCell (p:=⟨b,o+3,none⟩) rfl _).setCell (p:=⟨b,o+4,none⟩) rfl _).setCell (p:=⟨b,o+5,none⟩) rfl _
theorem cJ{W:World}{b o:Nat}{f g:Fl}(h:Six W b o f):Six (bH W b o g) b o g:=by
 obtain⟨k0,k1,k2,k3,k4,k5⟩:=h
 unfold bH
 refine⟨?_,?_,?_,?_,?_,?_⟩
 ·exact aE (aE (aE (aE (aE (j9 _ _ _ k0) (by omega)) (by omega)) (by omega)) (by omega)) (by omega)
 ·exact aE (aE (aE (aE (j9 _ _ _ (aE k1 (by omega))) (by omega)) (by omega)) (by omega)) (by omega)
 ·exact aE (aE (aE (j9 _ _ _ (aE (aE k2 (by omega)) (by omega))) (by omega)) (by omega)) (by omega)
 ·exact aE (aE (j9 _ _ _ (aE (aE (aE k3 (by omega)) (by omega)) (by omega))) (by omega)) (by omega)
 ·exact aE (j9 _ _ _ (aE (aE (aE (aE k4 (by omega)) (by omega)) (by omega)) (by omega))) (by omega)
 ·exact j9 _ _ _ (aE (aE (aE (aE (aE k5 (by omega)) (by omega)) (by omega)) (by omega)) (by omega))
theorem cX{W:World}{b o i:Nat}{f:Fl}{v:Value}(h:W.cell? ⟨b,i,none⟩=some v)(hi:i<o\/o+6<=i):(bH W b o f).cell? ⟨b,i,none⟩=some v:=by
 unfold bH
 exact aE (aE (aE (aE (aE (aE h (by omega)) (by omega)) (by omega)) (by omega)) (by omega)) (by omega)
theorem KR.set{W:World}{g:Nat}{ks:List Tr}(h:KR W g ks){i:Nat}(hi:i<ks.length)(t:Tr):KR (bH W g (i*6) t.f) g (ks.set i t):=by
 refine⟨?_,fun j u hj=>?_⟩
 ·unfold bH
  exact bO (bO (bO (bO (bO (bO h.blk _ _) _ _) _ _) _ _) _ _) _ _
 ·by_cases e:j=i
  ·subst e
   rw [List.getElem?_set_self hi] at hj
   cases hj
   exact cJ (h.six j _ (b7 hi))
  ·rw [List.getElem?_set_ne (Ne.symm e)] at hj
   obtain⟨k0,k1,k2,k3,k4,k5⟩:=h.six j u hj
   exact⟨cX k0 (by omega),cX k1 (by omega),cX k2 (by omega),cX k3 (by omega),cX k4 (by omega),cX k5 (by omega)⟩
end Go.Proofs.YtlamifbjklpdbaaGreat
